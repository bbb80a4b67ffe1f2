/-
  Marks in stages and chains: markCurveS, markStage, markStageS, markChain; a scene from which what was marked is dropped.
-/
import Derived.Test.YtlfdpambbgddoaaHelpSt
namespace Go.Proofs.Ytlfdpambbgddoaa
open Go.RowKit
set_option linter.unusedVariables false
set_option linter.unusedSimpArgs false

/-- what has turned is not looked at any more. -/
theorem Scene.drop {w w' w2 : World} {ag : List (Dat × Value)} {os os' : List Item} {bx : List (Nat × List Value)} {P : Nat → Prop} {lo hi : Nat} (h : Scene w w' ag os bx)
    (hc : Ch w' w2 P) (hP : ∀ k, P k → lo ≤ k ∧ k < hi) (hlo : w.heap.size ≤ lo)
    (hos : ∀ q ∈ os', q ∈ os ∧ (q.hi ≤ lo ∨ hi ≤ q.lo)) (hbx : ∀ p ∈ bx, p.1 < lo ∨ hi ≤ p.1) : Scene w w2 ag os' bx where
  arg p hp := by
    obtain ⟨bs, a, b⟩ := h.arg p hp
    exact ⟨bs, a.ch hc (fun x hx hPx => by have := hP x hPx; have := b x hx; omega), b⟩
  own p hp := by
    obtain ⟨a, b⟩ := hos p hp
    obtain ⟨o1, o2, o3⟩ := h.own p a
    exact ⟨o1.ch hc (fun k k1 k2 hPk => by have := hP k hPk; omega), o2, Nat.le_trans o3 hc.size⟩
  box p hp j x hx := by
    have hcell := h.box p hp j x hx
    rw [hc.cell (cell_lt hcell) (fun hPk => by have := hP _ hPk; have := hbx p hp; omega)]; exact hcell
  bel := h.bel.trans (hc.below (fun k hk => by have := hP k hk; omega) h.bel.size)
theorem kR_st (rs : Rws) (k : Nat) (hs : RsSmall rs) : kR rs k rs.length ≤ k + 1099511627776 := by
  have h1 := kR_le rs k hs rs.length (Nat.le_refl _)
  have h2 := hs.1
  have h3 : rs.length * 1048576 ≤ 1048576 * 1048576 := Nat.mul_le_mul_right _ (by omega)
  omega
theorem kR_ge (rs : Rws) (k i : Nat) : k ≤ kR rs k i := by
  induction i with
  | zero => exact Nat.le_refl _
  | succ i ih => simp only [kR]; omega
/-- some number, what lies in one interval has turned. -/
def MkAns (w : World) (k M lo hi : Nat) (e : Ending) (w' : World) : Prop := ∃ m : Nat, e = .returned (.int .i64 m) ∧ k ≤ m ∧ m ≤ M ∧ Ch w w' (fun b => lo ≤ b ∧ b < hi)
/-! ### marks in chains, each where it is -/
def q1T (t : Stg) (k : Nat) : Nat := kR t.cs (k + 1) t.cs.length
def q2T (t : Stg) (k : Nat) : Nat := kR t.rs (q1T t k) t.rs.length
def q3T (t : Stg) (k : Nat) : Nat := kR t.ns (q2T t k + 1) t.ns.length
def mkT (t : Stg) (k : Nat) : Stg := ⟨(k : Nat), mkRs t.cs (k + 1), mkRs t.rs (q1T t k), (q2T t k : Nat), mkRs t.ns (q2T t k + 1)⟩
def kC (ts : List Stg) (k : Nat) : Nat → Nat
  | 0 => k
  | i + 1 => q3T (st_ ts i) (kC ts k i)
def mkC (ts : List Stg) (k i : Nat) : List Stg := (List.range ts.length).map fun j => if j < i then mkT (st_ ts j) (kC ts k j) else st_ ts j
theorem mkC_len (ts : List Stg) (k i : Nat) : (mkC ts k i).length = ts.length := by simp [mkC]
theorem mkC_get {ts : List Stg} {k i j : Nat} (hj : j < ts.length) : st_ (mkC ts k i) j = if j < i then mkT (st_ ts j) (kC ts k j) else st_ ts j := by
  conv => lhs; unfold st_ mkC
  simp [List.getD, hj]
theorem mkC_zero (ts : List Stg) (k : Nat) : mkC ts k 0 = ts := by
  unfold mkC
  refine List.ext_getElem (by simp) (fun i h1 h2 => ?_)
  simp [st_, List.getD, h2]
theorem mkC_step {ts : List Stg} {k i : Nat} (hi : i < ts.length) : (mkC ts k i).set i (mkT (st_ ts i) (kC ts k i)) = mkC ts k (i + 1) := by
  refine List.ext_getElem (by simp [mkC]) (fun j h1 h2 => ?_)
  have hj : j < ts.length := by simpa [mkC] using h2
  by_cases e : j = i
  · subst e; simp [mkC]
  · rw [List.getElem_set_ne (by omega)]
    simp only [mkC, List.getElem_map, List.getElem_range]
    by_cases h : j < i
    · rw [if_pos h, if_pos (by omega)]
    · rw [if_neg h, if_neg (by omega)]
theorem q3T_le {t : Stg} {k : Nat} (hs : StSmall t) : k ≤ q3T t k ∧ q1T t k ≤ k + 1099511627777 ∧ q2T t k ≤ k + 2199023255553 ∧ q3T t k ≤ k + 3298534883330 ∧ k + 1 ≤ q1T t k ∧ q1T t k ≤ q2T t k ∧ q2T t k + 1 ≤ q3T t k := by
  have a1 := kR_st t.cs (k + 1) hs.1
  have a2 := kR_st t.rs (q1T t k) hs.2.1
  have a3 := kR_st t.ns (q2T t k + 1) hs.2.2
  have g1 := kR_ge t.cs (k + 1) t.cs.length
  have g2 := kR_ge t.rs (q1T t k) t.rs.length
  have g3 := kR_ge t.ns (q2T t k + 1) t.ns.length
  unfold q3T
  change q1T t k ≤ _ at a1
  change q2T t k ≤ _ at a2
  change _ ≤ q1T t k at g1
  change _ ≤ q2T t k at g2
  omega
theorem kC_le {ts : List Stg} (hs : ChSmall ts) (k : Nat) : ∀ i, i ≤ ts.length → k ≤ kC ts k i ∧ kC ts k i ≤ k + i * 3298534883330 := by
  intro i
  induction i with
  | zero => intro _; simp [kC]
  | succ i ih =>
    intro hi
    have h1 := ih (by omega)
    have h2 := q3T_le (k := kC ts k i) (hs.2 i (by omega))
    simp only [kC]
    omega
theorem kC_big {ts : List Stg} (hs : ChSmall ts) {k : Nat} (hk : k ≤ 4000000000000000000) {i : Nat} (hi : i ≤ ts.length) : k ≤ kC ts k i ∧ kC ts k i ≤ k + 3458764513831034880 := by
  have h1 := kC_le hs k i hi
  have h2 := hs.1
  have h3 : i * 3298534883330 ≤ 1048576 * 3298534883330 := Nat.mul_le_mul_right _ (by omega)
  omega
theorem putS {l : List Stg} {n i j : Nat} {d : Dat} {t' : Stg} (hl : l.length = n) (hi : i < n) (hj : j < 5) (e : stD t' = (stD (st_ l i)).set j d) : Put 5 n i j d (l.map stD) ((l.set i t').map stD) := by
  have hx : (l.set i t').map stD = setEl (l.map stD) i j d := by
    unfold setEl
    rw [List.map_set, st_el (by omega), e]
  rw [hx]
  exact put_setEl (by simp [hl]) hi (by rw [st_el (by omega)]; simpa [stD] using hj)
theorem Hd.blk {w : World} {m b o n c : Nat} {els : List (List Dat)} {bs : List Nat} (h : Hd w (.sl m els) (.slice (some ⟨b, o, none⟩) n c) bs) (hn : 0 < n) : b ∈ bs := by
  obtain ⟨-, -, -, hf⟩ := h.sl_inv
  obtain ⟨b', o', V, G, e, -, -, -, rfl⟩ := hf hn
  injection e with e
  injection e with e1 e2
  rw [e1]
  simp
theorem mk_int {w : World} {l : List Stg} {n c b o i j : Nat} {bs : List Nat} {z : Int} {t' : Stg} (h : Hd w (chD l) (.slice (some ⟨b, o, none⟩) n c) bs) (nd : bs.Nodup) (hi : i < n) (hj : j = 0 ∨ j = 3) (e : stD t' = (stD (st_ l i)).set j (.int .i64 z)) :
    Hd (w.setCell ⟨b, o + i * 5 + j, none⟩ (.int .i64 z)) (chD (l.set i t')) (.slice (some ⟨b, o, none⟩) n c) bs := by
  have hl := h.stgs.1
  obtain ⟨bs', h1, -, -, h4⟩ := Hd.fill (x0 := undef) h nd hi (show j < 5 by omega) (fun gs x hx => by
      have e1 : At (l.map stD) i j = (stD (st_ l i)).getD j default := by unfold At; rw [st_el (by omega)]
      rw [e1] at hx
      rcases hj with rfl | rfl <;> simp only [stD, List.getD_cons_zero, List.getD_cons_succ] at hx <;> cases hx <;> rfl)
    (.int .i64 z) (by simp) (by simp) (putS hl hi (by omega) e)
  rw [h4 rfl] at h1
  exact h1
theorem mk_rows {w : World} {l : List Stg} {n c b o i j : Nat} {bs : List Nat} {rs : Rws} (h : Hd w (chD l) (.slice (some ⟨b, o, none⟩) n c) bs) (nd : bs.Nodup) (hi : i < n) (hj : j < 5) (hat : (stD (st_ l i)).getD j default = rowsD rs) :
    ∃ B L C gs, w.cell? ⟨b, o + i * 5 + j, none⟩ = some (.slice B L C) ∧ Hd w (rowsD rs) (.slice B L C) gs ∧ (∀ g ∈ gs, g ∈ bs) ∧ gs.Nodup ∧ b ∉ gs ∧
      ∀ w' rs' t', Ch w w' (· ∈ gs) → Hd w' (rowsD rs') (.slice B L C) gs → stD t' = (stD (st_ l i)).set j (rowsD rs') → Hd w' (chD (l.set i t')) (.slice (some ⟨b, o, none⟩) n c) bs := by
  have hl := h.stgs.1
  obtain ⟨x, gs, hc, hd, hsub, hnb, hnd, hback⟩ := Hd.focus h nd hi hj
  have e1 : At (l.map stD) i j = (stD (st_ l i)).getD j default := by unfold At; rw [st_el (by omega)]
  rw [e1, hat] at hd
  obtain ⟨B, L, C, rfl⟩ := Hd.sl_form hd
  exact ⟨B, L, C, gs, hc, hd, hsub, hnd, hnb, fun w' rs' t' hch hd' e => hback w' _ _ hch hd' (putS hl hi hj e)⟩
theorem st_set {l : List Stg} {j : Nat} {t : Stg} (h : j < l.length) : st_ (l.set j t) j = t := by unfold st_; simp [List.getD, h]
end Go.Proofs.Ytlfdpambbgddoaa

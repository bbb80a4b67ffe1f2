/-
  Marks in stages and chains: markCurveS, markStage, markStageS, markChain; a scene from which what was marked is dropped.
-/
import Derived.Test.YtlfdpambbgddoaaGreatHelpSt
namespace Go.Proofs.YtlfdpambbgddoaaGreat
open Go.RowKit
set_option linter.unusedVariables false
set_option linter.unusedSimpArgs false

/-- what has turned is not looked at any more. -/
theorem Scene.drop {w w' w2 : World} {ag : List (Dat × Value)} {os os' : List Item} {bx : List (Nat × List Value)} {P : Nat → Prop} {lo hi : Nat} (h : Scene w w' ag os bx)
    (hc : Ch w' w2 P) (hP : ∀ k, P k → lo ≤ k ∧ k < hi) (hlo : w.heap.size ≤ lo)
    (hos : ∀ q ∈ os', q ∈ os ∧ (q.hi ≤ lo ∨ hi ≤ q.lo)) (hbx : ∀ p ∈ bx, p.1 < lo ∨ hi ≤ p.1) : Scene w w2 ag os' bx where
  arg p hp := by
    obtain ⟨bs, a, b⟩ := h.arg p hp
    exact ⟨bs, a.ch hc (fun x hx hPx => by have := hP x hPx; have := b x hx; omega), b⟩
  own p hp := by
    obtain ⟨a, b⟩ := hos p hp
    obtain ⟨o1, o2, o3⟩ := h.own p a
    exact ⟨o1.ch hc (fun k k1 k2 hPk => by have := hP k hPk; omega), o2, Nat.le_trans o3 hc.size⟩
  box p hp j x hx := by
    have hcell := h.box p hp j x hx
    rw [hc.cell (cell_lt hcell) (fun hPk => by have := hP _ hPk; have := hbx p hp; omega)]; exact hcell
  bel := h.bel.trans (hc.below (fun k hk => by have := hP k hk; omega) h.bel.size)
set_option maxHeartbeats 1000000 in
theorem markCurveS_any (A : Option Addr) (n c k : Nat) (rs : Rws) (bs : List Nat) (w : World) (h : Hd w (rowsD rs) (.slice A n c) bs) (nd : bs.Nodup) (hf : ∀ b ∈ bs, Thaw w b) (hs : RsSmall rs) (hk : k ≤ 8000000000000000000) :
    Calls Tryz.prog 57 #[.slice A n c, .int .i64 k] w fun e w' => e = .returned (.int .i64 (kR rs k rs.length)) ∧ Hd w' (rowsD (mkR rs k rs.length)) (.slice A n c) bs ∧ Ch w w' (· ∈ bs) := by
  have hl := h.rows.1
  have hn : n ≤ 1048576 := by have := hs.1; omega
  have HL := Lib.hid hl
  have H := Lib.hid h
  have HS := Lib.hid hs
  have ND := Lib.hid nd
  have HF := Lib.hid hf
  clear h hs nd hf hl
  go_enter Tryz.func57, Tryz.ntmps57
  go_wp2
  go_loopw [1, 5] (fun q i wr => ∃ j : Nat, j ≤ n ∧ i = .int .i64 j ∧ q = .int .i64 (kR rs k j : Nat) ∧ Hd wr (rowsD (mkR rs k j)) (.slice A n c) bs ∧ Ch w wr (· ∈ bs)) (fun _ i _ => n - (intOf i).toNat)
  case atStart => exact ⟨0, by omega, rfl, rfl, by rw [mkR_zero]; exact H.out, Ch.refl _ _⟩
  case round =>
    obtain ⟨j, hj, rfl, rfl, hd, hch⟩ := hrel
    by_cases hlt : j < n
    · obtain ⟨b, o, _, _, _, _, rfl, -, -, -⟩ := hd.row hlt
      have hkb := kR_big HS.out hk (i := j) (by rw [HL.out]; omega)
      obtain ⟨B, L, C, gs, y1, hd2, hsub, hback⟩ := mkR_row HL.out hlt hd ND.out
      have hL : L ≤ 1048576 := by rw [← hd2.rd.1]; exact HS.out.2 j (by rw [HL.out]; exact hlt)
      have HTH := Lib.hid (show ∀ g ∈ gs, Thaw wr g from fun g hg => (HF.out g (hsub g hg)).ch hch (H.out.lt g (hsub g hg)))
      have HCH := Lib.hid hch
      have HD2 := Lib.hid hd2
      have HBK := Lib.hid hback
      have HSUB := Lib.hid hsub
      have HLL := Lib.hid hd2.rd.1
      clear hd hd2 hsub hback hch
      go_wp2_with fail
      refine (markInt64S_any _ _ _ _ _ gs _ HD2.out (by omega) (by omega) (by omega) HTH.out).mono ?_
      rintro e w2 ⟨rfl, hd3, hch3⟩
      have HD3 := Lib.hid hd3
      have HCH3 := Lib.hid hch3
      clear hd3 hch3 y1
      go_wp2_with fail
      go_roundw
      case rel =>
        refine ⟨j + 1, by omega, by go_num, ?_, HBK.out _ HCH3.out HD3.out, HCH.out.trans (HCH3.out.mono HSUB.out)⟩
        rw [kR, HLL.out]; go_num
      case measure => simp [intOf]; omega
    · obtain rfl : j = n := by omega
      have HD := Lib.hid hd
      have HCH := Lib.hid hch
      clear hd hch
      go_wp2
      go_ret
      refine ⟨ret_int (by rw [HL.out]), ?_, HCH.out⟩
      rw [HL.out]; exact HD.out
theorem kR_st (rs : Rws) (k : Nat) (hs : RsSmall rs) : kR rs k rs.length ≤ k + 1099511627776 := by
  have h1 := kR_le rs k hs rs.length (Nat.le_refl _)
  have h2 := hs.1
  have h3 : rs.length * 1048576 ≤ 1048576 * 1048576 := Nat.mul_le_mul_right _ (by omega)
  omega
theorem kR_ge (rs : Rws) (k i : Nat) : k ≤ kR rs k i := by
  induction i with
  | zero => exact Nat.le_refl _
  | succ i ih => simp only [kR]; omega
/-- some number, what lies in one interval has turned. -/
def MkAns (w : World) (k M lo hi : Nat) (e : Ending) (w' : World) : Prop := ∃ m : Nat, e = .returned (.int .i64 m) ∧ k ≤ m ∧ m ≤ M ∧ Ch w w' (fun b => lo ≤ b ∧ b < hi)
/-! ### marks in chains, each where it is -/
def q1T (t : Stg) (k : Nat) : Nat := kR t.cs (k + 1) t.cs.length
def q2T (t : Stg) (k : Nat) : Nat := kR t.rs (q1T t k) t.rs.length
def q3T (t : Stg) (k : Nat) : Nat := kR t.ns (q2T t k + 1) t.ns.length
def mkT (t : Stg) (k : Nat) : Stg := ⟨(k : Nat), mkRs t.cs (k + 1), mkRs t.rs (q1T t k), (q2T t k : Nat), mkRs t.ns (q2T t k + 1)⟩
def kC (ts : List Stg) (k : Nat) : Nat → Nat
  | 0 => k
  | i + 1 => q3T (st_ ts i) (kC ts k i)
def mkC (ts : List Stg) (k i : Nat) : List Stg := (List.range ts.length).map fun j => if j < i then mkT (st_ ts j) (kC ts k j) else st_ ts j
theorem mkC_len (ts : List Stg) (k i : Nat) : (mkC ts k i).length = ts.length := by simp [mkC]
theorem mkC_get {ts : List Stg} {k i j : Nat} (hj : j < ts.length) : st_ (mkC ts k i) j = if j < i then mkT (st_ ts j) (kC ts k j) else st_ ts j := by
  conv => lhs; unfold st_ mkC
  simp [List.getD, hj]
theorem mkC_zero (ts : List Stg) (k : Nat) : mkC ts k 0 = ts := by
  unfold mkC
  refine List.ext_getElem (by simp) (fun i h1 h2 => ?_)
  simp [st_, List.getD, h2]
theorem mkC_step {ts : List Stg} {k i : Nat} (hi : i < ts.length) : (mkC ts k i).set i (mkT (st_ ts i) (kC ts k i)) = mkC ts k (i + 1) := by
  refine List.ext_getElem (by simp [mkC]) (fun j h1 h2 => ?_)
  have hj : j < ts.length := by simpa [mkC] using h2
  by_cases e : j = i
  · subst e; simp [mkC]
  · rw [List.getElem_set_ne (by omega)]
    simp only [mkC, List.getElem_map, List.getElem_range]
    by_cases h : j < i
    · rw [if_pos h, if_pos (by omega)]
    · rw [if_neg h, if_neg (by omega)]
theorem q3T_le {t : Stg} {k : Nat} (hs : StSmall t) : k ≤ q3T t k ∧ q1T t k ≤ k + 1099511627777 ∧ q2T t k ≤ k + 2199023255553 ∧ q3T t k ≤ k + 3298534883330 ∧ k + 1 ≤ q1T t k ∧ q1T t k ≤ q2T t k ∧ q2T t k + 1 ≤ q3T t k := by
  have a1 := kR_st t.cs (k + 1) hs.1
  have a2 := kR_st t.rs (q1T t k) hs.2.1
  have a3 := kR_st t.ns (q2T t k + 1) hs.2.2
  have g1 := kR_ge t.cs (k + 1) t.cs.length
  have g2 := kR_ge t.rs (q1T t k) t.rs.length
  have g3 := kR_ge t.ns (q2T t k + 1) t.ns.length
  unfold q3T
  change q1T t k ≤ _ at a1
  change q2T t k ≤ _ at a2
  change _ ≤ q1T t k at g1
  change _ ≤ q2T t k at g2
  omega
theorem kC_le {ts : List Stg} (hs : ChSmall ts) (k : Nat) : ∀ i, i ≤ ts.length → k ≤ kC ts k i ∧ kC ts k i ≤ k + i * 3298534883330 := by
  intro i
  induction i with
  | zero => intro _; simp [kC]
  | succ i ih =>
    intro hi
    have h1 := ih (by omega)
    have h2 := q3T_le (k := kC ts k i) (hs.2 i (by omega))
    simp only [kC]
    omega
theorem kC_big {ts : List Stg} (hs : ChSmall ts) {k : Nat} (hk : k ≤ 4000000000000000000) {i : Nat} (hi : i ≤ ts.length) : k ≤ kC ts k i ∧ kC ts k i ≤ k + 3458764513831034880 := by
  have h1 := kC_le hs k i hi
  have h2 := hs.1
  have h3 : i * 3298534883330 ≤ 1048576 * 3298534883330 := Nat.mul_le_mul_right _ (by omega)
  omega
theorem putS {l : List Stg} {n i j : Nat} {d : Dat} {t' : Stg} (hl : l.length = n) (hi : i < n) (hj : j < 5) (e : stD t' = (stD (st_ l i)).set j d) : Put 5 n i j d (l.map stD) ((l.set i t').map stD) := by
  have hx : (l.set i t').map stD = setEl (l.map stD) i j d := by
    unfold setEl
    rw [List.map_set, st_el (by omega), e]
  rw [hx]
  exact put_setEl (by simp [hl]) hi (by rw [st_el (by omega)]; simpa [stD] using hj)
theorem Hd.blk {w : World} {m b o n c : Nat} {els : List (List Dat)} {bs : List Nat} (h : Hd w (.sl m els) (.slice (some ⟨b, o, none⟩) n c) bs) (hn : 0 < n) : b ∈ bs := by
  obtain ⟨-, -, -, hf⟩ := h.sl_inv
  obtain ⟨b', o', V, G, e, -, -, -, rfl⟩ := hf hn
  injection e with e
  injection e with e1 e2
  rw [e1]
  simp
theorem mk_int {w : World} {l : List Stg} {n c b o i j : Nat} {bs : List Nat} {z : Int} {t' : Stg} (h : Hd w (chD l) (.slice (some ⟨b, o, none⟩) n c) bs) (nd : bs.Nodup) (hi : i < n) (hj : j = 0 ∨ j = 3) (e : stD t' = (stD (st_ l i)).set j (.int .i64 z)) :
    Hd (w.setCell ⟨b, o + i * 5 + j, none⟩ (.int .i64 z)) (chD (l.set i t')) (.slice (some ⟨b, o, none⟩) n c) bs := by
  have hl := h.stgs.1
  obtain ⟨bs', h1, -, -, h4⟩ := Hd.fill (x0 := undef) h nd hi (show j < 5 by omega) (fun gs x hx => by
      have e1 : At (l.map stD) i j = (stD (st_ l i)).getD j default := by unfold At; rw [st_el (by omega)]
      rw [e1] at hx
      rcases hj with rfl | rfl <;> simp only [stD, List.getD_cons_zero, List.getD_cons_succ] at hx <;> cases hx <;> rfl)
    (.int .i64 z) (by simp) (by simp) (putS hl hi (by omega) e)
  rw [h4 rfl] at h1
  exact h1
theorem mk_rows {w : World} {l : List Stg} {n c b o i j : Nat} {bs : List Nat} {rs : Rws} (h : Hd w (chD l) (.slice (some ⟨b, o, none⟩) n c) bs) (nd : bs.Nodup) (hi : i < n) (hj : j < 5) (hat : (stD (st_ l i)).getD j default = rowsD rs) :
    ∃ B L C gs, w.cell? ⟨b, o + i * 5 + j, none⟩ = some (.slice B L C) ∧ Hd w (rowsD rs) (.slice B L C) gs ∧ (∀ g ∈ gs, g ∈ bs) ∧ gs.Nodup ∧ b ∉ gs ∧
      ∀ w' rs' t', Ch w w' (· ∈ gs) → Hd w' (rowsD rs') (.slice B L C) gs → stD t' = (stD (st_ l i)).set j (rowsD rs') → Hd w' (chD (l.set i t')) (.slice (some ⟨b, o, none⟩) n c) bs := by
  have hl := h.stgs.1
  obtain ⟨x, gs, hc, hd, hsub, hnb, hnd, hback⟩ := Hd.focus h nd hi hj
  have e1 : At (l.map stD) i j = (stD (st_ l i)).getD j default := by unfold At; rw [st_el (by omega)]
  rw [e1, hat] at hd
  obtain ⟨B, L, C, rfl⟩ := Hd.sl_form hd
  exact ⟨B, L, C, gs, hc, hd, hsub, hnd, hnb, fun w' rs' t' hch hd' e => hback w' _ _ hch hd' (putS hl hi hj e)⟩
theorem st_set {l : List Stg} {j : Nat} {t : Stg} (h : j < l.length) : st_ (l.set j t) j = t := by unfold st_; simp [List.getD, h]
set_option maxRecDepth 100000 in
set_option maxHeartbeats 4000000 in
theorem markStageS_any (A : Option Addr) (n c k : Nat) (ts : List Stg) (bs : List Nat) (w : World) (h : Hd w (chD ts) (.slice A n c) bs) (nd : bs.Nodup) (hf : ∀ b ∈ bs, Thaw w b) (hs : ChSmall ts) (hk : k ≤ 4000000000000000000) :
    Calls Tryz.prog 34 #[.slice A n c, .int .i64 k] w fun e w' => e = .returned (.int .i64 (kC ts k ts.length)) ∧ Hd w' (chD (mkC ts k ts.length)) (.slice A n c) bs ∧ Ch w w' (· ∈ bs) := by
  have hl := h.stgs.1
  have hn : n ≤ 1048576 := by have := hs.1; omega
  have HL := Lib.hid hl
  have H := Lib.hid h
  have HS := Lib.hid hs
  have ND := Lib.hid nd
  have HF := Lib.hid hf
  clear h hs nd hf hl
  go_enter Tryz.func34, Tryz.ntmps34
  go_wp2
  go_loopw [1, 5] (fun q i wr => ∃ j : Nat, j ≤ n ∧ i = .int .i64 j ∧ q = .int .i64 (kC ts k j : Nat) ∧ Hd wr (chD (mkC ts k j)) (.slice A n c) bs ∧ Ch w wr (· ∈ bs)) (fun _ i _ => n - (intOf i).toNat)
  case atStart => exact ⟨0, by omega, rfl, rfl, by rw [mkC_zero]; exact H.out, Ch.refl _ _⟩
  case round =>
    obtain ⟨j, hj, rfl, rfl, hd, hch⟩ := hrel
    by_cases hlt : j < n
    · obtain ⟨b, oo, _, _, _, _, _, _, _, _, _, rfl, -⟩ := hd.stg hlt
      have hkb := kC_big HS.out hk (i := j) (by rw [HL.out]; omega)
      have hsm := HS.out.2 j (by rw [HL.out]; exact hlt)
      have hq := q3T_le (k := kC ts k j) hsm
      have HLT : Hid (∀ g ∈ bs, g < w.heap.size) := H.out.lt
      have HBB := Lib.hid (hd.blk (by omega))
      have HT : Hid (st_ (mkC ts k j) j = st_ ts j) := by show _ = _; rw [mkC_get (by rw [HL.out]; exact hlt), if_neg (by omega)]
      have HML : Hid ((mkC ts k j).length = n) := by show _ = _; rw [mkC_len, HL.out]
      have HST : Hid ((mkC ts k j).set j (mkT (st_ ts j) (kC ts k j)) = mkC ts k (j + 1)) := mkC_step (by rw [HL.out]; exact hlt)
      have HKC : Hid (kC ts k (j + 1) = q3T (st_ ts j) (kC ts k j)) := rfl
      obtain ⟨K, hK⟩ : ∃ K, K = kC ts k j := ⟨_, rfl⟩
      obtain ⟨l, hll⟩ : ∃ l, l = mkC ts k j := ⟨_, rfl⟩
      obtain ⟨t, ht⟩ : ∃ t, t = st_ ts j := ⟨_, rfl⟩
      rw [← hK] at hkb hq HST HKC ⊢
      rw [← hll] at hd HT HML HST
      rw [← ht] at hsm hq HT HST HKC
      have HSM := Lib.hid hsm
      -- the place itself
      have g0 : ∃ x, wr.cell? ⟨b, oo + j * 5, none⟩ = some x := by
        obtain ⟨x, gs, hc, -⟩ := Hd.focus hd ND.out hlt (show 0 < 5 by omega)
        exact ⟨x, hc⟩
      obtain ⟨x0, g0⟩ := g0
      have gb := cell_lt g0
      have HTW := Lib.hid (show ∀ W, Ch w W (· ∈ bs) → ∀ g ∈ bs, Thaw W g from fun W hW g hg => (HF.out g hg).ch hW (H.out.lt g hg))
      have gf := HTW.out _ hch b HBB.out (oo + j * 5)
      have d1 := mk_int (z := (K : Int)) (t' := ⟨(K : Nat), t.cs, t.rs, t.sd, t.ns⟩) hd ND.out hlt (.inl rfl) (by rw [HT.out]; rfl)
      have c1 := hch.trans (Ch.setCell wr (P := (· ∈ bs)) HBB.out (oo + j * 5) (.int .i64 (K : Int)))
      obtain ⟨W1, hW1⟩ : ∃ W, W = wr.setCell ⟨b, oo + j * 5, none⟩ (.int .i64 (K : Int)) := ⟨_, rfl⟩
      rw [Nat.add_zero, ← hW1] at d1
      rw [← hW1] at c1
      have hjl : j < l.length := by rw [HML.out]; exact hlt
      have HJL := Lib.hid hjl
      have T1 := Lib.hid (st_set (t := ⟨(K : Nat), t.cs, t.rs, t.sd, t.ns⟩) hjl)
      obtain ⟨l1, hl1⟩ : ∃ l1, l1 = l.set j ⟨(K : Nat), t.cs, t.rs, t.sd, t.ns⟩ := ⟨_, rfl⟩
      have HL1 := Lib.hid hl1
      have hj1 : j < l1.length := by rw [hl1, List.length_set]; exact hjl
      rw [← hl1] at d1 T1
      obtain ⟨B1, L1, C1, gs1, y1, r1, sub1, nd1, nb1, back1⟩ := mk_rows (j := 1) (rs := t.cs) d1 ND.out hlt (by omega) (by rw [T1.out]; rfl)
      have R1 := Lib.hid r1
      have BK1 := Lib.hid back1
      have SB1 := Lib.hid sub1
      have N1 := Lib.hid nd1
      have CH1 := Lib.hid c1
      have HW1 := Lib.hid hW1
      have wk1 : IntKind.i64.wrap ((K : Int) + 1) = ((K + 1 : Nat) : Int) := by rw [IntWalk.i64_in _ (by omega)]; simp
      have g1 : wr.cell? ⟨b, oo + j * 5 + 1, none⟩ = some (.slice B1 L1 C1) := by
        rw [hW1, World.cell?_setCell_other _ _ _ _ (by simp only [ne_eq, Addr.mk.injEq, not_and]; intro q; omega)] at y1
        exact y1
      clear d1 c1 r1 back1 sub1 nd1 nb1 hch hd hK hll ht hsm hW1 hl1 y1
      go_wp2_with fail
      rw [← HW1.out]
      refine (markCurveS_any B1 L1 C1 (K + 1) t.cs gs1 _ R1.out N1.out (fun g hg => HTW.out _ CH1.out g (SB1.out g hg)) HSM.out.1 (by omega)).mono ?_
      rintro e w2 ⟨rfl, hd2, hch2⟩
      have CH2 := Lib.hid (CH1.out.trans (hch2.mono SB1.out))
      have d2 := BK1.out w2 (mkRs t.cs (K + 1)) ⟨(K : Nat), mkRs t.cs (K + 1), t.rs, t.sd, t.ns⟩ hch2 hd2 (by rw [T1.out]; rfl)
      have T2 := Lib.hid (st_set (t := ⟨(K : Nat), mkRs t.cs (K + 1), t.rs, t.sd, t.ns⟩) hj1)
      obtain ⟨l2, hl2⟩ : ∃ l2, l2 = l1.set j ⟨(K : Nat), mkRs t.cs (K + 1), t.rs, t.sd, t.ns⟩ := ⟨_, rfl⟩
      have HL2 := Lib.hid hl2
      have hj2 : j < l2.length := by rw [hl2, List.length_set]; exact hj1
      rw [← hl2] at d2 T2
      obtain ⟨B2, L2, C2, gs2, y2, r2, sub2, nd2, nb2, back2⟩ := mk_rows (j := 2) (rs := t.rs) d2 ND.out hlt (by omega) (by rw [T2.out]; rfl)
      have R2 := Lib.hid r2
      have BK2 := Lib.hid back2
      have SB2 := Lib.hid sub2
      have N2 := Lib.hid nd2
      have hq1 : kR t.cs (K + 1) t.cs.length = q1T t K := rfl
      rw [hq1]
      obtain ⟨Q1, hQ1⟩ : ∃ Q, Q = q1T t K := ⟨_, rfl⟩
      have HQ1 := Lib.hid hQ1
      rw [← hQ1] at hq ⊢
      clear d2 r2 back2 sub2 nd2 nb2 hch2 hd2 hl2 hq1 hQ1 g0 g1 gb gf HW1 wk1 BK1 SB1 N1 R1 CH1
      go_wp2_with fail
      refine (markInt64SS_any B2 L2 C2 Q1 t.rs gs2 _ R2.out N2.out (fun g hg => HTW.out _ CH2.out g (SB2.out g hg)) HSM.out.2.1 (by omega)).mono ?_
      rintro e w3 ⟨rfl, hd3, hch3⟩
      have CH3 := Lib.hid (CH2.out.trans (hch3.mono SB2.out))
      have d3 := BK2.out w3 (mkRs t.rs Q1) ⟨(K : Nat), mkRs t.cs (K + 1), mkRs t.rs Q1, t.sd, t.ns⟩ hch3 hd3 (by rw [T2.out]; rfl)
      have T3 := Lib.hid (st_set (t := ⟨(K : Nat), mkRs t.cs (K + 1), mkRs t.rs Q1, t.sd, t.ns⟩) hj2)
      obtain ⟨l3, hl3⟩ : ∃ l3, l3 = l2.set j ⟨(K : Nat), mkRs t.cs (K + 1), mkRs t.rs Q1, t.sd, t.ns⟩ := ⟨_, rfl⟩
      have HL3 := Lib.hid hl3
      have hj3 : j < l3.length := by rw [hl3, List.length_set]; exact hj2
      rw [← hl3] at d3 T3
      have hq2 : kR t.rs Q1 t.rs.length = q2T t K := by rw [HQ1.out]; rfl
      rw [hq2]
      obtain ⟨Q2, hQ2⟩ : ∃ Q, Q = q2T t K := ⟨_, rfl⟩
      have HQ2 := Lib.hid hQ2
      rw [← hQ2] at hq ⊢
      have g3 : ∃ x, w3.cell? ⟨b, oo + j * 5 + 3, none⟩ = some x := by
        obtain ⟨x, gs, hc, -⟩ := Hd.focus d3 ND.out hlt (show 3 < 5 by omega)
        exact ⟨x, hc⟩
      obtain ⟨x3, g3⟩ := g3
      have gb := cell_lt g3
      have gf := HTW.out _ CH3.out b HBB.out (oo + j * 5 + 3)
      have d4 := mk_int (z := (Q2 : Int)) (t' := ⟨(K : Nat), mkRs t.cs (K + 1), mkRs t.rs Q1, (Q2 : Nat), t.ns⟩) d3 ND.out hlt (.inr rfl) (by rw [T3.out]; rfl)
      have c4 := CH3.out.trans (Ch.setCell w3 (P := (· ∈ bs)) HBB.out (oo + j * 5 + 3) (.int .i64 (Q2 : Int)))
      obtain ⟨W4, hW4⟩ : ∃ W, W = w3.setCell ⟨b, oo + j * 5 + 3, none⟩ (.int .i64 (Q2 : Int)) := ⟨_, rfl⟩
      rw [← hW4] at d4 c4
      have T4 := Lib.hid (st_set (t := ⟨(K : Nat), mkRs t.cs (K + 1), mkRs t.rs Q1, (Q2 : Nat), t.ns⟩) hj3)
      obtain ⟨l4, hl4⟩ : ∃ l4, l4 = l3.set j ⟨(K : Nat), mkRs t.cs (K + 1), mkRs t.rs Q1, (Q2 : Nat), t.ns⟩ := ⟨_, rfl⟩
      have HL4 := Lib.hid hl4
      rw [← hl4] at d4 T4
      obtain ⟨B4, L4, C4, gs4, y4, r4, sub4, nd4, nb4, back4⟩ := mk_rows (j := 4) (rs := t.ns) d4 ND.out hlt (by omega) (by rw [T4.out]; rfl)
      have R4 := Lib.hid r4
      have BK4 := Lib.hid back4
      have SB4 := Lib.hid sub4
      have N4 := Lib.hid nd4
      have CH4 := Lib.hid c4
      have HW4 := Lib.hid hW4
      have wk4 : IntKind.i64.wrap ((Q2 : Int) + 1) = ((Q2 + 1 : Nat) : Int) := by rw [IntWalk.i64_in _ (by omega)]; simp
      have g4 : w3.cell? ⟨b, oo + j * 5 + 3 + 1, none⟩ = some (.slice B4 L4 C4) := by
        rw [hW4, World.cell?_setCell_other _ _ _ _ (by simp only [ne_eq, Addr.mk.injEq, not_and]; intro q; omega)] at y4
        exact y4
      clear d3 d4 c4 r4 back4 sub4 nd4 nb4 hch3 hd3 hl3 hl4 hq2 hQ2 hW4 y4 y2 BK2 SB2 N2 R2 CH2 CH3
      go_wp2_with fail
      rw [← HW4.out]
      refine (markInt64SS_any B4 L4 C4 (Q2 + 1) t.ns gs4 _ R4.out N4.out (fun g hg => HTW.out _ CH4.out g (SB4.out g hg)) HSM.out.2.2 (by omega)).mono ?_
      rintro e w5 ⟨rfl, hd5, hch5⟩
      have CH5 := Lib.hid (CH4.out.trans (hch5.mono SB4.out))
      have d5 : Hid (Hd w5 (chD (mkC ts k (j + 1))) (.slice (some ⟨b, oo, none⟩) n c) bs) := by
        have q := BK4.out w5 (mkRs t.ns (Q2 + 1)) (mkT t K) hch5 hd5 (by rw [T4.out, HQ1.out, HQ2.out]; rfl)
        rw [HL4.out, HL3.out, HL2.out, HL1.out, List.set_set, List.set_set, List.set_set, List.set_set, HST.out] at q
        exact q
      have hq3 : kR t.ns (Q2 + 1) t.ns.length = kC ts k (j + 1) := by rw [HQ2.out, HKC.out]; rfl
      rw [hq3]
      clear hq3 hch5 hd5 g3 gb gf g4 wk4
      go_wp2_with fail
      go_roundw
      case rel => exact ⟨j + 1, by omega, by go_num, rfl, d5.out, CH5.out⟩
      case measure => simp [intOf]; omega
    · obtain rfl : j = n := by omega
      have HD := Lib.hid hd
      have HCH := Lib.hid hch
      clear hd hch
      go_wp2
      go_ret
      refine ⟨ret_int (by rw [HL.out]), ?_, HCH.out⟩
      rw [HL.out]; exact HD.out
set_option maxHeartbeats 400000 in
theorem markChain_any (A : Option Addr) (n c k : Nat) (ts : List Stg) (bs : List Nat) (w : World) (h : Hd w (chD ts) (.slice A n c) bs) (nd : bs.Nodup) (hf : ∀ b ∈ bs, Thaw w b) (hs : ChSmall ts) (hk : k ≤ 4000000000000000000) :
    Calls Tryz.prog 12 #[.agg #[.slice A n c], .int .i64 k] w fun e w' => e = .returned (.int .i64 (kC ts k ts.length)) ∧ Hd w' (chD (mkC ts k ts.length)) (.slice A n c) bs ∧ Ch w w' (· ∈ bs) := by
  have H := Lib.hid h
  have HS := Lib.hid hs
  have ND := Lib.hid nd
  have HF := Lib.hid hf
  clear h hs nd hf
  go_enter Tryz.func12, Tryz.ntmps12
  go_wp2_with fail
  refine (markStageS_any A n c k ts bs _ (H.out.alloc _) ND.out (fun b hb => (HF.out b hb).ch (Ch.of_below (fun _ => False) (blAlloc _ _)) (H.out.lt b hb)) HS.out hk).mono ?_
  rintro e w1 ⟨rfl, hd, hch⟩
  have HD := Lib.hid hd
  have HCH := Lib.hid ((Ch.of_below (· ∈ bs) (blAlloc w (.cells #[.slice A n c] 34))).trans hch)
  clear hd hch
  go_wp2_with fail
  go_ret
  exact ⟨rfl, HD.out, HCH.out⟩
end Go.Proofs.YtlfdpambbgddoaaGreat

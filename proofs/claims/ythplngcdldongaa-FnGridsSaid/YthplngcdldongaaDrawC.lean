/-
  The draws of curves: l1DrawLevel, l3Draw.
-/
import Derived.Test.YthplngcdldongaaDrawT
import Derived.Test.YthplngcdldongaaCurL
import Derived.StillTailTactics
namespace Go.Proofs.Ythplngcdldongaa
open Go.RowKit
set_option linter.unusedVariables false

def LevP (r : Int) : Prop := 0 ≤ r ∧ r ≤ 65535
set_option maxHeartbeats 400000 in
theorem drawLevel_any (g : Nat) (A : Option Addr) (n c : Nat) (xs : List Int) (q : Int) (w : World) (h : Src w g A n c xs q) (hq : q ≤ 900000000) :
    Calls Try.prog 102 #[.pointer (some ⟨g, 0, none⟩)] w (DrawI w g A n c xs q 2 LevP) := by
  have HS := Lib.hid h
  clear h
  go_enter Try.func102, Try.ntmps102
  go_wp2_with fail
  refine (next_any g A n c xs q 65536 _ HS.out (by omega) (by omega)).mono ?_
  rintro e w1 ⟨r, ⟨hr0, hr1⟩, rfl, hs1, hg1⟩
  have hr2 := hr1 (by omega)
  have HS1 := Lib.hid hs1
  have HG1 := Lib.hid hg1
  clear hs1 hg1 hr1
  go_wp2_with fail
  refine (pick_any g A n c xs (q + 1) _ 7 7 [0, 1, 65535, 65534, 32767, 32768, r] LevP _ (HS1.out.gbNew _) (by omega) (rd_lit w1 [0, 1, 65535, 65534, 32767, 32768, r] _) (by omega) (by omega) ?_ ?_).mono ?_
  · intro a e; injection e with e; subst e; have := HS1.out.lt; show w1.heap.size ≠ g; omega
  · intro y hy; simp at hy; unfold LevP; omega
  rintro e w2 ⟨y, q2, hP, rfl, hq2, hs2, hg2⟩
  have HS2 := Lib.hid hs2
  have HG2 := Lib.hid hg2
  have HP := Lib.hid hP
  clear hs2 hg2 hP
  go_wp2_with fail
  go_ret
  exact ⟨y, q2, HP.out, rfl, by omega, HS2.out, gb_trans HG1.out (gb_trans (gb_below _ (blAlloc _ _)) HG2.out)⟩

/-! ### a list of one's own, in place -/
theorem Own.putI {w : World} {k : IntKind} {ps : List Int} {b o m c lo hi : Nat} (h : Own w (.ints k ps) (.slice (some ⟨b, o, none⟩) m c) lo hi) {i : Nat} (hi' : i < m) (v : Int) :
    Own (w.setCell ⟨b, o + i, none⟩ (.int k v)) (.ints k (ps.set i v)) (.slice (some ⟨b, o, none⟩) m c) lo hi := by
  obtain ⟨bs, hd, nd, hin⟩ := h
  cases hd with
  | ints0 => omega
  | ints _ _ _ _ _ _ hn hl hr hc hm =>
    refine ⟨[b], .ints k b o m c _ hn (by simpa using hl) (fun j hj => ?_) hc hm, by simp, fun x hx => ?_⟩
    · by_cases e : j = i
      · subst e
        rw [World.cell?_setCell_same' _ _ _ (by rw [hr j hj]; rfl)]
        simp [List.getD, hl, hj]
      · rw [World.cell?_setCell_other _ _ _ _ (by simp; try omega), hr j hj]
        simp [List.getD, List.getElem?_set_ne (Ne.symm e)]
    · obtain ⟨a1, a2, a3⟩ := hin x hx
      exact ⟨a1, a2, fun j => by rw [← a3 j]; simp⟩
theorem Own.slotI {w : World} {k : IntKind} {ps : List Int} {A : Option Addr} {m c lo hi : Nat} (h : Own w (.ints k ps) (.slice A m c) lo hi) (hm : 0 < m) :
    ∃ b o, A = some ⟨b, o, none⟩ ∧ lo ≤ b ∧ b < hi ∧ Thaw w b ∧ ∀ i, i < m → w.cell? ⟨b, o + i, none⟩ = some (.int k (ps.getD i 0)) := by
  obtain ⟨bs, hd, nd, hin⟩ := h
  cases hd with
  | ints0 => omega
  | ints _ b o _ _ _ hn hl hr hc hm =>
    obtain ⟨a1, a2, a3⟩ := hin b (by simp)
    exact ⟨b, o, rfl, a1, a2, a3, hr⟩
def Lvs (ps : List Int) : Prop := ∀ i, 0 ≤ pt ps i ∧ pt ps i ≤ 65535
theorem Lvs.nil : Lvs [] := fun i => by simp [pt]
theorem Lvs.snoc {ps : List Int} {r : Int} (h : Lvs ps) (h0 : LevP r) : Lvs (ps ++ [r]) := by
  intro i
  unfold pt
  by_cases hi : i < ps.length
  · have : (ps ++ [r]).getD i 0 = ps.getD i 0 := by simp [List.getD, List.getElem?_append_left hi]
    rw [this]; exact h i
  · by_cases he : i = ps.length
    · subst he; have := h0; unfold LevP at this; simpa using this
    · have : (ps ++ [r]).getD i 0 = 0 := by simp [List.getD]; rw [List.getElem?_eq_none (by simp; omega)]; rfl
      rw [this]; omega
theorem Lvs.put {ps : List Int} {r : Int} (h : Lvs ps) (h0 : LevP r) (k : Nat) : Lvs (ps.set k r) := by
  intro i
  unfold pt
  by_cases e : i = k
  · subst e
    by_cases hi : i < ps.length
    · have := h0; unfold LevP at this; simpa [List.getD, hi] using this
    · have := h i; unfold pt at this; rw [List.set_eq_of_length_le (by omega)]; exact this
  · have : (ps.set k r).getD i 0 = ps.getD i 0 := by simp [List.getD, List.getElem?_set_ne (Ne.symm e)]
    rw [this]; exact h i
theorem Lvs.fine {ps : List Int} (h : Lvs ps) (h1 : 2 ≤ ps.length) (h2 : ps.length ≤ 17) : CFine ps := ⟨h1, h2, h⟩
theorem lnP_fine {N : Nat} (h1 : 2 ≤ N) (h2 : N ≤ 17) : CFine (lnP N N) := by
  refine ⟨by rw [lnP_len]; exact h1, by rw [lnP_len]; exact h2, fun i => ?_⟩
  by_cases hi : i < N
  · unfold pt
    rw [lnP_get hi]
    unfold lnAt rnd
    have a : (0 : Int) < 2 * ((N : Int) - 1) := by omega
    have p0 : (0 : Int) ≤ 2 * ((i : Int) * 65535) + ((N : Int) - 1) := by omega
    refine ⟨Int.ediv_nonneg p0 (by omega), ?_⟩
    have : (2 * ((i : Int) * 65535) + ((N : Int) - 1)) / (2 * ((N : Int) - 1)) < 65536 := by
      apply Int.ediv_lt_of_lt_mul a
      have : (i : Int) ≤ (N : Int) - 1 := by omega
      omega
    omega
  · rw [pt_out (by rw [lnP_len]; omega)]; omega

theorem own_gb {a b : World} {g lo hi : Nat} {d : Dat} {v : Value} (h : Own a d v lo hi) (hg : a.grownBy b (some g)) (hlo : g < lo) : Own b d v lo hi := by
  obtain ⟨bs, h1, h2, h3⟩ := h
  have hk : ∀ x ∈ bs, b.heap[x]? = a.heap[x]? := fun x hx => hg.block x (h1.lt x hx) (fun e => by injection e with e; have := (h3 x hx).1; omega)
  refine ⟨bs, h1.keep fun x hx i => World.cell?_of_block (hk x hx), h2, fun x hx => ⟨(h3 x hx).1, (h3 x hx).2.1, fun i => ?_⟩⟩
  rw [World.frozen?_of_block (hk x hx)]; exact (h3 x hx).2.2 i
/-! ### l3Draw -/
structure CSt (w : World) (g r b : Nat) (A : Option Addr) (n c : Nat) (xs : List Int) (Q : Int) (B : Option Addr) (m cp : Nat) (W : World) : Prop where
  src : ∃ q', q' ≤ Q ∧ Src W g A n c xs q'
  box : W.cell? ⟨b, 0, none⟩ = some (.slice B m cp)
  res : W.cell? ⟨r, 0, none⟩ = some (.slice none 0 0)
  thr : Thaw W r
  thb : Thaw W b
  gb : w.grownBy W (some g)
  rb : r < b
  gr : g < r
  wr : w.heap.size ≤ r
theorem Thaw.gb1 {w w' : World} {b g : Nat} (h : Thaw w b) (hg : w.grownBy w' (some g)) (hb : b < w.heap.size) (hne : b ≠ g) : Thaw w' b := fun i => by
  rw [← h i]
  unfold World.frozen?
  rw [hg.block b hb (fun e => hne (by injection e))]
theorem CSt.gb' {w : World} {g r b : Nat} {A : Option Addr} {n c : Nat} {xs : List Int} {Q Q' : Int} {B : Option Addr} {m cp : Nat} {W W' : World} (h : CSt w g r b A n c xs Q B m cp W) (hg : W.grownBy W' (some g)) (hs : ∃ q', q' ≤ Q' ∧ Src W' g A n c xs q') : CSt w g r b A n c xs Q' B m cp W' := by
  have h1 := h.rb
  have h2 := h.gr
  exact ⟨hs, (gb_cell hg (p := ⟨b, 0, none⟩) (cell_lt h.box) (by show b ≠ g; omega)).trans h.box, (gb_cell hg (p := ⟨r, 0, none⟩) (cell_lt h.res) (by show r ≠ g; omega)).trans h.res, h.thr.gb1 hg (cell_lt h.res) (by omega), h.thb.gb1 hg (cell_lt h.box) (by omega), gb_trans h.gb hg, h.rb, h.gr, h.wr⟩
theorem CSt.below {w : World} {g r b : Nat} {A : Option Addr} {n c : Nat} {xs : List Int} {Q : Int} {B : Option Addr} {m cp : Nat} {W W' : World} (h : CSt w g r b A n c xs Q B m cp W) (hb : Below W.heap.size W W') : CSt w g r b A n c xs Q B m cp W' :=
  h.gb' (gb_below _ hb) (by obtain ⟨q', a, s⟩ := h.src; exact ⟨q', a, s.below hb⟩)
theorem CSt.more {w : World} {g r b : Nat} {A : Option Addr} {n c : Nat} {xs : List Int} {Q Q' : Int} {B : Option Addr} {m cp : Nat} {W : World} (h : CSt w g r b A n c xs Q B m cp W) (hq : Q ≤ Q') : CSt w g r b A n c xs Q' B m cp W :=
  { h with src := by obtain ⟨q', a, s⟩ := h.src; exact ⟨q', by omega, s⟩ }
/-- blocks from b + 1 on have turned, and then the box. -/
theorem CSt.up {w : World} {g r b : Nat} {A : Option Addr} {n c : Nat} {xs : List Int} {Q q0 : Int} {B B' : Option Addr} {m cp m' cp' : Nat} {W W' : World} (h : CSt w g r b A n c xs Q B m cp W) (h0 : Src w g A n c xs q0)
    (hb : Below (b + 1) W W') : CSt w g r b A n c xs Q B' m' cp' (W'.setCell ⟨b, 0, none⟩ (.slice B' m' cp')) := by
  obtain ⟨q', hq', hs⟩ := h.src
  have h1 := h.rb
  have h2 := h.wr
  have h3 := h.gb.size
  have hl := cell_lt h.box
  have hb2 : Below w.heap.size W (W'.setCell ⟨b, 0, none⟩ (.slice B' m' cp')) := (hb.mono (by omega)).setCell (p := ⟨b, 0, none⟩) (by show w.heap.size ≤ b; omega) _
  have cb := (hb.cell (p := ⟨b, 0, none⟩) (Nat.lt_succ_self b)).trans h.box
  have cr := (hb.cell (p := ⟨r, 0, none⟩) (by show r < b + 1; omega)).trans h.res
  refine ⟨⟨q', hq', h0.low hs hb2⟩, World.cell?_setCell_same' _ _ _ (by rw [cb]; rfl), ?_, fun i => ?_, fun i => ?_, gb_low h.gb hb2, h.rb, h.gr, h.wr⟩
  · rw [World.cell?_setCell_other _ _ _ _ (by simp; try omega)]; exact cr
  · rw [World.frozen?_setCell, hb.frozen (p := ⟨r, i, none⟩) (by show r < b + 1; omega)]; exact h.thr i
  · rw [World.frozen?_setCell, hb.frozen (p := ⟨b, i, none⟩) (Nat.lt_succ_self b)]; exact h.thb i
/-- blocks from b + 1 on have turned. -/
theorem CSt.up0 {w : World} {g r b : Nat} {A : Option Addr} {n c : Nat} {xs : List Int} {Q q0 : Int} {B : Option Addr} {m cp : Nat} {W W' : World} (h : CSt w g r b A n c xs Q B m cp W) (h0 : Src w g A n c xs q0)
    (hb : Below (b + 1) W W') : CSt w g r b A n c xs Q B m cp W' := by
  obtain ⟨q', hq', hs⟩ := h.src
  have h1 := h.rb
  have h2 := h.wr
  have hb2 : Below w.heap.size W W' := hb.mono (by omega)
  have cb := (hb.cell (p := ⟨b, 0, none⟩) (Nat.lt_succ_self b)).trans h.box
  have cr := (hb.cell (p := ⟨r, 0, none⟩) (by show r < b + 1; omega)).trans h.res
  exact ⟨⟨q', hq', h0.low hs hb2⟩, cb, cr, fun i => by rw [hb.frozen (p := ⟨r, i, none⟩) (by show r < b + 1; omega)]; exact h.thr i, fun i => by rw [hb.frozen (p := ⟨b, i, none⟩) (Nat.lt_succ_self b)]; exact h.thb i, gb_low h.gb hb2, h.rb, h.gr, h.wr⟩
/-- a curve that is drawn. -/
def CurDr (w : World) (g : Nat) (A : Option Addr) (n c : Nat) (xs : List Int) (q d : Int) (e : Ending) (w' : World) : Prop :=
  ∃ G m cp ps, e = .returned (.agg #[.slice G m cp]) ∧ CFine ps ∧ Own w' (.ints .i64 ps) (.slice G m cp) (w.heap.size + 1) w'.heap.size ∧ (∃ q', q' ≤ q + d ∧ Src w' g A n c xs q') ∧ w.grownBy w' (some g)
end Go.Proofs.Ythplngcdldongaa

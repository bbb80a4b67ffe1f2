/-
  The draws of curves that may be bent, and of levels: l3Bent, l3BentLevel, DrawEvalCurve, DrawSolveCurve, DrawPackCurve, DrawSlopeOf; the law's own choice (lwAt).
-/
import Derived.Test.YtlfdpambbgddoaaDrawC
import Derived.Deep.RegionWith
namespace Go.Proofs.Ytlfdpambbgddoaa
open Go.RowKit
set_option linter.unusedVariables false

def AnyP (r : Int) : Prop := -1 ≤ r ∧ r ≤ 65536
theorem CSt.set {w : World} {g r b : Nat} {A : Option Addr} {n c : Nat} {xs : List Int} {Q q0 : Int} {B : Option Addr} {m cp : Nat} {W : World} (h : CSt w g r b A n c xs Q B m cp W) (h0 : Src w g A n c xs q0)
    {d : Nat} (hd : w.heap.size ≤ d) (h1 : d ≠ b) (h2 : d ≠ r) (i : Nat) (x : Value) : CSt w g r b A n c xs Q B m cp (W.setCell ⟨d, i, none⟩ x) := by
  obtain ⟨q', hq', hs⟩ := h.src
  have hb2 : Below w.heap.size W (W.setCell ⟨d, i, none⟩ x) := (Below.refl _ _).setCell (p := ⟨d, i, none⟩) hd _
  refine ⟨⟨q', hq', h0.low hs hb2⟩, ?_, ?_, fun j => ?_, fun j => ?_, gb_low h.gb hb2, h.rb, h.gr, h.wr⟩
  · rw [World.cell?_setCell_other _ _ _ _ (by simp; try omega)]; exact h.box
  · rw [World.cell?_setCell_other _ _ _ _ (by simp; try omega)]; exact h.res
  · rw [World.frozen?_setCell]; exact h.thr j
  · rw [World.frozen?_setCell]; exact h.thb j
theorem cell_own {W : World} {ps : List Int} {b o m c lo hi : Nat} (h : Own W (.ints .i64 ps) (.slice (some ⟨b, o, none⟩) m c) lo hi) (hm : 0 < m) : W.cell? ⟨b, o, none⟩ = some (.int .i64 (ps.getD 0 0)) ∧ W.frozen? ⟨b, o, none⟩ = false := by
  obtain ⟨b2, o2, e2, _, _, th, hc⟩ := h.slotI hm
  injection e2 with e2
  injection e2 with e3 e4
  subst e3 e4
  exact ⟨by have := hc 0 hm; rwa [Nat.add_zero] at this, th o⟩
/-- a curve that may be bent. -/
def CurBt (w : World) (g : Nat) (A : Option Addr) (n c : Nat) (xs : List Int) (q d : Int) (e : Ending) (w' : World) : Prop :=
  ∃ G m cp ps, e = .returned (.agg #[.slice G m cp]) ∧ m ≤ 18 ∧ Own w' (.ints .i64 ps) (.slice G m cp) (w.heap.size + 1) w'.heap.size ∧ (∃ q', q' ≤ q + d ∧ Src w' g A n c xs q') ∧ w.grownBy w' (some g)
def PkP (r : Int) : Prop := r = 0 ∨ r = 1 ∨ r = 17 ∨ r = 18
set_option maxRecDepth 100000 in
set_option maxHeartbeats 4000000 in
theorem bent3_any (g : Nat) (A : Option Addr) (n c : Nat) (xs : List Int) (q : Int) (w : World) (h : Src w g A n c xs q) (hq : q ≤ 9000000) :
    Calls Try.prog 108 #[.pointer (some ⟨g, 0, none⟩)] w (CurBt w g A n c xs q 40) := by
  have HS := Lib.hid h
  have hgl := h.lt
  clear h
  go_enter Try.func108, Try.ntmps108
  go_wp2_with fail
  refine (draw3_any g A n c xs q _ (HS.out.gbNew _) (by omega)).mono ?_
  rintro e w1 ⟨G, m, cp, ps, rfl, hf, ho, ⟨q1, hq1, hs1⟩, hg1⟩
  have hz1 : w.heap.size < w1.heap.size := by have := hg1.size; simp at this; omega
  have hml : ps.length = m := by obtain ⟨_, hd⟩ := ho.hd; exact hd.rd.1
  have hm2 : 2 ≤ m := by rw [← hml]; exact hf.lo
  have hm17 : m ≤ 17 := by rw [← hml]; exact hf.hi
  obtain ⟨b', o', rfl, lb, ub, -, -⟩ := ho.slotI (by omega)
  simp only [World.size_alloc] at lb
  have M1 : Hid (CSt w g w.heap.size w1.heap.size A n c xs (q + 30) (some ⟨b', o', none⟩) m cp (w1.alloc (.cells #[.slice (some ⟨b', o', none⟩) m cp] 71))) :=
    ⟨⟨q1, by omega, hs1.gbNew _⟩, by simp, cell_later (blAlloc _ _) ((gb_cell hg1 (p := ⟨w.heap.size, 0, none⟩) (by simp) (by show w.heap.size ≠ g; omega)).trans (by simp)), (((thaw_new w _ _).gb1 hg1 (by simp) (by omega))).ch (Ch.of_below (fun _ => False) (blAlloc _ _)) hz1, thaw_new _ _ _, gb_trans (gb_below _ (blAlloc w _)) (gb_trans hg1 (gb_below _ (blAlloc _ _))), hz1, hgl, Nat.le_refl _⟩
  have O1 : Hid (Own (w1.alloc (.cells #[.slice (some ⟨b', o', none⟩) m cp] 71)) (.ints .i64 ps) (.slice (some ⟨b', o', none⟩) m cp) (w.heap.size + 2) w1.heap.size) := (ho.mono (by simp) (Nat.le_refl _)).alloc _
  have HS1 := Lib.hid hs1
  clear hs1 hg1 ho hf hml
  go_wp2_with fail
  refine (next_any g A n c xs q1 12 _ (HS1.out.gbNew _) (by omega) (by omega)).mono ?_
  rintro e w2 ⟨r, ⟨hr0, hr1⟩, rfl, hs2, hg2⟩
  have M2 := Lib.hid (M1.out.gb' (Q' := q + 31) hg2 ⟨q1 + 1, by omega, hs2⟩)
  have O2 := Lib.hid (own_gb O1.out hg2 (by omega))
  have HS2 := Lib.hid hs2
  have hz2 := hg2.size
  rw [World.size_alloc] at hz2
  clear hs2 hg2 HS1 M1 O1
  have x2 := M2.out.box
  have hl2 : w1.heap.size < w2.heap.size := cell_lt x2
  have r2 := M2.out.res
  have fr2 := M2.out.thr 0
  have fb2 := M2.out.thb 0
  have hlr2 : w.heap.size < w2.heap.size := cell_lt r2
  by_cases e0 : r = 0
  · subst e0
    obtain ⟨b2, o2, e2, -, -, th2, hcl⟩ := O2.out.slotI (by omega)
    injection e2 with e2
    injection e2 with e3 e4
    subst e3 e4
    have c0 := hcl 0 (by omega)
    have f0 := th2 (o' + 0)
    rw [Nat.add_zero] at c0 f0
    have HCL := Lib.hid hcl
    have HTH := Lib.hid th2
    clear hcl th2
    have HNE : Hid (∀ a : Addr, some (⟨w2.heap.size, 0, none⟩ : Addr) = some a → a.block ≠ g) := fun a e => by injection e with e; subst e; have := HS2.out.lt; show w2.heap.size ≠ g; omega
    have HPP : Hid (∀ y ∈ [(-1 : Int), 65536], AnyP y) := fun y hy => by simp at hy; unfold AnyP; omega
    have xa := cell_later (blAlloc w2 (.cells #[.int .i64 (-1), .int .i64 65536] 2)) x2
    go_wp2_with fail
    go_region_with (go_at_call 55; refine (pick_any g A n c xs (q1 + 1) _ 2 2 [-1, 65536] AnyP _ ((HS2.out.gbNew _).below (below_drewN _ 1 _)) (by omega) ((rd_lit w2 [-1, 65536] _).drewN 1) (by omega) (by omega) HNE.out HPP.out).mono ?_; rintro e w3 ⟨y, q3, hP, rfl, hq3, hs3, hg3⟩; have M3 := Lib.hid (((M2.out.below (blAlloc _ (.cells #[.int .i64 (-1), .int .i64 65536] 2))).below (below_drewN _ 1 _)).gb' (Q' := q + 33) hg3 ⟨q3, by omega, hs3⟩); have O3 := Lib.hid (own_gb ((O2.out.alloc (.cells #[.int .i64 (-1), .int .i64 65536] 2)).drewN 1) hg3 (by omega)); have x3 := M3.out.box; have c3 := (cell_own O3.out (by omega : 0 < m)).1; have f3 := (cell_own O3.out (by omega : 0 < m)).2; clear hs3 hg3 hP)
    all_goals
      have hl3 : w1.heap.size < w3.heap.size := cell_lt x3
      have r3 := M3.out.res
      have fr3 := M3.out.thr 0
      have hlr3 : w.heap.size < w3.heap.size := cell_lt r3
      have hnb : b' ≠ w1.heap.size := by omega
      have hnr : b' ≠ w.heap.size := by omega
      have y1 : (w3.setCell ⟨b', o', none⟩ (.int .i64 y)).cell? ⟨w1.heap.size, 0, none⟩ = some (.slice (some ⟨b', o', none⟩) m cp) := by rw [World.cell?_setCell_other _ _ _ _ (by simp; try omega)]; exact x3
      have y2 : (w3.setCell ⟨b', o', none⟩ (.int .i64 y)).cell? ⟨w.heap.size, 0, none⟩ = some (.slice none 0 0) := by rw [World.cell?_setCell_other _ _ _ _ (by simp; try omega)]; exact r3
      go_wp2_with fail
      refine bodyPost_ret (v := .agg #[.slice (some ⟨b', o', none⟩) m cp]) (by simp [results, Try.results108, go_sem, y2]) rfl ?_
      have hbf : Below w.heap.size w3 ((w3.setCell ⟨b', o', none⟩ (.int .i64 y)).setCell ⟨w.heap.size, 0, none⟩ (.slice (some ⟨b', o', none⟩) m cp)) := ((Below.refl _ _).setCell (p := ⟨b', o', none⟩) (by show w.heap.size ≤ b'; omega) _).setCell (p := ⟨w.heap.size, 0, none⟩) (Nat.le_refl _) _
      obtain ⟨q8, hq8, hS8⟩ := M3.out.src
      refine ⟨_, _, _, ps.set 0 y, rfl, by omega, ?_, ⟨q8, by omega, HS.out.low hS8 hbf⟩, gb_low M3.out.gb hbf⟩
      exact Own.mono (lo := w.heap.size + 2) (hi := w1.heap.size) ((O3.out.putI (i := 0) (by omega) y).set (b := w.heap.size) (.inl (by omega)) _ _) (by omega) (by simp [World.setCell]; omega)
  · by_cases e1 : r = 1
    · subst e1
      go_wp2_with fail
      refine (pick_any g A n c xs (q1 + 1) _ 4 4 [0, 1, 17, 18] PkP _ (HS2.out.gbNew _) (by omega) (rd_lit w2 [0, 1, 17, 18] _) (by omega) (by omega) ?_ ?_).mono ?_
      · intro a e; injection e with e; subst e; have := HS2.out.lt; show w2.heap.size ≠ g; omega
      · intro y hy; simp at hy; unfold PkP; omega
      rintro e w3 ⟨y, q3, hP, rfl, hq3, hs3, hg3⟩
      obtain ⟨N, rfl⟩ : ∃ N : Nat, y = N := ⟨y.toNat, by unfold PkP at hP; omega⟩
      have hN : N ≤ 18 := by unfold PkP at hP; omega
      have M3 := Lib.hid ((M2.out.below (blAlloc _ (.cells #[.int .i64 0, .int .i64 1, .int .i64 17, .int .i64 18] 2))).gb' (Q' := q + 33) hg3 ⟨q3, by omega, hs3⟩)
      have hmk := run_make_row' (P := Try.prog) 40 2 (.int .i64 0) 8 Try.underlying40 info_i64 rfl .i64 .i64 N (by omega) (by omega)
      have x3 := M3.out.box
      have hl3 : w1.heap.size < w3.heap.size := cell_lt M3.out.box
      have fb3 := M3.out.thb 0
      have r3 := M3.out.res
      have fr3 := M3.out.thr 0
      have hlr3 : w.heap.size < w3.heap.size := cell_lt r3
      have hnr : w.heap.size ≠ w1.heap.size := by omega
      have y1 : (w3.setCell ⟨w1.heap.size, 0, none⟩ (.slice (some ⟨w3.heap.size, 0, none⟩) N N)).cell? ⟨w1.heap.size, 0, none⟩ = some (.slice (some ⟨w3.heap.size, 0, none⟩) N N) := World.cell?_setCell_same' _ _ _ (by rw [x3]; rfl)
      have y2 : (w3.setCell ⟨w1.heap.size, 0, none⟩ (.slice (some ⟨w3.heap.size, 0, none⟩) N N)).cell? ⟨w.heap.size, 0, none⟩ = some (.slice none 0 0) := by rw [World.cell?_setCell_other _ _ _ _ (by simp; try omega)]; exact r3
      have y3 : (((w3.setCell ⟨w1.heap.size, 0, none⟩ (.slice (some ⟨w3.heap.size, 0, none⟩) N N)).setCell ⟨w.heap.size, 0, none⟩ (.slice (some ⟨w3.heap.size, 0, none⟩) N N)).alloc (.cells (madeCells #[.int .i64 0] N) 2)).cell? ⟨w.heap.size, 0, none⟩ = some (.slice (some ⟨w3.heap.size, 0, none⟩) N N) := cell_later (blAlloc _ _) (World.cell?_setCell_same' _ _ _ (by rw [y2]; rfl))
      clear hs3 hg3 hP x2 r2 fr2 fb2
      go_wp2_with fail
      refine bodyPost_ret (v := .agg #[.slice (some ⟨w3.heap.size, 0, none⟩) N N]) (by simp [results, Try.results108, go_sem, y3]) rfl ?_
      have hsz : ((w3.setCell ⟨w1.heap.size, 0, none⟩ (.slice (some ⟨w3.heap.size, 0, none⟩) N N)).setCell ⟨w.heap.size, 0, none⟩ (.slice (some ⟨w3.heap.size, 0, none⟩) N N)).heap.size = w3.heap.size := by simp [World.setCell]
      have hbf : Below w.heap.size w3 (((w3.setCell ⟨w1.heap.size, 0, none⟩ (.slice (some ⟨w3.heap.size, 0, none⟩) N N)).setCell ⟨w.heap.size, 0, none⟩ (.slice (some ⟨w3.heap.size, 0, none⟩) N N)).alloc (.cells (madeCells #[.int .i64 0] N) 2)) := (((Below.refl _ _).setCell (p := ⟨w1.heap.size, 0, none⟩) (by show w.heap.size ≤ w1.heap.size; omega) _).setCell (p := ⟨w.heap.size, 0, none⟩) (Nat.le_refl _) _).alloc (Nat.le_of_lt (by rw [hsz]; exact hlr3)) _
      obtain ⟨q8, hq8, hS8⟩ := M3.out.src
      refine ⟨_, _, _, List.replicate N 0, rfl, by omega, ?_, ⟨q8, by omega, HS.out.low hS8 hbf⟩, gb_low M3.out.gb hbf⟩
      have hfo := fill_own (W0 := (w3.setCell ⟨w1.heap.size, 0, none⟩ (.slice (some ⟨w3.heap.size, 0, none⟩) N N)).setCell ⟨w.heap.size, 0, none⟩ (.slice (some ⟨w3.heap.size, 0, none⟩) N N)) (N := N) (xs := List.replicate N 0) (by simp) (by omega) (fun t ht => by
        rw [made_cell _ (.int .i64 0) N t 2 ht]; simp [List.getD, ht]) (Ch.refl _ _)
      rw [hsz] at hfo
      exact hfo.mono (by omega) (Nat.le_refl _)
    · have e0' : (r == 0) = false := by simpa using e0
      have e1' : (r == 1) = false := by simpa using e1
      go_wp2_with fail
      refine bodyPost_ret (v := .agg #[.slice (some ⟨b', o', none⟩) m cp]) (by simp [results, Try.results108, go_sem, r2]) rfl ?_
      have hbf : Below w.heap.size w2 (w2.setCell ⟨w.heap.size, 0, none⟩ (.slice (some ⟨b', o', none⟩) m cp)) := (Below.refl _ _).setCell (p := ⟨w.heap.size, 0, none⟩) (Nat.le_refl _) _
      obtain ⟨q8, hq8, hS8⟩ := M2.out.src
      refine ⟨_, _, _, ps, rfl, by omega, ?_, ⟨q8, by omega, HS.out.low hS8 hbf⟩, gb_low M2.out.gb hbf⟩
      exact Own.mono (lo := w.heap.size + 2) (hi := w1.heap.size) (O2.out.set (b := w.heap.size) (.inl (by omega)) _ _) (by omega) (by simp [World.setCell]; omega)
/-- a curve that may be bent, of a law's code, and a level that may be none. -/
def DrCV (w : World) (P : Int → Prop) (e : Ending) (w' : World) : Prop :=
  ∃ G m cp ps v, e = .returned (.tuple #[.agg #[.slice G m cp], .int .i64 v]) ∧ m ≤ 18 ∧ P v ∧ Own w' (.ints .i64 ps) (.slice G m cp) w.heap.size w'.heap.size ∧ Below w.heap.size w w'
def DrC (w : World) (e : Ending) (w' : World) : Prop :=
  ∃ G m cp ps, e = .returned (.agg #[.slice G m cp]) ∧ m ≤ 18 ∧ Own w' (.ints .i64 ps) (.slice G m cp) w.heap.size w'.heap.size ∧ Below w.heap.size w w'
theorem bl_of_gb {w W W' : World} {g : Nat} (h : Below w.heap.size w W) (hg : W.grownBy W' (some g)) (hgw : w.heap.size ≤ g) : Below w.heap.size w W' := h.trans (gb_to_below hg hgw h.size)
/-- the law's own choice. -/
def LwP (w : World) (k : Int) (e : Ending) (w' : World) : Prop := ∃ r, 0 ≤ r ∧ r < k ∧ e = .returned (.int .i64 r) ∧ ∃ m, w' = w.drewN m
set_option maxHeartbeats 1000000 in
theorem lwAt_any (A : Option Addr) (n c : Nat) (xs : List Int) (q k : Int) (w : World) (h : Code w A n xs) (q0 : 0 ≤ q) (hq : q ≤ 1000) (hk0 : 200 < k) (hk : k ≤ 1000000000) :
    Calls Try.prog 24 #[.slice A n c, .int .i64 q, .int .i64 k] w (LwP w k) := by
  have hs := h.small
  have H := Lib.hid h
  clear h
  rcases Nat.eq_zero_or_pos n with hn | hn
  · subst hn
    have m1 := Int.emod_nonneg (q * 7) (by omega : k ≠ 0)
    have m2 := Int.emod_lt_of_pos (q * 7) (by omega : 0 < k)
    go_enter Try.func24, Try.ntmps24
    go_wp2
    go_ret
    exact ⟨_, m1, m2, rfl, 0, rfl⟩
  · obtain ⟨b, o, rfl, hc⟩ := H.out.reads.2 hn
    have hne : ((n : Int) == 0) = false := by simp; omega
    have m1 := Int.emod_nonneg q (by omega : (n : Int) ≠ 0)
    have m2 := Int.emod_lt_of_pos q (by omega : 0 < (n : Int))
    have m3 := Int.emod_nonneg (q + 1) (by omega : (n : Int) ≠ 0)
    have m4 := Int.emod_lt_of_pos (q + 1) (by omega : 0 < (n : Int))
    have m5 := Int.ediv_nonneg q0 (by omega : 0 ≤ (n : Int))
    have m6 := Int.ediv_le_self (n : Int) q0
    have d1 : w.cell? ⟨b, o + (q % (n : Int)).toNat, none⟩ = some (.int .u8 (xs.getD (q % (n : Int)).toNat 0)) := hc _ (by omega)
    have d2 : w.cell? ⟨b, o + ((q + 1) % (n : Int)).toNat, none⟩ = some (.int .u8 (xs.getD ((q + 1) % (n : Int)).toNat 0)) := hc _ (by omega)
    obtain ⟨u1, u2⟩ := H.out.u8 (q % (n : Int)).toNat
    obtain ⟨u3, u4⟩ := H.out.u8 ((q + 1) % (n : Int)).toNat
    generalize xs.getD (q % (n : Int)).toNat 0 = x at d1 u1 u2
    generalize xs.getD ((q + 1) % (n : Int)).toNat 0 = y at d2 u3 u4
    clear hc
    go_enter Try.func24, Try.ntmps24
    go_wp2_with fail
    go_quiet (fail)
    go_wp2_with fail
    go_ret
    exact ⟨_, Int.emod_nonneg _ (by omega), Int.emod_lt_of_pos _ (by omega), rfl, _, rfl⟩
end Go.Proofs.Ytlfdpambbgddoaa

/-
  The axes by their rests: cmp.Compare, the stable sort of three axes, the program's axesByRest.
  Three axes in the order of their rests: slices.SortStableFunc at three; the program's axesByRest.
  What a grid tells between its nodes: the program's plusTimes, next.
  The cell and the rests of a colour, by levels or fine numbers: the program's cellOf.
-/
import Derived.Test.YthplngcdldongaaGrdRA
import Derived.Test.YthplngcdldongaaBaseA
import Derived.StillTailTactics
namespace Go.Proofs.Ythplngcdldongaa
open Go.RowKit
set_option linter.unusedVariables false
set_option linter.unusedSimpArgs false

def cmpv (x y : Int) : Int := if x < y then -1 else if x > y then 1 else 0
theorem cmpv_lt {x y : Int} (h : x < y) : cmpv x y = -1 := by unfold cmpv; rw [if_pos h]
theorem cmpv_gt {x y : Int} (h : y < x) : cmpv x y = 1 := by unfold cmpv; rw [if_neg (by omega), if_pos h]
theorem cmpv_eq {x y : Int} (h : ¬ x < y) (h2 : ¬ y < x) : cmpv x y = 0 := by unfold cmpv; rw [if_neg h, if_neg (by omega)]
theorem cmpv_t {x y : Int} (h : x < y) : decide (cmpv x y < 0) = true := by rw [cmpv_lt h]; rfl
theorem cmpv_f {x y : Int} (h : ¬ x < y) : decide (cmpv x y < 0) = false := by
  by_cases h2 : y < x
  · rw [cmpv_gt h2]; rfl
  · rw [cmpv_eq h h2]; rfl
theorem isNaN_any (x : Int) (w : World) : Calls Try.prog 109 #[.int .i64 x] w fun e w' => e = .returned (.bool false) ∧ w = w' := by
  have he : (x != x) = false := by simp
  go_enter Try.func109, Try.ntmps109
  go_wp2
  go_ret
  exact ⟨by simp, rfl⟩
set_option maxHeartbeats 1000000 in
theorem Compare_any (x y : Int) (w : World) : Calls Try.prog 105 #[.int .i64 x, .int .i64 y] w fun e w' => e = .returned (.int .i64 (cmpv x y)) ∧ w = w' := by
  by_cases h : x < y
  · have HC := Lib.hid (cmpv_lt h)
    go_enter Try.func105, Try.ntmps105
    go_wp2_with (go_at_call 109; refine (isNaN_any _ _).mono ?_; rintro e w' ⟨rfl, rfl⟩)
    go_ret
    exact ⟨ret_int HC.out.symm, rfl⟩
  · by_cases h2 : y < x
    · have HC := Lib.hid (cmpv_gt h2)
      have h3 : x > y := h2
      go_enter Try.func105, Try.ntmps105
      go_wp2_with (go_at_call 109; refine (isNaN_any _ _).mono ?_; rintro e w' ⟨rfl, rfl⟩)
      go_ret
      exact ⟨ret_int HC.out.symm, rfl⟩
    · have HC := Lib.hid (cmpv_eq h h2)
      have h3 : ¬ x > y := h2
      go_enter Try.func105, Try.ntmps105
      go_wp2_with (go_at_call 109; refine (isNaN_any _ _).mono ?_; rintro e w' ⟨rfl, rfl⟩)
      go_ret
      exact ⟨ret_int HC.out.symm, rfl⟩
def rv (r : Nat → Int) : List Value := [.int .i64 (r 0), .int .i64 (r 1), .int .i64 (r 2)]
theorem rv_at {W : World} {g : Nat} {r : Nat → Int} (h : Bx W g (rv r)) {k : Nat} (hk : k < 3) : W.cell? ⟨g, k, none⟩ = some (.int .i64 (r k)) :=
  h.c k (by
    match k, hk with
    | 0, _ => rfl
    | 1, _ => rfl
    | 2, _ => rfl)
set_option maxHeartbeats 1000000 in
theorem byRest_any (g a b : Nat) (r : Nat → Int) (w : World) (h : Bx w g (rv r)) (ha : a < 3) (hb : b < 3) : Calls Try.prog 104 #[.int .i64 a, .int .i64 b, .pointer (some ⟨g, 0, none⟩)] w fun e w' => e = .returned (.int .i64 (cmpv (r b) (r a))) ∧ ∃ m, w' = w.drewN m := by
  have c1 := rv_at h ha
  have c2 := rv_at h hb
  obtain ⟨x, hx⟩ : ∃ x, x = r a := ⟨_, rfl⟩
  obtain ⟨y, hy⟩ : ∃ y, y = r b := ⟨_, rfl⟩
  rw [← hx] at c1 ⊢
  rw [← hy] at c2 ⊢
  clear h hx hy
  go_enter Try.func104, Try.ntmps104
  go_wp2_with fail
  go_quiet ((go_at_call 105; first | exact Calls.quiet_of ((Compare_any _ _ _).mono fun e w' ⟨he, hw⟩ => ⟨he, 0, hw.symm⟩) | exact quietAD' ((Compare_any _ _ _).mono fun e w' ⟨he, hw⟩ => ⟨he, 0, hw.symm⟩)))
  go_wp2_with fail
  go_ret
  exact ⟨rfl, _, rfl⟩
end Go.Proofs.Ythplngcdldongaa
namespace Go.Proofs.Ythplngcdldongaa
open Go.RowKit
set_option linter.unusedVariables false
set_option linter.unusedSimpArgs false

def av (a b c : Int) : List Value := [.int .i64 a, .int .i64 b, .int .i64 c]
def CLO (g : Nat) : Value := .func (.func 104) #[] #[.pointer (some ⟨g, 0, none⟩)]
def oax (r : Nat → Int) : List Value := av (ax r 0) (ax r 1) (ax r 2)
theorem Ch.drewN {w W : World} {P : Nat → Prop} (h : Ch w W P) (m : Nat) : Ch w (W.drewN m) P := h.trans (Ch.of_below P (below_drewN _ _ _))
theorem Ch.set {w W : World} {P : Nat → Prop} (h : Ch w W P) {b : Nat} (hb : P b) (i : Nat) (v : Value) : Ch w (W.setCell ⟨b, i, none⟩ v) P := h.trans (Ch.setCell W hb i v)
def Cq (g : Nat) (r : Nat → Int) (a b : Int) (i j : Nat) : Prop := ∀ W, Bx W g (rv r) → Calls Try.prog 104 #[.int .i64 a, .int .i64 b, .pointer (some ⟨g, 0, none⟩)] W fun e w' => e = .returned (.int .i64 (cmpv (r j) (r i))) ∧ ∃ m, w' = W.drewN m
theorem cq (g : Nat) (r : Nat → Int) (i j : Nat) (hi : i < 3) (hj : j < 3) : Hid (Cq g r i j i j) := fun W h => byRest_any g i j r W h hi hj
theorem oax_210 {r : Nat → Int} (h01 : r 0 < r 1) (h02 : r 0 < r 2) (h12 : r 1 < r 2) : oax r = av 2 1 0 := by
  have e0 : ax r 0 = 2 := by unfold ax; (repeat' split) <;> omega
  have e1 : ax r 1 = 1 := by unfold ax; (repeat' split) <;> omega
  have e2 : ax r 2 = 0 := by unfold ax; (repeat' split) <;> omega
  unfold oax; rw [e0, e1, e2]; rfl
theorem oax_120 {r : Nat → Int} (h01 : r 0 < r 1) (h02 : r 0 < r 2) (h12 : ¬ r 1 < r 2) : oax r = av 1 2 0 := by
  have e0 : ax r 0 = 1 := by unfold ax; (repeat' split) <;> omega
  have e1 : ax r 1 = 2 := by unfold ax; (repeat' split) <;> omega
  have e2 : ax r 2 = 0 := by unfold ax; (repeat' split) <;> omega
  unfold oax; rw [e0, e1, e2]; rfl
theorem oax_102 {r : Nat → Int} (h01 : r 0 < r 1) (h02 : ¬ r 0 < r 2) : oax r = av 1 0 2 := by
  have e0 : ax r 0 = 1 := by unfold ax; (repeat' split) <;> omega
  have e1 : ax r 1 = 0 := by unfold ax; (repeat' split) <;> omega
  have e2 : ax r 2 = 2 := by unfold ax; (repeat' split) <;> omega
  unfold oax; rw [e0, e1, e2]; rfl
theorem oax_201 {r : Nat → Int} (h01 : ¬ r 0 < r 1) (h12 : r 1 < r 2) (h02 : r 0 < r 2) : oax r = av 2 0 1 := by
  have e0 : ax r 0 = 2 := by unfold ax; (repeat' split) <;> omega
  have e1 : ax r 1 = 0 := by unfold ax; (repeat' split) <;> omega
  have e2 : ax r 2 = 1 := by unfold ax; (repeat' split) <;> omega
  unfold oax; rw [e0, e1, e2]; rfl
theorem oax_021 {r : Nat → Int} (h01 : ¬ r 0 < r 1) (h12 : r 1 < r 2) (h02 : ¬ r 0 < r 2) : oax r = av 0 2 1 := by
  have e0 : ax r 0 = 0 := by unfold ax; (repeat' split) <;> omega
  have e1 : ax r 1 = 2 := by unfold ax; (repeat' split) <;> omega
  have e2 : ax r 2 = 1 := by unfold ax; (repeat' split) <;> omega
  unfold oax; rw [e0, e1, e2]; rfl
theorem oax_012 {r : Nat → Int} (h01 : ¬ r 0 < r 1) (h12 : ¬ r 1 < r 2) : oax r = av 0 1 2 := by
  have e0 : ax r 0 = 0 := by unfold ax; (repeat' split) <;> omega
  have e1 : ax r 1 = 1 := by unfold ax; (repeat' split) <;> omega
  have e2 : ax r 2 = 2 := by unfold ax; (repeat' split) <;> omega
  unfold oax; rw [e0, e1, e2]; rfl
def SrtE (w : World) (b : Nat) (r : Nat → Int) (e : Ending) (w' : World) : Prop := e = .returned (.tuple #[]) ∧ Bx w' b (oax r) ∧ Ch w w' (· = b)
set_option maxRecDepth 100000 in
set_option maxHeartbeats 8000000 in
theorem insertion3 (g b c : Nat) (r : Nat → Int) (w : World) (hb : Bx w b (av 0 1 2)) (hg : Bx w g (rv r)) (hne : b ≠ g) :
    Calls Try.prog 110 #[.slice (some ⟨b, 0, none⟩) 3 c, .int .i64 0, .int .i64 3, CLO g] w (SrtE w b r) := by
  unfold CLO
  have B0 := Lib.hid hb
  have G0 := Lib.hid hg
  have T0 := Lib.hid (Ch.refl w (· = b))
  clear hb hg
  have x0 := B0.out.c 0 rfl
  have x1 := B0.out.c 1 rfl
  have x2 := B0.out.c 2 rfl
  have z0 := B0.out.f 0
  have z1 := B0.out.f 1
  have z2 := B0.out.f 2
  go_enter Try.func110, Try.ntmps110
  go_wp2_with fail
  refine wp_loop_rounds 3 ?_
  rw [rounds_succ]
  go_wp2_with fail
  refine wp_loop_rounds 2 ?_
  rw [rounds_succ]
  by_cases h01 : r 0 < r 1
  · have hd := cmpv_t h01
    have CC := cq g r 1 0 (by omega) (by omega)
    go_wp2_with fail
    go_quiet ((go_at_call 104; first | exact Calls.quiet_of (CC.out _ (G0.out.drewN _)) | exact quietAD' (CC.out _ (G0.out.drewN _))))
    clear CC hd
    go_wp2_with fail
    go_region
    obtain ⟨W1, hW1⟩ : ∃ W, W = ((w.drewN (nq + 1)).setCell ⟨b, 1, none⟩ (.int .i64 0)).setCell ⟨b, 0, none⟩ (.int .i64 1) := ⟨_, rfl⟩
    have B1 : Hid (Bx W1 b (av 1 0 2)) := by show Bx _ _ _; rw [hW1]; exact ((B0.out.drewN _).set 1 (.int .i64 0)).set 0 (.int .i64 1)
    have G1 : Hid (Bx W1 g (rv r)) := by show Bx _ _ _; rw [hW1]; exact ((G0.out.drewN _).oth hne 1 _).oth hne 0 _
    have T1 : Hid (Ch w W1 (· = b)) := by show Ch _ _ _; rw [hW1]; exact ((T0.out.drewN _).set rfl 1 _).set rfl 0 _
    rw [← hW1]
    clear hW1 x0 x1 x2 z0 z1 z2 B0 G0 T0 nq
    have x0 := B1.out.c 0 rfl
    have x1 := B1.out.c 1 rfl
    have x2 := B1.out.c 2 rfl
    have z0 := B1.out.f 0
    have z1 := B1.out.f 1
    have z2 := B1.out.f 2
    go_wp2_with fail
    rw [rounds_succ]
    go_wp2_with fail
    go_quiet (fail)
    obtain ⟨W2, hW2⟩ : ∃ W, W = W1.drewN nq := ⟨_, rfl⟩
    have B2 : Hid (Bx W2 b (av 1 0 2)) := by show Bx _ _ _; rw [hW2]; exact B1.out.drewN _
    have G2 : Hid (Bx W2 g (rv r)) := by show Bx _ _ _; rw [hW2]; exact G1.out.drewN _
    have T2 : Hid (Ch w W2 (· = b)) := by show Ch _ _ _; rw [hW2]; exact T1.out.drewN _
    rw [← hW2]
    clear hW2 x0 x1 x2 z0 z1 z2 B1 G1 T1 nq
    have x0 := B2.out.c 0 rfl
    have x1 := B2.out.c 1 rfl
    have x2 := B2.out.c 2 rfl
    have z0 := B2.out.f 0
    have z1 := B2.out.f 1
    have z2 := B2.out.f 2
    go_wp2_with fail
    rw [rounds_succ]
    go_wp2_with fail
    refine wp_loop_rounds 3 ?_
    rw [rounds_succ]
    by_cases h02 : r 0 < r 2
    · have hd := cmpv_t h02
      have CC := cq g r 2 0 (by omega) (by omega)
      go_wp2_with fail
      go_quiet ((go_at_call 104; first | exact Calls.quiet_of (CC.out _ (G2.out.drewN _)) | exact quietAD' (CC.out _ (G2.out.drewN _))))
      clear CC hd
      go_wp2_with fail
      go_region
      obtain ⟨W3, hW3⟩ : ∃ W, W = ((W2.drewN (nq + 1)).setCell ⟨b, 2, none⟩ (.int .i64 0)).setCell ⟨b, 1, none⟩ (.int .i64 2) := ⟨_, rfl⟩
      have B3 : Hid (Bx W3 b (av 1 2 0)) := by show Bx _ _ _; rw [hW3]; exact ((B2.out.drewN _).set 2 (.int .i64 0)).set 1 (.int .i64 2)
      have G3 : Hid (Bx W3 g (rv r)) := by show Bx _ _ _; rw [hW3]; exact ((G2.out.drewN _).oth hne 2 _).oth hne 1 _
      have T3 : Hid (Ch w W3 (· = b)) := by show Ch _ _ _; rw [hW3]; exact ((T2.out.drewN _).set rfl 2 _).set rfl 1 _
      rw [← hW3]
      clear hW3 x0 x1 x2 z0 z1 z2 B2 G2 T2 nq
      have x0 := B3.out.c 0 rfl
      have x1 := B3.out.c 1 rfl
      have x2 := B3.out.c 2 rfl
      have z0 := B3.out.f 0
      have z1 := B3.out.f 1
      have z2 := B3.out.f 2
      go_wp2_with fail
      rw [rounds_succ]
      by_cases h12 : r 1 < r 2
      · have hd := cmpv_t h12
        have CC := cq g r 2 1 (by omega) (by omega)
        go_wp2_with fail
        go_quiet ((go_at_call 104; first | exact Calls.quiet_of (CC.out _ (G3.out.drewN _)) | exact quietAD' (CC.out _ (G3.out.drewN _))))
        clear CC hd
        go_wp2_with fail
        go_region
        obtain ⟨W4, hW4⟩ : ∃ W, W = ((W3.drewN (nq + 1)).setCell ⟨b, 1, none⟩ (.int .i64 1)).setCell ⟨b, 0, none⟩ (.int .i64 2) := ⟨_, rfl⟩
        have B4 : Hid (Bx W4 b (av 2 1 0)) := by show Bx _ _ _; rw [hW4]; exact ((B3.out.drewN _).set 1 (.int .i64 1)).set 0 (.int .i64 2)
        have G4 : Hid (Bx W4 g (rv r)) := by show Bx _ _ _; rw [hW4]; exact ((G3.out.drewN _).oth hne 1 _).oth hne 0 _
        have T4 : Hid (Ch w W4 (· = b)) := by show Ch _ _ _; rw [hW4]; exact ((T3.out.drewN _).set rfl 1 _).set rfl 0 _
        rw [← hW4]
        clear hW4 x0 x1 x2 z0 z1 z2 B3 G3 T3 nq
        have x0 := B4.out.c 0 rfl
        have x1 := B4.out.c 1 rfl
        have x2 := B4.out.c 2 rfl
        have z0 := B4.out.f 0
        have z1 := B4.out.f 1
        have z2 := B4.out.f 2
        go_wp2_with fail
        rw [rounds_succ]
        go_wp2_with fail
        go_quiet (fail)
        obtain ⟨W5, hW5⟩ : ∃ W, W = W4.drewN nq := ⟨_, rfl⟩
        have B5 : Hid (Bx W5 b (av 2 1 0)) := by show Bx _ _ _; rw [hW5]; exact B4.out.drewN _
        have G5 : Hid (Bx W5 g (rv r)) := by show Bx _ _ _; rw [hW5]; exact G4.out.drewN _
        have T5 : Hid (Ch w W5 (· = b)) := by show Ch _ _ _; rw [hW5]; exact T4.out.drewN _
        rw [← hW5]
        clear hW5 x0 x1 x2 z0 z1 z2 B4 G4 T4 nq
        have x0 := B5.out.c 0 rfl
        have x1 := B5.out.c 1 rfl
        have x2 := B5.out.c 2 rfl
        have z0 := B5.out.f 0
        have z1 := B5.out.f 1
        have z2 := B5.out.f 2
        go_wp2_with fail
        rw [rounds_succ]
        go_wp2_with fail
        go_end0
        refine ⟨rfl, ?_, T5.out⟩
        rw [show oax r = av 2 1 0 from oax_210 (by omega) (by omega) (by omega)]
        exact B5.out
      · have hd := cmpv_f h12
        have CC := cq g r 2 1 (by omega) (by omega)
        go_wp2_with fail
        go_quiet ((go_at_call 104; first | exact Calls.quiet_of (CC.out _ (G3.out.drewN _)) | exact quietAD' (CC.out _ (G3.out.drewN _))))
        clear CC hd
        obtain ⟨W6, hW6⟩ : ∃ W, W = W3.drewN nq := ⟨_, rfl⟩
        have B6 : Hid (Bx W6 b (av 1 2 0)) := by show Bx _ _ _; rw [hW6]; exact B3.out.drewN _
        have G6 : Hid (Bx W6 g (rv r)) := by show Bx _ _ _; rw [hW6]; exact G3.out.drewN _
        have T6 : Hid (Ch w W6 (· = b)) := by show Ch _ _ _; rw [hW6]; exact T3.out.drewN _
        rw [← hW6]
        clear hW6 x0 x1 x2 z0 z1 z2 B3 G3 T3 nq
        have x0 := B6.out.c 0 rfl
        have x1 := B6.out.c 1 rfl
        have x2 := B6.out.c 2 rfl
        have z0 := B6.out.f 0
        have z1 := B6.out.f 1
        have z2 := B6.out.f 2
        go_wp2_with fail
        rw [rounds_succ]
        go_wp2_with fail
        go_end0
        refine ⟨rfl, ?_, T6.out⟩
        rw [show oax r = av 1 2 0 from oax_120 (by omega) (by omega) (by omega)]
        exact B6.out
    · have hd := cmpv_f h02
      have CC := cq g r 2 0 (by omega) (by omega)
      go_wp2_with fail
      go_quiet ((go_at_call 104; first | exact Calls.quiet_of (CC.out _ (G2.out.drewN _)) | exact quietAD' (CC.out _ (G2.out.drewN _))))
      clear CC hd
      obtain ⟨W7, hW7⟩ : ∃ W, W = W2.drewN nq := ⟨_, rfl⟩
      have B7 : Hid (Bx W7 b (av 1 0 2)) := by show Bx _ _ _; rw [hW7]; exact B2.out.drewN _
      have G7 : Hid (Bx W7 g (rv r)) := by show Bx _ _ _; rw [hW7]; exact G2.out.drewN _
      have T7 : Hid (Ch w W7 (· = b)) := by show Ch _ _ _; rw [hW7]; exact T2.out.drewN _
      rw [← hW7]
      clear hW7 x0 x1 x2 z0 z1 z2 B2 G2 T2 nq
      have x0 := B7.out.c 0 rfl
      have x1 := B7.out.c 1 rfl
      have x2 := B7.out.c 2 rfl
      have z0 := B7.out.f 0
      have z1 := B7.out.f 1
      have z2 := B7.out.f 2
      go_wp2_with fail
      rw [rounds_succ]
      go_wp2_with fail
      go_end0
      refine ⟨rfl, ?_, T7.out⟩
      rw [show oax r = av 1 0 2 from oax_102 (by omega) (by omega)]
      exact B7.out
  · have hd := cmpv_f h01
    have CC := cq g r 1 0 (by omega) (by omega)
    go_wp2_with fail
    go_quiet ((go_at_call 104; first | exact Calls.quiet_of (CC.out _ (G0.out.drewN _)) | exact quietAD' (CC.out _ (G0.out.drewN _))))
    clear CC hd
    obtain ⟨W8, hW8⟩ : ∃ W, W = w.drewN nq := ⟨_, rfl⟩
    have B8 : Hid (Bx W8 b (av 0 1 2)) := by show Bx _ _ _; rw [hW8]; exact B0.out.drewN _
    have G8 : Hid (Bx W8 g (rv r)) := by show Bx _ _ _; rw [hW8]; exact G0.out.drewN _
    have T8 : Hid (Ch w W8 (· = b)) := by show Ch _ _ _; rw [hW8]; exact T0.out.drewN _
    rw [← hW8]
    clear hW8 x0 x1 x2 z0 z1 z2 B0 G0 T0 nq
    have x0 := B8.out.c 0 rfl
    have x1 := B8.out.c 1 rfl
    have x2 := B8.out.c 2 rfl
    have z0 := B8.out.f 0
    have z1 := B8.out.f 1
    have z2 := B8.out.f 2
    go_wp2_with fail
    rw [rounds_succ]
    go_wp2_with fail
    refine wp_loop_rounds 3 ?_
    rw [rounds_succ]
    by_cases h12 : r 1 < r 2
    · have hd := cmpv_t h12
      have CC := cq g r 2 1 (by omega) (by omega)
      go_wp2_with fail
      go_quiet ((go_at_call 104; first | exact Calls.quiet_of (CC.out _ (G8.out.drewN _)) | exact quietAD' (CC.out _ (G8.out.drewN _))))
      clear CC hd
      go_wp2_with fail
      go_region
      obtain ⟨W9, hW9⟩ : ∃ W, W = ((W8.drewN (nq + 1)).setCell ⟨b, 2, none⟩ (.int .i64 1)).setCell ⟨b, 1, none⟩ (.int .i64 2) := ⟨_, rfl⟩
      have B9 : Hid (Bx W9 b (av 0 2 1)) := by show Bx _ _ _; rw [hW9]; exact ((B8.out.drewN _).set 2 (.int .i64 1)).set 1 (.int .i64 2)
      have G9 : Hid (Bx W9 g (rv r)) := by show Bx _ _ _; rw [hW9]; exact ((G8.out.drewN _).oth hne 2 _).oth hne 1 _
      have T9 : Hid (Ch w W9 (· = b)) := by show Ch _ _ _; rw [hW9]; exact ((T8.out.drewN _).set rfl 2 _).set rfl 1 _
      rw [← hW9]
      clear hW9 x0 x1 x2 z0 z1 z2 B8 G8 T8 nq
      have x0 := B9.out.c 0 rfl
      have x1 := B9.out.c 1 rfl
      have x2 := B9.out.c 2 rfl
      have z0 := B9.out.f 0
      have z1 := B9.out.f 1
      have z2 := B9.out.f 2
      go_wp2_with fail
      rw [rounds_succ]
      by_cases h02 : r 0 < r 2
      · have hd := cmpv_t h02
        have CC := cq g r 2 0 (by omega) (by omega)
        go_wp2_with fail
        go_quiet ((go_at_call 104; first | exact Calls.quiet_of (CC.out _ (G9.out.drewN _)) | exact quietAD' (CC.out _ (G9.out.drewN _))))
        clear CC hd
        go_wp2_with fail
        go_region
        obtain ⟨W10, hW10⟩ : ∃ W, W = ((W9.drewN (nq + 1)).setCell ⟨b, 1, none⟩ (.int .i64 0)).setCell ⟨b, 0, none⟩ (.int .i64 2) := ⟨_, rfl⟩
        have B10 : Hid (Bx W10 b (av 2 0 1)) := by show Bx _ _ _; rw [hW10]; exact ((B9.out.drewN _).set 1 (.int .i64 0)).set 0 (.int .i64 2)
        have G10 : Hid (Bx W10 g (rv r)) := by show Bx _ _ _; rw [hW10]; exact ((G9.out.drewN _).oth hne 1 _).oth hne 0 _
        have T10 : Hid (Ch w W10 (· = b)) := by show Ch _ _ _; rw [hW10]; exact ((T9.out.drewN _).set rfl 1 _).set rfl 0 _
        rw [← hW10]
        clear hW10 x0 x1 x2 z0 z1 z2 B9 G9 T9 nq
        have x0 := B10.out.c 0 rfl
        have x1 := B10.out.c 1 rfl
        have x2 := B10.out.c 2 rfl
        have z0 := B10.out.f 0
        have z1 := B10.out.f 1
        have z2 := B10.out.f 2
        go_wp2_with fail
        rw [rounds_succ]
        go_wp2_with fail
        go_quiet (fail)
        obtain ⟨W11, hW11⟩ : ∃ W, W = W10.drewN nq := ⟨_, rfl⟩
        have B11 : Hid (Bx W11 b (av 2 0 1)) := by show Bx _ _ _; rw [hW11]; exact B10.out.drewN _
        have G11 : Hid (Bx W11 g (rv r)) := by show Bx _ _ _; rw [hW11]; exact G10.out.drewN _
        have T11 : Hid (Ch w W11 (· = b)) := by show Ch _ _ _; rw [hW11]; exact T10.out.drewN _
        rw [← hW11]
        clear hW11 x0 x1 x2 z0 z1 z2 B10 G10 T10 nq
        have x0 := B11.out.c 0 rfl
        have x1 := B11.out.c 1 rfl
        have x2 := B11.out.c 2 rfl
        have z0 := B11.out.f 0
        have z1 := B11.out.f 1
        have z2 := B11.out.f 2
        go_wp2_with fail
        rw [rounds_succ]
        go_wp2_with fail
        go_end0
        refine ⟨rfl, ?_, T11.out⟩
        rw [show oax r = av 2 0 1 from oax_201 (by omega) (by omega) (by omega)]
        exact B11.out
      · have hd := cmpv_f h02
        have CC := cq g r 2 0 (by omega) (by omega)
        go_wp2_with fail
        go_quiet ((go_at_call 104; first | exact Calls.quiet_of (CC.out _ (G9.out.drewN _)) | exact quietAD' (CC.out _ (G9.out.drewN _))))
        clear CC hd
        obtain ⟨W12, hW12⟩ : ∃ W, W = W9.drewN nq := ⟨_, rfl⟩
        have B12 : Hid (Bx W12 b (av 0 2 1)) := by show Bx _ _ _; rw [hW12]; exact B9.out.drewN _
        have G12 : Hid (Bx W12 g (rv r)) := by show Bx _ _ _; rw [hW12]; exact G9.out.drewN _
        have T12 : Hid (Ch w W12 (· = b)) := by show Ch _ _ _; rw [hW12]; exact T9.out.drewN _
        rw [← hW12]
        clear hW12 x0 x1 x2 z0 z1 z2 B9 G9 T9 nq
        have x0 := B12.out.c 0 rfl
        have x1 := B12.out.c 1 rfl
        have x2 := B12.out.c 2 rfl
        have z0 := B12.out.f 0
        have z1 := B12.out.f 1
        have z2 := B12.out.f 2
        go_wp2_with fail
        rw [rounds_succ]
        go_wp2_with fail
        go_end0
        refine ⟨rfl, ?_, T12.out⟩
        rw [show oax r = av 0 2 1 from oax_021 (by omega) (by omega) (by omega)]
        exact B12.out
    · have hd := cmpv_f h12
      have CC := cq g r 2 1 (by omega) (by omega)
      go_wp2_with fail
      go_quiet ((go_at_call 104; first | exact Calls.quiet_of (CC.out _ (G8.out.drewN _)) | exact quietAD' (CC.out _ (G8.out.drewN _))))
      clear CC hd
      obtain ⟨W13, hW13⟩ : ∃ W, W = W8.drewN nq := ⟨_, rfl⟩
      have B13 : Hid (Bx W13 b (av 0 1 2)) := by show Bx _ _ _; rw [hW13]; exact B8.out.drewN _
      have G13 : Hid (Bx W13 g (rv r)) := by show Bx _ _ _; rw [hW13]; exact G8.out.drewN _
      have T13 : Hid (Ch w W13 (· = b)) := by show Ch _ _ _; rw [hW13]; exact T8.out.drewN _
      rw [← hW13]
      clear hW13 x0 x1 x2 z0 z1 z2 B8 G8 T8 nq
      have x0 := B13.out.c 0 rfl
      have x1 := B13.out.c 1 rfl
      have x2 := B13.out.c 2 rfl
      have z0 := B13.out.f 0
      have z1 := B13.out.f 1
      have z2 := B13.out.f 2
      go_wp2_with fail
      rw [rounds_succ]
      go_wp2_with fail
      go_end0
      refine ⟨rfl, ?_, T13.out⟩
      rw [show oax r = av 0 1 2 from oax_012 (by omega) (by omega)]
      exact B13.out
set_option maxRecDepth 100000 in
set_option maxHeartbeats 2000000 in
theorem stable3 (g b c : Nat) (r : Nat → Int) (w : World) (hb : Bx w b (av 0 1 2)) (hg : Bx w g (rv r)) (hne : b ≠ g) :
    Calls Try.prog 108 #[.slice (some ⟨b, 0, none⟩) 3 c, .int .i64 3, CLO g] w (SrtE w b r) := by
  have CI := Lib.hid (insertion3 g b c r w hb hg hne)
  unfold CLO at *
  clear hb hg
  go_enter Try.func108, Try.ntmps108
  go_wp2_with fail
  refine wp_loop_rounds 1 ?_
  rw [rounds_succ]
  go_wp2_with fail
  refine CI.out.mono ?_
  rintro e w1 ⟨rfl, h1, h2⟩
  have H := Lib.hid (And.intro h1 h2)
  clear h1 h2 CI
  go_wp2_with fail
  refine wp_loop_rounds 1 ?_
  rw [rounds_succ]
  go_wp2_with fail
  go_end0
  exact ⟨rfl, H.out⟩
set_option maxHeartbeats 1000000 in
theorem sortStable3 (g b c : Nat) (r : Nat → Int) (w : World) (hb : Bx w b (av 0 1 2)) (hg : Bx w g (rv r)) (hne : b ≠ g) :
    Calls Try.prog 103 #[.slice (some ⟨b, 0, none⟩) 3 c, CLO g] w (SrtE w b r) := by
  have CI := Lib.hid (stable3 g b c r w hb hg hne)
  unfold CLO at *
  clear hb hg
  go_enter Try.func103, Try.ntmps103
  go_wp2_with fail
  refine CI.out.mono ?_
  rintro e w1 ⟨rfl, h1, h2⟩
  have H := Lib.hid (And.intro h1 h2)
  clear h1 h2 CI
  go_wp2_with fail
  go_end0
  exact ⟨rfl, H.out⟩
def AxAns (w : World) (r : Nat → Int) (e : Ending) (w' : World) : Prop := ∃ b, e = .returned (.slice (some ⟨b, 0, none⟩) 3 3) ∧ Bx w' b (oax r) ∧ w.heap.size ≤ b ∧ Below w.heap.size w w'
set_option maxHeartbeats 1000000 in
theorem axesByRest_any (r : Nat → Int) (w : World) : Calls Try.prog 89 #[.agg #[.int .i64 (r 0), .int .i64 (r 1), .int .i64 (r 2)]] w (AxAns w r) := by
  have G : Hid (∀ t cs t', cs.toList = av 0 1 2 → Bx ((w.alloc (.cells #[.int .i64 (r 0), .int .i64 (r 1), .int .i64 (r 2)] t)).alloc (.cells cs t')) w.heap.size (rv r) ∧ Bx ((w.alloc (.cells #[.int .i64 (r 0), .int .i64 (r 1), .int .i64 (r 2)] t)).alloc (.cells cs t')) (w.heap.size + 1) (av 0 1 2)) := fun t cs t' h =>
    ⟨(Bx.new w _ t rfl).alloc _, by have := Bx.new (w.alloc (.cells #[.int .i64 (r 0), .int .i64 (r 1), .int .i64 (r 2)] t)) cs t' (b := w.heap.size + 1) (by simp); rw [h] at this; exact this⟩
  go_enter Try.func89, Try.ntmps89
  go_wp2_with fail
  refine (sortStable3 w.heap.size (w.heap.size + 1) 3 r _ (G.out _ _ _ rfl).2 (G.out _ _ _ rfl).1 (by omega)).mono ?_
  rintro e w1 ⟨rfl, h1, h2⟩
  have H1 := Lib.hid h1
  have T : Hid (Below w.heap.size w w1) := (blThenAlloc (blAlloc w _) _).trans (h2.below (B := w.heap.size) (fun k hk => by omega) (by simp; omega))
  clear h1 h2 G
  go_wp2_with fail
  go_ret
  exact ⟨_, rfl, H1.out, by omega, T.out⟩
end Go.Proofs.Ythplngcdldongaa
namespace Go.Proofs.Ythplngcdldongaa
open Go.RowKit Go.Maps
set_option linter.unusedVariables false
set_option linter.unusedSimpArgs false

theorem jx_0 (a b c : Int) (W : World) : (Instr.index 75 (.agg #[.int .i64 a, .int .i64 b, .int .i64 c]) (.int .i64 0)).run Try.prog W = .ok (.int .i64 a) W := by kernel_rfl
theorem jx_1 (a b c : Int) (W : World) : (Instr.index 75 (.agg #[.int .i64 a, .int .i64 b, .int .i64 c]) (.int .i64 1)).run Try.prog W = .ok (.int .i64 b) W := by kernel_rfl
theorem jx_2 (a b c : Int) (W : World) : (Instr.index 75 (.agg #[.int .i64 a, .int .i64 b, .int .i64 c]) (.int .i64 2)).run Try.prog W = .ok (.int .i64 c) W := by kernel_rfl
def PtAns (w : World) (x y z : Int) (e : Ending) (w' : World) : Prop := e = .returned (.agg #[.int .i64 x, .int .i64 y, .int .i64 z]) ∧ Below w.heap.size w w'
set_option maxRecDepth 100000 in
set_option maxHeartbeats 4000000 in
theorem plusTimes_any (s0 s1 s2 n0 n1 n2 q : Int) (w : World) (h0 : -100000000000000 ≤ s0 ∧ s0 ≤ 100000000000000) (h1 : -100000000000000 ≤ s1 ∧ s1 ≤ 100000000000000) (h2 : -100000000000000 ≤ s2 ∧ s2 ≤ 100000000000000)
    (g0 : 0 ≤ n0 ∧ n0 ≤ 65535) (g1 : 0 ≤ n1 ∧ n1 ≤ 65535) (g2 : 0 ≤ n2 ∧ n2 ≤ 65535) (hq : -16776960 ≤ q ∧ q ≤ 16776960) :
    Calls Try.prog 90 #[.agg #[.int .i64 s0, .int .i64 s1, .int .i64 s2], .agg #[.int .i64 n0, .int .i64 n1, .int .i64 n2], .int .i64 q] w (PtAns w (s0 + n0 * q) (s1 + n1 * q) (s2 + n2 * q)) := by
  obtain ⟨p0, p0'⟩ := mul_bdT g0 hq
  obtain ⟨p1, p1'⟩ := mul_bdT g1 hq
  obtain ⟨p2, p2'⟩ := mul_bdT g2 hq
  obtain ⟨W0, hW0⟩ : ∃ W0, W0 = ((w.alloc (.cells #[.int .i64 s0, .int .i64 s1, .int .i64 s2] 75)).alloc (.cells #[.int .i64 n0, .int .i64 n1, .int .i64 n2] 75)).alloc (.cells #[.int .i64 0, .int .i64 0, .int .i64 0] 75) := ⟨_, rfl⟩
  have S0 : Hid (Bx W0 w.heap.size [.int .i64 s0, .int .i64 s1, .int .i64 s2]) := by show Bx _ _ _; rw [hW0]; exact ((Bx.new _ _ _ rfl).alloc _).alloc _
  have N0 : Hid (Bx W0 (w.heap.size + 1) [.int .i64 n0, .int .i64 n1, .int .i64 n2]) := by show Bx _ _ _; rw [hW0]; exact (Bx.new _ _ _ (by simp)).alloc _
  have R0 : Hid (Bx W0 (w.heap.size + 1 + 1) [.int .i64 0, .int .i64 0, .int .i64 0]) := by show Bx _ _ _; rw [hW0]; exact Bx.new _ _ _ (by simp)
  have T : Hid (Below w.heap.size w W0) := by show Below _ _ _; rw [hW0]; exact blThenAlloc (blThenAlloc (blAlloc _ _) _) _
  have HW := Lib.hid hW0
  clear hW0 g0 g1 g2 hq
  have x0 := S0.out.c 0 rfl
  have x1 := S0.out.c 1 rfl
  have x2 := S0.out.c 2 rfl
  have z0 := S0.out.f 0
  have z1 := S0.out.f 1
  have z2 := S0.out.f 2
  have y0 := N0.out.c 0 rfl
  have y1 := N0.out.c 1 rfl
  have y2 := N0.out.c 2 rfl
  have r0 := R0.out.c 0 rfl
  have r1 := R0.out.c 1 rfl
  have r2 := R0.out.c 2 rfl
  have u0 := R0.out.f 0
  have u1 := R0.out.f 1
  have u2 := R0.out.f 2
  go_enter Try.func90, Try.ntmps90
  go_wp2_with fail
  rw [← HW.out]
  refine wp_loop_rounds 4 ?_
  rw [rounds_succ]
  have ii := fun W => jx_0 n0 n1 n2 W
  go_wp2_with fail
  clear ii
  rw [rounds_succ]
  have ii := fun W => jx_1 n0 n1 n2 W
  go_wp2_with fail
  clear ii
  rw [rounds_succ]
  have ii := fun W => jx_2 n0 n1 n2 W
  go_wp2_with fail
  clear ii
  rw [rounds_succ]
  go_wp2_with fail
  have RR := ((((((R0.out.oth (c := w.heap.size) (by omega) 0 (.int .i64 (s0 + n0 * q))).oth (c := w.heap.size) (by omega) 1 (.int .i64 (s1 + n1 * q))).oth (c := w.heap.size) (by omega) 2 (.int .i64 (s2 + n2 * q))).set 0 (.int .i64 (s0 + n0 * q))).set 1 (.int .i64 (s1 + n1 * q))).set 2 (.int .i64 (s2 + n2 * q)))
  have k0 := RR.c 0 rfl
  have k1 := RR.c 1 rfl
  have k2 := RR.c 2 rfl
  clear RR
  refine bodyPost_ret (v := .agg #[.int .i64 (s0 + n0 * q), .int .i64 (s1 + n1 * q), .int .i64 (s2 + n2 * q)]) (by simp [results, Try.results90, go_sem, k0, k1, k2]) rfl ⟨rfl, ?_⟩
  repeat (refine Below.setCell ?_ (by simp; try omega) _)
  exact T.out
set_option maxRecDepth 100000 in
set_option maxHeartbeats 2000000 in
theorem next_b (a0 a1 a2 : Int) (k : Nat) (w : World) (hk : k < 3) (h0 : 0 ≤ a0 ∧ a0 ≤ 1000) (h1 : 0 ≤ a1 ∧ a1 ≤ 1000) (h2 : 0 ≤ a2 ∧ a2 ≤ 1000) :
    Calls Try.prog 60 #[.agg #[.int .i64 a0, .int .i64 a1, .int .i64 a2], .int .i64 (k : Int)] w (PtAns w (if 0 = k then a0 + 1 else a0) (if 1 = k then a1 + 1 else a1) (if 2 = k then a2 + 1 else a2)) := by
  have hkk : k = 0 ∨ k = 1 ∨ k = 2 := by omega
  rcases hkk with rfl | rfl | rfl
  · go_enter Try.func60, Try.ntmps60
    go_wp2_with fail
    refine bodyPost_ret (v := .agg #[.int .i64 (a0 + 1), .int .i64 a1, .int .i64 a2]) (by simp [results, Try.results60, go_sem]) rfl ⟨by simp, ?_⟩
    repeat (first | exact Below.refl _ _ | refine Below.setCell ?_ (by simp) _ | refine blThenAlloc ?_ _)
  · go_enter Try.func60, Try.ntmps60
    go_wp2_with fail
    refine bodyPost_ret (v := .agg #[.int .i64 a0, .int .i64 (a1 + 1), .int .i64 a2]) (by simp [results, Try.results60, go_sem]) rfl ⟨by simp, ?_⟩
    repeat (first | exact Below.refl _ _ | refine Below.setCell ?_ (by simp) _ | refine blThenAlloc ?_ _)
  · go_enter Try.func60, Try.ntmps60
    go_wp2_with fail
    refine bodyPost_ret (v := .agg #[.int .i64 a0, .int .i64 a1, .int .i64 (a2 + 1)]) (by simp [results, Try.results60, go_sem]) rfl ⟨by simp, ?_⟩
    repeat (first | exact Below.refl _ _ | refine Below.setCell ?_ (by simp) _ | refine blThenAlloc ?_ _)
/-- the node at a place that is there. -/
theorem look_light {W : World} {B s : Nat} {rs : Rws} {D : DataW Unit} (hM : MapN W B s rs (s * s * s) D) (h0 : gf (s : Int) rs = 0) (x : Nat → Int) (hx : inS (s : Int) [x 0, x 1, x 2] = true) :
    (Instr.lookup 71 (.map (some B)) (.agg #[.int .i64 (x 0), .int .i64 (x 1), .int .i64 (x 2)]) false).run Try.prog W = .ok (.agg #[.int .i64 (ndv rs s x 0), .int .i64 (ndv rs s x 1), .int .i64 (ndv rs s x 2)]) W := by
  obtain ⟨hs, hlen, hrow⟩ := gf_zero h0
  have h3 : s = 2 ∨ s = 3 ∨ s = 4 := by rcases side_cases hs with e | e | e <;> omega
  obtain ⟨t1, _, t2, t3, t4⟩ := nd_yes h3 hx
  simp only [List.getD_cons_zero, List.getD_cons_succ] at t2 t3 t4
  obtain ⟨b0, b1, b2⟩ := inS_iff.1 hx
  simp only [List.getD_cons_zero, List.getD_cons_succ] at b0 b1 b2
  have hk : kp (x 0) (x 1) (x 2) = kt s (ndI s [x 0, x 1, x 2]) := by unfold kt; rw [t2, t3, t4]
  have hkey : keyOf Try.prog 82 (.agg #[.int .i64 (x 0), .int .i64 (x 1), .int .i64 (x 2)]) = some (kt s (ndI s [x 0, x 1, x 2])) := by
    rw [← hk]; exact kp_of _ _ _ (WalkArith.wf_i64 (by omega)) (WalkArith.wf_i64 (by omega)) (WalkArith.wf_i64 (by omega))
  obtain ⟨v, ps, hrun, hv⟩ := hM.own.lookup keyP Try.underlying71 (zeroLights W) (lightElem_mk 0 0 0) hkey
  rw [hrun]
  rw [hM.at_ _ t1] at hv
  obtain ⟨a, b, c, rfl, he⟩ := lightElem_form hv
  unfold rowDat at he
  simp only [DataW.agg.injEq, List.cons.injEq, DataW.lit.injEq, Lit.int.injEq, true_and, and_true] at he
  unfold ndv
  rw [he.1, he.2.1, he.2.2]
theorem rv_set3 {W : World} {b : Nat} {f : Nat → Int} (g : Nat → Int) (h : Bx W b (rv f)) : Bx (((W.setCell ⟨b, 0, none⟩ (.int .i64 (g 0))).setCell ⟨b, 1, none⟩ (.int .i64 (g 1))).setCell ⟨b, 2, none⟩ (.int .i64 (g 2))) b (rv g) := ((h.set 0 _).set 1 _).set 2 _
theorem bx_oth3 {W : World} {b c : Nat} {l : List Value} (h : Bx W b l) (hc : c ≠ b) (x y z : Value) : Bx (((W.setCell ⟨c, 0, none⟩ x).setCell ⟨c, 1, none⟩ y).setCell ⟨c, 2, none⟩ z) b l := ((h.oth hc 0 _).oth hc 1 _).oth hc 2 _
theorem bel_set3 {w W : World} {c : Nat} (h : Below w.heap.size w W) (hc : w.heap.size ≤ c) (x y z : Value) : Below w.heap.size w (((W.setCell ⟨c, 0, none⟩ x).setCell ⟨c, 1, none⟩ y).setCell ⟨c, 2, none⟩ z) := ((h.setCell (p := ⟨c, 0, none⟩) hc _).setCell (p := ⟨c, 1, none⟩) hc _).setCell (p := ⟨c, 2, none⟩) hc _
theorem oax_at {W : World} {b : Nat} {r : Nat → Int} (h : Bx W b (oax r)) {t : Nat} (ht : t < 3) : W.cell? ⟨b, t, none⟩ = some (.int .i64 ((ax r t : Nat) : Int)) :=
  h.c t (by
    match t, ht with
    | 0, _ => rfl
    | 1, _ => rfl
    | 2, _ => rfl)
end Go.Proofs.Ythplngcdldongaa
namespace Go.Proofs.Ythplngcdldongaa
open Go.RowKit Go.Maps
set_option linter.unusedVariables false
set_option linter.unusedSimpArgs false

theorem bel1 {w W : World} {c : Nat} (h : Below w.heap.size w W) (hc : w.heap.size ≤ c) (i : Nat) (v : Value) : Below w.heap.size w (W.setCell ⟨c, i, none⟩ v) := h.setCell (p := ⟨c, i, none⟩) hc v
def CoAns (w : World) (f g : Nat → Int) (e : Ending) (w' : World) : Prop :=
  e = .returned (.tuple #[.agg #[.int .i64 (f 0), .int .i64 (f 1), .int .i64 (f 2)], .agg #[.int .i64 (g 0), .int .i64 (g 1), .int .i64 (g 2)]]) ∧ Below w.heap.size w w'
set_option maxRecDepth 100000 in
set_option maxHeartbeats 4000000 in
theorem cellOf_1 (sd : Int) (q : Nat → Int) (w : World) (hs : sd = 2 ∨ sd = 3 ∨ sd = 4) (hq : LvT 65535 q) : Calls Try.prog 49 #[.int .i64 sd, .agg #[.int .i64 (q 0), .int .i64 (q 1), .int .i64 (q 2)], .int .i64 1] w (CoAns w (ccT 65535 sd q) (crT 65535 sd q)) := by
  obtain ⟨cv, hcv⟩ : ∃ f, f = ccT 65535 sd q := ⟨_, rfl⟩
  obtain ⟨dv, hdv⟩ : ∃ f, f = crT 65535 sd q := ⟨_, rfl⟩
  have HV : Hid (∀ j, clCT 65535 sd (q j) = cv j ∧ clRT 65535 sd (q j) = dv j) := fun j => by rw [hcv, hdv]; exact ⟨rfl, rfl⟩
  rw [← hcv, ← hdv]
  have H3 := Lib.hid hs
  have HQB := Lib.hid hq
  obtain ⟨W2, hW2⟩ : ∃ W2, W2 = ((((w.alloc (.cells #[.int .i64 (q 0), .int .i64 (q 1), .int .i64 (q 2)] 75)).alloc (.cells #[.int .i64 0, .int .i64 0, .int .i64 0] 82)).alloc (.cells #[.int .i64 0, .int .i64 0, .int .i64 0] 75)).alloc (.cells #[.int .i64 0, .int .i64 0, .int .i64 0] 82)).alloc (.cells #[.int .i64 0, .int .i64 0, .int .i64 0] 75) := ⟨_, rfl⟩
  have A2 : Hid (Bx W2 (w.heap.size + 1) (rv fun _ => 0)) := by show Bx _ _ _; rw [hW2]; exact (((Bx.new _ _ _ (by simp)).alloc _).alloc _).alloc _
  have B2 : Hid (Bx W2 (w.heap.size + 1 + 1) (rv fun _ => 0)) := by show Bx _ _ _; rw [hW2]; exact ((Bx.new _ _ _ (by simp)).alloc _).alloc _
  have C2 : Hid (Bx W2 (w.heap.size + 1 + 1 + 1) (rv fun _ => 0)) := by show Bx _ _ _; rw [hW2]; exact (Bx.new _ _ _ (by simp)).alloc _
  have R2 : Hid (Bx W2 (w.heap.size + 1 + 1 + 1 + 1) (rv fun _ => 0)) := by show Bx _ _ _; rw [hW2]; exact Bx.new _ _ _ (by simp)
  have T2 : Hid (Below w.heap.size w W2) := by show Below _ _ _; rw [hW2]; exact blThenAlloc (blThenAlloc (blThenAlloc (blThenAlloc (blAlloc _ _) _) _) _) _
  have HW := Lib.hid hW2
  clear hW2 hcv hdv hs hq
  go_enter Try.func49, Try.ntmps49
  go_wp2_with fail
  rw [← HW.out]
  clear HW
  have a0 := A2.out.c 0 rfl
  have af0 := A2.out.f 0
  have a1 := A2.out.c 1 rfl
  have af1 := A2.out.f 1
  have a2 := A2.out.c 2 rfl
  have af2 := A2.out.f 2
  have b0 := B2.out.c 0 rfl
  have bf0 := B2.out.f 0
  have b1 := B2.out.c 1 rfl
  have bf1 := B2.out.f 1
  have b2 := B2.out.c 2 rfl
  have bf2 := B2.out.f 2
  have c0 := C2.out.c 0 rfl
  have cf0 := C2.out.f 0
  have c1 := C2.out.c 1 rfl
  have cf1 := C2.out.f 1
  have c2 := C2.out.c 2 rfl
  have cf2 := C2.out.f 2
  have r0 := R2.out.c 0 rfl
  have rf0 := R2.out.f 0
  have r1 := R2.out.c 1 rfl
  have rf1 := R2.out.f 1
  have r2 := R2.out.c 2 rfl
  have rf2 := R2.out.f 2
  refine wp_loop_rounds 4 ?_
  rw [rounds_succ]
  have ii := fun W => jx_0 (q 0) (q 1) (q 2) W
  go_wp2_with (go_at_call 91; refine (cellOfNumber_1 sd (q 0) _ H3.out (HQB.out 0 (by omega)).1 (HQB.out 0 (by omega)).2).mono ?_; rintro e w' ⟨rfl, m0, rfl⟩)
  clear ii
  rw [(HV.out 0).1, (HV.out 0).2]
  rw [rounds_succ]
  have ii := fun W => jx_1 (q 0) (q 1) (q 2) W
  go_wp2_with (go_at_call 91; refine (cellOfNumber_1 sd (q 1) _ H3.out (HQB.out 1 (by omega)).1 (HQB.out 1 (by omega)).2).mono ?_; rintro e w' ⟨rfl, m1, rfl⟩)
  clear ii
  rw [(HV.out 1).1, (HV.out 1).2]
  rw [rounds_succ]
  have ii := fun W => jx_2 (q 0) (q 1) (q 2) W
  go_wp2_with (go_at_call 91; refine (cellOfNumber_1 sd (q 2) _ H3.out (HQB.out 2 (by omega)).1 (HQB.out 2 (by omega)).2).mono ?_; rintro e w' ⟨rfl, m2, rfl⟩)
  clear ii
  rw [(HV.out 2).1, (HV.out 2).2]
  rw [rounds_succ]
  go_wp2_with fail
  go_region
  go_wp2_with fail
  have AA := (((((((((((((((A2.out.drewN m0).oth (c := w.heap.size + 1 + 1 + 1) (by omega) 0 (.int .i64 (cv 0))).oth (c := w.heap.size + 1 + 1 + 1 + 1) (by omega) 0 (.int .i64 (dv 0))).drewN m1).oth (c := w.heap.size + 1 + 1 + 1) (by omega) 1 (.int .i64 (cv 1))).oth (c := w.heap.size + 1 + 1 + 1 + 1) (by omega) 1 (.int .i64 (dv 1))).drewN m2).oth (c := w.heap.size + 1 + 1 + 1) (by omega) 2 (.int .i64 (cv 2))).oth (c := w.heap.size + 1 + 1 + 1 + 1) (by omega) 2 (.int .i64 (dv 2))).set 0 (.int .i64 (cv 0))).set 1 (.int .i64 (cv 1))).set 2 (.int .i64 (cv 2))).oth (c := w.heap.size + 1 + 1) (by omega) 0 (.int .i64 (dv 0))).oth (c := w.heap.size + 1 + 1) (by omega) 1 (.int .i64 (dv 1))).oth (c := w.heap.size + 1 + 1) (by omega) 2 (.int .i64 (dv 2)))
  have BB := (((((((((((((((B2.out.drewN m0).oth (c := w.heap.size + 1 + 1 + 1) (by omega) 0 (.int .i64 (cv 0))).oth (c := w.heap.size + 1 + 1 + 1 + 1) (by omega) 0 (.int .i64 (dv 0))).drewN m1).oth (c := w.heap.size + 1 + 1 + 1) (by omega) 1 (.int .i64 (cv 1))).oth (c := w.heap.size + 1 + 1 + 1 + 1) (by omega) 1 (.int .i64 (dv 1))).drewN m2).oth (c := w.heap.size + 1 + 1 + 1) (by omega) 2 (.int .i64 (cv 2))).oth (c := w.heap.size + 1 + 1 + 1 + 1) (by omega) 2 (.int .i64 (dv 2))).oth (c := w.heap.size + 1) (by omega) 0 (.int .i64 (cv 0))).oth (c := w.heap.size + 1) (by omega) 1 (.int .i64 (cv 1))).oth (c := w.heap.size + 1) (by omega) 2 (.int .i64 (cv 2))).set 0 (.int .i64 (dv 0))).set 1 (.int .i64 (dv 1))).set 2 (.int .i64 (dv 2)))
  have k0 := AA.c 0 rfl
  have k1 := AA.c 1 rfl
  have k2 := AA.c 2 rfl
  have k3 := BB.c 0 rfl
  have k4 := BB.c 1 rfl
  have k5 := BB.c 2 rfl
  clear AA BB
  refine bodyPost_ret (v := .tuple #[.agg #[.int .i64 (cv 0), .int .i64 (cv 1), .int .i64 (cv 2)], .agg #[.int .i64 (dv 0), .int .i64 (dv 1), .int .i64 (dv 2)]]) (by simp [results, Try.results49, go_sem, k0, k1, k2, k3, k4, k5]) rfl ⟨rfl, ?_⟩
  clear k0 k1 k2 k3 k4 k5
  exact Below.drew (bel1 (bel1 (bel1 (bel1 (bel1 (bel1 (bel1 (bel1 (blThenDrew (bel1 (bel1 (blThenDrew (bel1 (bel1 (blThenDrew T2.out m0) (c := w.heap.size + 1 + 1 + 1) (by omega) 0 (.int .i64 (cv 0))) (c := w.heap.size + 1 + 1 + 1 + 1) (by omega) 0 (.int .i64 (dv 0))) m1) (c := w.heap.size + 1 + 1 + 1) (by omega) 1 (.int .i64 (cv 1))) (c := w.heap.size + 1 + 1 + 1 + 1) (by omega) 1 (.int .i64 (dv 1))) m2) (c := w.heap.size + 1 + 1 + 1) (by omega) 2 (.int .i64 (cv 2))) (c := w.heap.size + 1 + 1 + 1 + 1) (by omega) 2 (.int .i64 (dv 2))) (c := w.heap.size + 1) (by omega) 0 (.int .i64 (cv 0))) (c := w.heap.size + 1) (by omega) 1 (.int .i64 (cv 1))) (c := w.heap.size + 1) (by omega) 2 (.int .i64 (cv 2))) (c := w.heap.size + 1 + 1) (by omega) 0 (.int .i64 (dv 0))) (c := w.heap.size + 1 + 1) (by omega) 1 (.int .i64 (dv 1))) (c := w.heap.size + 1 + 1) (by omega) 2 (.int .i64 (dv 2)))
set_option maxRecDepth 100000 in
set_option maxHeartbeats 4000000 in
theorem cellOf_256 (sd : Int) (q : Nat → Int) (w : World) (hs : sd = 2 ∨ sd = 3 ∨ sd = 4) (hq : LvT 16776960 q) : Calls Try.prog 49 #[.int .i64 sd, .agg #[.int .i64 (q 0), .int .i64 (q 1), .int .i64 (q 2)], .int .i64 256] w (CoAns w (ccT 16776960 sd q) (crT 16776960 sd q)) := by
  obtain ⟨cv, hcv⟩ : ∃ f, f = ccT 16776960 sd q := ⟨_, rfl⟩
  obtain ⟨dv, hdv⟩ : ∃ f, f = crT 16776960 sd q := ⟨_, rfl⟩
  have HV : Hid (∀ j, clCT 16776960 sd (q j) = cv j ∧ clRT 16776960 sd (q j) = dv j) := fun j => by rw [hcv, hdv]; exact ⟨rfl, rfl⟩
  rw [← hcv, ← hdv]
  have H3 := Lib.hid hs
  have HQB := Lib.hid hq
  obtain ⟨W2, hW2⟩ : ∃ W2, W2 = ((((w.alloc (.cells #[.int .i64 (q 0), .int .i64 (q 1), .int .i64 (q 2)] 75)).alloc (.cells #[.int .i64 0, .int .i64 0, .int .i64 0] 82)).alloc (.cells #[.int .i64 0, .int .i64 0, .int .i64 0] 75)).alloc (.cells #[.int .i64 0, .int .i64 0, .int .i64 0] 82)).alloc (.cells #[.int .i64 0, .int .i64 0, .int .i64 0] 75) := ⟨_, rfl⟩
  have A2 : Hid (Bx W2 (w.heap.size + 1) (rv fun _ => 0)) := by show Bx _ _ _; rw [hW2]; exact (((Bx.new _ _ _ (by simp)).alloc _).alloc _).alloc _
  have B2 : Hid (Bx W2 (w.heap.size + 1 + 1) (rv fun _ => 0)) := by show Bx _ _ _; rw [hW2]; exact ((Bx.new _ _ _ (by simp)).alloc _).alloc _
  have C2 : Hid (Bx W2 (w.heap.size + 1 + 1 + 1) (rv fun _ => 0)) := by show Bx _ _ _; rw [hW2]; exact (Bx.new _ _ _ (by simp)).alloc _
  have R2 : Hid (Bx W2 (w.heap.size + 1 + 1 + 1 + 1) (rv fun _ => 0)) := by show Bx _ _ _; rw [hW2]; exact Bx.new _ _ _ (by simp)
  have T2 : Hid (Below w.heap.size w W2) := by show Below _ _ _; rw [hW2]; exact blThenAlloc (blThenAlloc (blThenAlloc (blThenAlloc (blAlloc _ _) _) _) _) _
  have HW := Lib.hid hW2
  clear hW2 hcv hdv hs hq
  go_enter Try.func49, Try.ntmps49
  go_wp2_with fail
  rw [← HW.out]
  clear HW
  have a0 := A2.out.c 0 rfl
  have af0 := A2.out.f 0
  have a1 := A2.out.c 1 rfl
  have af1 := A2.out.f 1
  have a2 := A2.out.c 2 rfl
  have af2 := A2.out.f 2
  have b0 := B2.out.c 0 rfl
  have bf0 := B2.out.f 0
  have b1 := B2.out.c 1 rfl
  have bf1 := B2.out.f 1
  have b2 := B2.out.c 2 rfl
  have bf2 := B2.out.f 2
  have c0 := C2.out.c 0 rfl
  have cf0 := C2.out.f 0
  have c1 := C2.out.c 1 rfl
  have cf1 := C2.out.f 1
  have c2 := C2.out.c 2 rfl
  have cf2 := C2.out.f 2
  have r0 := R2.out.c 0 rfl
  have rf0 := R2.out.f 0
  have r1 := R2.out.c 1 rfl
  have rf1 := R2.out.f 1
  have r2 := R2.out.c 2 rfl
  have rf2 := R2.out.f 2
  refine wp_loop_rounds 4 ?_
  rw [rounds_succ]
  have ii := fun W => jx_0 (q 0) (q 1) (q 2) W
  go_wp2_with (go_at_call 91; refine (cellOfNumber_256 sd (q 0) _ H3.out (HQB.out 0 (by omega)).1 (HQB.out 0 (by omega)).2).mono ?_; rintro e w' ⟨rfl, m0, rfl⟩)
  clear ii
  rw [(HV.out 0).1, (HV.out 0).2]
  rw [rounds_succ]
  have ii := fun W => jx_1 (q 0) (q 1) (q 2) W
  go_wp2_with (go_at_call 91; refine (cellOfNumber_256 sd (q 1) _ H3.out (HQB.out 1 (by omega)).1 (HQB.out 1 (by omega)).2).mono ?_; rintro e w' ⟨rfl, m1, rfl⟩)
  clear ii
  rw [(HV.out 1).1, (HV.out 1).2]
  rw [rounds_succ]
  have ii := fun W => jx_2 (q 0) (q 1) (q 2) W
  go_wp2_with (go_at_call 91; refine (cellOfNumber_256 sd (q 2) _ H3.out (HQB.out 2 (by omega)).1 (HQB.out 2 (by omega)).2).mono ?_; rintro e w' ⟨rfl, m2, rfl⟩)
  clear ii
  rw [(HV.out 2).1, (HV.out 2).2]
  rw [rounds_succ]
  go_wp2_with fail
  go_region
  go_wp2_with fail
  have AA := (((((((((((((((A2.out.drewN m0).oth (c := w.heap.size + 1 + 1 + 1) (by omega) 0 (.int .i64 (cv 0))).oth (c := w.heap.size + 1 + 1 + 1 + 1) (by omega) 0 (.int .i64 (dv 0))).drewN m1).oth (c := w.heap.size + 1 + 1 + 1) (by omega) 1 (.int .i64 (cv 1))).oth (c := w.heap.size + 1 + 1 + 1 + 1) (by omega) 1 (.int .i64 (dv 1))).drewN m2).oth (c := w.heap.size + 1 + 1 + 1) (by omega) 2 (.int .i64 (cv 2))).oth (c := w.heap.size + 1 + 1 + 1 + 1) (by omega) 2 (.int .i64 (dv 2))).set 0 (.int .i64 (cv 0))).set 1 (.int .i64 (cv 1))).set 2 (.int .i64 (cv 2))).oth (c := w.heap.size + 1 + 1) (by omega) 0 (.int .i64 (dv 0))).oth (c := w.heap.size + 1 + 1) (by omega) 1 (.int .i64 (dv 1))).oth (c := w.heap.size + 1 + 1) (by omega) 2 (.int .i64 (dv 2)))
  have BB := (((((((((((((((B2.out.drewN m0).oth (c := w.heap.size + 1 + 1 + 1) (by omega) 0 (.int .i64 (cv 0))).oth (c := w.heap.size + 1 + 1 + 1 + 1) (by omega) 0 (.int .i64 (dv 0))).drewN m1).oth (c := w.heap.size + 1 + 1 + 1) (by omega) 1 (.int .i64 (cv 1))).oth (c := w.heap.size + 1 + 1 + 1 + 1) (by omega) 1 (.int .i64 (dv 1))).drewN m2).oth (c := w.heap.size + 1 + 1 + 1) (by omega) 2 (.int .i64 (cv 2))).oth (c := w.heap.size + 1 + 1 + 1 + 1) (by omega) 2 (.int .i64 (dv 2))).oth (c := w.heap.size + 1) (by omega) 0 (.int .i64 (cv 0))).oth (c := w.heap.size + 1) (by omega) 1 (.int .i64 (cv 1))).oth (c := w.heap.size + 1) (by omega) 2 (.int .i64 (cv 2))).set 0 (.int .i64 (dv 0))).set 1 (.int .i64 (dv 1))).set 2 (.int .i64 (dv 2)))
  have k0 := AA.c 0 rfl
  have k1 := AA.c 1 rfl
  have k2 := AA.c 2 rfl
  have k3 := BB.c 0 rfl
  have k4 := BB.c 1 rfl
  have k5 := BB.c 2 rfl
  clear AA BB
  refine bodyPost_ret (v := .tuple #[.agg #[.int .i64 (cv 0), .int .i64 (cv 1), .int .i64 (cv 2)], .agg #[.int .i64 (dv 0), .int .i64 (dv 1), .int .i64 (dv 2)]]) (by simp [results, Try.results49, go_sem, k0, k1, k2, k3, k4, k5]) rfl ⟨rfl, ?_⟩
  clear k0 k1 k2 k3 k4 k5
  exact Below.drew (bel1 (bel1 (bel1 (bel1 (bel1 (bel1 (bel1 (bel1 (blThenDrew (bel1 (bel1 (blThenDrew (bel1 (bel1 (blThenDrew T2.out m0) (c := w.heap.size + 1 + 1 + 1) (by omega) 0 (.int .i64 (cv 0))) (c := w.heap.size + 1 + 1 + 1 + 1) (by omega) 0 (.int .i64 (dv 0))) m1) (c := w.heap.size + 1 + 1 + 1) (by omega) 1 (.int .i64 (cv 1))) (c := w.heap.size + 1 + 1 + 1 + 1) (by omega) 1 (.int .i64 (dv 1))) m2) (c := w.heap.size + 1 + 1 + 1) (by omega) 2 (.int .i64 (cv 2))) (c := w.heap.size + 1 + 1 + 1 + 1) (by omega) 2 (.int .i64 (dv 2))) (c := w.heap.size + 1) (by omega) 0 (.int .i64 (cv 0))) (c := w.heap.size + 1) (by omega) 1 (.int .i64 (cv 1))) (c := w.heap.size + 1) (by omega) 2 (.int .i64 (cv 2))) (c := w.heap.size + 1 + 1) (by omega) 0 (.int .i64 (dv 0))) (c := w.heap.size + 1 + 1) (by omega) 1 (.int .i64 (dv 1))) (c := w.heap.size + 1 + 1) (by omega) 2 (.int .i64 (dv 2)))
theorem cellOf_k (o : Int) (ho : One o) (sd : Int) (q : Nat → Int) (w : World) (hs : sd = 2 ∨ sd = 3 ∨ sd = 4) (hq : LvT (65535 * o) q) : Calls Try.prog 49 #[.int .i64 sd, .agg #[.int .i64 (q 0), .int .i64 (q 1), .int .i64 (q 2)], .int .i64 o] w (CoAns w (ccT (65535 * o) sd q) (crT (65535 * o) sd q)) := by
  rcases ho with rfl | rfl
  · exact cellOf_1 sd q w hs hq
  · exact cellOf_256 sd q w hs hq
end Go.Proofs.Ythplngcdldongaa

/-
  Three axes in the order of their rests: slices.SortStableFunc at three; the program's axesByRest.
-/
import Derived.Test.YtmmlcdbbjkligaaGrdX
namespace Go.Proofs.Ytmmlcdbbjkligaa
open Go.RowKit
set_option linter.unusedVariables false
set_option linter.unusedSimpArgs false

def av (a b c : Int) : List Value := [.int .i64 a, .int .i64 b, .int .i64 c]
def CLO (g : Nat) : Value := .func (.func 160) #[] #[.pointer (some ⟨g, 0, none⟩)]
def oax (r : Nat → Int) : List Value := av (ax r 0) (ax r 1) (ax r 2)
theorem Ch.drewN {w W : World} {P : Nat → Prop} (h : Ch w W P) (m : Nat) : Ch w (W.drewN m) P := h.trans (Ch.of_below P (below_drewN _ _ _))
theorem Ch.set {w W : World} {P : Nat → Prop} (h : Ch w W P) {b : Nat} (hb : P b) (i : Nat) (v : Value) : Ch w (W.setCell ⟨b, i, none⟩ v) P := h.trans (Ch.setCell W hb i v)
def Cq (g : Nat) (r : Nat → Int) (a b : Int) (i j : Nat) : Prop := ∀ W, Bx W g (rv r) → Calls Try.prog 160 #[.int .i64 a, .int .i64 b, .pointer (some ⟨g, 0, none⟩)] W fun e w' => e = .returned (.int .i64 (cmpv (r j) (r i))) ∧ ∃ m, w' = W.drewN m
theorem cq (g : Nat) (r : Nat → Int) (i j : Nat) (hi : i < 3) (hj : j < 3) : Hid (Cq g r i j i j) := fun W h => byRest_any g i j r W h hi hj
theorem oax_210 {r : Nat → Int} (h01 : r 0 < r 1) (h02 : r 0 < r 2) (h12 : r 1 < r 2) : oax r = av 2 1 0 := by
  have e0 : ax r 0 = 2 := by unfold ax; (repeat' split) <;> omega
  have e1 : ax r 1 = 1 := by unfold ax; (repeat' split) <;> omega
  have e2 : ax r 2 = 0 := by unfold ax; (repeat' split) <;> omega
  unfold oax; rw [e0, e1, e2]; rfl
theorem oax_120 {r : Nat → Int} (h01 : r 0 < r 1) (h02 : r 0 < r 2) (h12 : ¬ r 1 < r 2) : oax r = av 1 2 0 := by
  have e0 : ax r 0 = 1 := by unfold ax; (repeat' split) <;> omega
  have e1 : ax r 1 = 2 := by unfold ax; (repeat' split) <;> omega
  have e2 : ax r 2 = 0 := by unfold ax; (repeat' split) <;> omega
  unfold oax; rw [e0, e1, e2]; rfl
theorem oax_102 {r : Nat → Int} (h01 : r 0 < r 1) (h02 : ¬ r 0 < r 2) : oax r = av 1 0 2 := by
  have e0 : ax r 0 = 1 := by unfold ax; (repeat' split) <;> omega
  have e1 : ax r 1 = 0 := by unfold ax; (repeat' split) <;> omega
  have e2 : ax r 2 = 2 := by unfold ax; (repeat' split) <;> omega
  unfold oax; rw [e0, e1, e2]; rfl
theorem oax_201 {r : Nat → Int} (h01 : ¬ r 0 < r 1) (h12 : r 1 < r 2) (h02 : r 0 < r 2) : oax r = av 2 0 1 := by
  have e0 : ax r 0 = 2 := by unfold ax; (repeat' split) <;> omega
  have e1 : ax r 1 = 0 := by unfold ax; (repeat' split) <;> omega
  have e2 : ax r 2 = 1 := by unfold ax; (repeat' split) <;> omega
  unfold oax; rw [e0, e1, e2]; rfl
theorem oax_021 {r : Nat → Int} (h01 : ¬ r 0 < r 1) (h12 : r 1 < r 2) (h02 : ¬ r 0 < r 2) : oax r = av 0 2 1 := by
  have e0 : ax r 0 = 0 := by unfold ax; (repeat' split) <;> omega
  have e1 : ax r 1 = 2 := by unfold ax; (repeat' split) <;> omega
  have e2 : ax r 2 = 1 := by unfold ax; (repeat' split) <;> omega
  unfold oax; rw [e0, e1, e2]; rfl
theorem oax_012 {r : Nat → Int} (h01 : ¬ r 0 < r 1) (h12 : ¬ r 1 < r 2) : oax r = av 0 1 2 := by
  have e0 : ax r 0 = 0 := by unfold ax; (repeat' split) <;> omega
  have e1 : ax r 1 = 1 := by unfold ax; (repeat' split) <;> omega
  have e2 : ax r 2 = 2 := by unfold ax; (repeat' split) <;> omega
  unfold oax; rw [e0, e1, e2]; rfl
def SrtE (w : World) (b : Nat) (r : Nat → Int) (e : Ending) (w' : World) : Prop := e = .returned (.tuple #[]) ∧ Bx w' b (oax r) ∧ Ch w w' (· = b)
set_option maxRecDepth 100000 in
set_option maxHeartbeats 8000000 in
theorem insertion3 (g b c : Nat) (r : Nat → Int) (w : World) (hb : Bx w b (av 0 1 2)) (hg : Bx w g (rv r)) (hne : b ≠ g) :
    Calls Try.prog 176 #[.slice (some ⟨b, 0, none⟩) 3 c, .int .i64 0, .int .i64 3, CLO g] w (SrtE w b r) := by
  unfold CLO
  have B0 := Lib.hid hb
  have G0 := Lib.hid hg
  have T0 := Lib.hid (Ch.refl w (· = b))
  clear hb hg
  have x0 := B0.out.c 0 rfl
  have x1 := B0.out.c 1 rfl
  have x2 := B0.out.c 2 rfl
  have z0 := B0.out.f 0
  have z1 := B0.out.f 1
  have z2 := B0.out.f 2
  go_enter Try.func176, Try.ntmps176
  go_wp2_with fail
  refine wp_loop_rounds 3 ?_
  rw [rounds_succ]
  go_wp2_with fail
  refine wp_loop_rounds 2 ?_
  rw [rounds_succ]
  by_cases h01 : r 0 < r 1
  · have hd := cmpv_t h01
    have CC := cq g r 1 0 (by omega) (by omega)
    go_wp2_with fail
    go_quiet ((go_at_call 160; first | exact Calls.quiet_of (CC.out _ (G0.out.drewN _)) | exact quietAD' (CC.out _ (G0.out.drewN _))))
    clear CC hd
    go_wp2_with fail
    go_region
    obtain ⟨W1, hW1⟩ : ∃ W, W = ((w.drewN (nq + 1)).setCell ⟨b, 1, none⟩ (.int .i64 0)).setCell ⟨b, 0, none⟩ (.int .i64 1) := ⟨_, rfl⟩
    have B1 : Hid (Bx W1 b (av 1 0 2)) := by show Bx _ _ _; rw [hW1]; exact ((B0.out.drewN _).set 1 (.int .i64 0)).set 0 (.int .i64 1)
    have G1 : Hid (Bx W1 g (rv r)) := by show Bx _ _ _; rw [hW1]; exact ((G0.out.drewN _).oth hne 1 _).oth hne 0 _
    have T1 : Hid (Ch w W1 (· = b)) := by show Ch _ _ _; rw [hW1]; exact ((T0.out.drewN _).set rfl 1 _).set rfl 0 _
    rw [← hW1]
    clear hW1 x0 x1 x2 z0 z1 z2 B0 G0 T0 nq
    have x0 := B1.out.c 0 rfl
    have x1 := B1.out.c 1 rfl
    have x2 := B1.out.c 2 rfl
    have z0 := B1.out.f 0
    have z1 := B1.out.f 1
    have z2 := B1.out.f 2
    go_wp2_with fail
    rw [rounds_succ]
    go_wp2_with fail
    go_quiet (fail)
    obtain ⟨W2, hW2⟩ : ∃ W, W = W1.drewN nq := ⟨_, rfl⟩
    have B2 : Hid (Bx W2 b (av 1 0 2)) := by show Bx _ _ _; rw [hW2]; exact B1.out.drewN _
    have G2 : Hid (Bx W2 g (rv r)) := by show Bx _ _ _; rw [hW2]; exact G1.out.drewN _
    have T2 : Hid (Ch w W2 (· = b)) := by show Ch _ _ _; rw [hW2]; exact T1.out.drewN _
    rw [← hW2]
    clear hW2 x0 x1 x2 z0 z1 z2 B1 G1 T1 nq
    have x0 := B2.out.c 0 rfl
    have x1 := B2.out.c 1 rfl
    have x2 := B2.out.c 2 rfl
    have z0 := B2.out.f 0
    have z1 := B2.out.f 1
    have z2 := B2.out.f 2
    go_wp2_with fail
    rw [rounds_succ]
    go_wp2_with fail
    refine wp_loop_rounds 3 ?_
    rw [rounds_succ]
    by_cases h02 : r 0 < r 2
    · have hd := cmpv_t h02
      have CC := cq g r 2 0 (by omega) (by omega)
      go_wp2_with fail
      go_quiet ((go_at_call 160; first | exact Calls.quiet_of (CC.out _ (G2.out.drewN _)) | exact quietAD' (CC.out _ (G2.out.drewN _))))
      clear CC hd
      go_wp2_with fail
      go_region
      obtain ⟨W3, hW3⟩ : ∃ W, W = ((W2.drewN (nq + 1)).setCell ⟨b, 2, none⟩ (.int .i64 0)).setCell ⟨b, 1, none⟩ (.int .i64 2) := ⟨_, rfl⟩
      have B3 : Hid (Bx W3 b (av 1 2 0)) := by show Bx _ _ _; rw [hW3]; exact ((B2.out.drewN _).set 2 (.int .i64 0)).set 1 (.int .i64 2)
      have G3 : Hid (Bx W3 g (rv r)) := by show Bx _ _ _; rw [hW3]; exact ((G2.out.drewN _).oth hne 2 _).oth hne 1 _
      have T3 : Hid (Ch w W3 (· = b)) := by show Ch _ _ _; rw [hW3]; exact ((T2.out.drewN _).set rfl 2 _).set rfl 1 _
      rw [← hW3]
      clear hW3 x0 x1 x2 z0 z1 z2 B2 G2 T2 nq
      have x0 := B3.out.c 0 rfl
      have x1 := B3.out.c 1 rfl
      have x2 := B3.out.c 2 rfl
      have z0 := B3.out.f 0
      have z1 := B3.out.f 1
      have z2 := B3.out.f 2
      go_wp2_with fail
      rw [rounds_succ]
      by_cases h12 : r 1 < r 2
      · have hd := cmpv_t h12
        have CC := cq g r 2 1 (by omega) (by omega)
        go_wp2_with fail
        go_quiet ((go_at_call 160; first | exact Calls.quiet_of (CC.out _ (G3.out.drewN _)) | exact quietAD' (CC.out _ (G3.out.drewN _))))
        clear CC hd
        go_wp2_with fail
        go_region
        obtain ⟨W4, hW4⟩ : ∃ W, W = ((W3.drewN (nq + 1)).setCell ⟨b, 1, none⟩ (.int .i64 1)).setCell ⟨b, 0, none⟩ (.int .i64 2) := ⟨_, rfl⟩
        have B4 : Hid (Bx W4 b (av 2 1 0)) := by show Bx _ _ _; rw [hW4]; exact ((B3.out.drewN _).set 1 (.int .i64 1)).set 0 (.int .i64 2)
        have G4 : Hid (Bx W4 g (rv r)) := by show Bx _ _ _; rw [hW4]; exact ((G3.out.drewN _).oth hne 1 _).oth hne 0 _
        have T4 : Hid (Ch w W4 (· = b)) := by show Ch _ _ _; rw [hW4]; exact ((T3.out.drewN _).set rfl 1 _).set rfl 0 _
        rw [← hW4]
        clear hW4 x0 x1 x2 z0 z1 z2 B3 G3 T3 nq
        have x0 := B4.out.c 0 rfl
        have x1 := B4.out.c 1 rfl
        have x2 := B4.out.c 2 rfl
        have z0 := B4.out.f 0
        have z1 := B4.out.f 1
        have z2 := B4.out.f 2
        go_wp2_with fail
        rw [rounds_succ]
        go_wp2_with fail
        go_quiet (fail)
        obtain ⟨W5, hW5⟩ : ∃ W, W = W4.drewN nq := ⟨_, rfl⟩
        have B5 : Hid (Bx W5 b (av 2 1 0)) := by show Bx _ _ _; rw [hW5]; exact B4.out.drewN _
        have G5 : Hid (Bx W5 g (rv r)) := by show Bx _ _ _; rw [hW5]; exact G4.out.drewN _
        have T5 : Hid (Ch w W5 (· = b)) := by show Ch _ _ _; rw [hW5]; exact T4.out.drewN _
        rw [← hW5]
        clear hW5 x0 x1 x2 z0 z1 z2 B4 G4 T4 nq
        have x0 := B5.out.c 0 rfl
        have x1 := B5.out.c 1 rfl
        have x2 := B5.out.c 2 rfl
        have z0 := B5.out.f 0
        have z1 := B5.out.f 1
        have z2 := B5.out.f 2
        go_wp2_with fail
        rw [rounds_succ]
        go_wp2_with fail
        go_end0
        refine ⟨rfl, ?_, T5.out⟩
        rw [show oax r = av 2 1 0 from oax_210 (by omega) (by omega) (by omega)]
        exact B5.out
      · have hd := cmpv_f h12
        have CC := cq g r 2 1 (by omega) (by omega)
        go_wp2_with fail
        go_quiet ((go_at_call 160; first | exact Calls.quiet_of (CC.out _ (G3.out.drewN _)) | exact quietAD' (CC.out _ (G3.out.drewN _))))
        clear CC hd
        obtain ⟨W6, hW6⟩ : ∃ W, W = W3.drewN nq := ⟨_, rfl⟩
        have B6 : Hid (Bx W6 b (av 1 2 0)) := by show Bx _ _ _; rw [hW6]; exact B3.out.drewN _
        have G6 : Hid (Bx W6 g (rv r)) := by show Bx _ _ _; rw [hW6]; exact G3.out.drewN _
        have T6 : Hid (Ch w W6 (· = b)) := by show Ch _ _ _; rw [hW6]; exact T3.out.drewN _
        rw [← hW6]
        clear hW6 x0 x1 x2 z0 z1 z2 B3 G3 T3 nq
        have x0 := B6.out.c 0 rfl
        have x1 := B6.out.c 1 rfl
        have x2 := B6.out.c 2 rfl
        have z0 := B6.out.f 0
        have z1 := B6.out.f 1
        have z2 := B6.out.f 2
        go_wp2_with fail
        rw [rounds_succ]
        go_wp2_with fail
        go_end0
        refine ⟨rfl, ?_, T6.out⟩
        rw [show oax r = av 1 2 0 from oax_120 (by omega) (by omega) (by omega)]
        exact B6.out
    · have hd := cmpv_f h02
      have CC := cq g r 2 0 (by omega) (by omega)
      go_wp2_with fail
      go_quiet ((go_at_call 160; first | exact Calls.quiet_of (CC.out _ (G2.out.drewN _)) | exact quietAD' (CC.out _ (G2.out.drewN _))))
      clear CC hd
      obtain ⟨W7, hW7⟩ : ∃ W, W = W2.drewN nq := ⟨_, rfl⟩
      have B7 : Hid (Bx W7 b (av 1 0 2)) := by show Bx _ _ _; rw [hW7]; exact B2.out.drewN _
      have G7 : Hid (Bx W7 g (rv r)) := by show Bx _ _ _; rw [hW7]; exact G2.out.drewN _
      have T7 : Hid (Ch w W7 (· = b)) := by show Ch _ _ _; rw [hW7]; exact T2.out.drewN _
      rw [← hW7]
      clear hW7 x0 x1 x2 z0 z1 z2 B2 G2 T2 nq
      have x0 := B7.out.c 0 rfl
      have x1 := B7.out.c 1 rfl
      have x2 := B7.out.c 2 rfl
      have z0 := B7.out.f 0
      have z1 := B7.out.f 1
      have z2 := B7.out.f 2
      go_wp2_with fail
      rw [rounds_succ]
      go_wp2_with fail
      go_end0
      refine ⟨rfl, ?_, T7.out⟩
      rw [show oax r = av 1 0 2 from oax_102 (by omega) (by omega)]
      exact B7.out
  · have hd := cmpv_f h01
    have CC := cq g r 1 0 (by omega) (by omega)
    go_wp2_with fail
    go_quiet ((go_at_call 160; first | exact Calls.quiet_of (CC.out _ (G0.out.drewN _)) | exact quietAD' (CC.out _ (G0.out.drewN _))))
    clear CC hd
    obtain ⟨W8, hW8⟩ : ∃ W, W = w.drewN nq := ⟨_, rfl⟩
    have B8 : Hid (Bx W8 b (av 0 1 2)) := by show Bx _ _ _; rw [hW8]; exact B0.out.drewN _
    have G8 : Hid (Bx W8 g (rv r)) := by show Bx _ _ _; rw [hW8]; exact G0.out.drewN _
    have T8 : Hid (Ch w W8 (· = b)) := by show Ch _ _ _; rw [hW8]; exact T0.out.drewN _
    rw [← hW8]
    clear hW8 x0 x1 x2 z0 z1 z2 B0 G0 T0 nq
    have x0 := B8.out.c 0 rfl
    have x1 := B8.out.c 1 rfl
    have x2 := B8.out.c 2 rfl
    have z0 := B8.out.f 0
    have z1 := B8.out.f 1
    have z2 := B8.out.f 2
    go_wp2_with fail
    rw [rounds_succ]
    go_wp2_with fail
    refine wp_loop_rounds 3 ?_
    rw [rounds_succ]
    by_cases h12 : r 1 < r 2
    · have hd := cmpv_t h12
      have CC := cq g r 2 1 (by omega) (by omega)
      go_wp2_with fail
      go_quiet ((go_at_call 160; first | exact Calls.quiet_of (CC.out _ (G8.out.drewN _)) | exact quietAD' (CC.out _ (G8.out.drewN _))))
      clear CC hd
      go_wp2_with fail
      go_region
      obtain ⟨W9, hW9⟩ : ∃ W, W = ((W8.drewN (nq + 1)).setCell ⟨b, 2, none⟩ (.int .i64 1)).setCell ⟨b, 1, none⟩ (.int .i64 2) := ⟨_, rfl⟩
      have B9 : Hid (Bx W9 b (av 0 2 1)) := by show Bx _ _ _; rw [hW9]; exact ((B8.out.drewN _).set 2 (.int .i64 1)).set 1 (.int .i64 2)
      have G9 : Hid (Bx W9 g (rv r)) := by show Bx _ _ _; rw [hW9]; exact ((G8.out.drewN _).oth hne 2 _).oth hne 1 _
      have T9 : Hid (Ch w W9 (· = b)) := by show Ch _ _ _; rw [hW9]; exact ((T8.out.drewN _).set rfl 2 _).set rfl 1 _
      rw [← hW9]
      clear hW9 x0 x1 x2 z0 z1 z2 B8 G8 T8 nq
      have x0 := B9.out.c 0 rfl
      have x1 := B9.out.c 1 rfl
      have x2 := B9.out.c 2 rfl
      have z0 := B9.out.f 0
      have z1 := B9.out.f 1
      have z2 := B9.out.f 2
      go_wp2_with fail
      rw [rounds_succ]
      by_cases h02 : r 0 < r 2
      · have hd := cmpv_t h02
        have CC := cq g r 2 0 (by omega) (by omega)
        go_wp2_with fail
        go_quiet ((go_at_call 160; first | exact Calls.quiet_of (CC.out _ (G9.out.drewN _)) | exact quietAD' (CC.out _ (G9.out.drewN _))))
        clear CC hd
        go_wp2_with fail
        go_region
        obtain ⟨W10, hW10⟩ : ∃ W, W = ((W9.drewN (nq + 1)).setCell ⟨b, 1, none⟩ (.int .i64 0)).setCell ⟨b, 0, none⟩ (.int .i64 2) := ⟨_, rfl⟩
        have B10 : Hid (Bx W10 b (av 2 0 1)) := by show Bx _ _ _; rw [hW10]; exact ((B9.out.drewN _).set 1 (.int .i64 0)).set 0 (.int .i64 2)
        have G10 : Hid (Bx W10 g (rv r)) := by show Bx _ _ _; rw [hW10]; exact ((G9.out.drewN _).oth hne 1 _).oth hne 0 _
        have T10 : Hid (Ch w W10 (· = b)) := by show Ch _ _ _; rw [hW10]; exact ((T9.out.drewN _).set rfl 1 _).set rfl 0 _
        rw [← hW10]
        clear hW10 x0 x1 x2 z0 z1 z2 B9 G9 T9 nq
        have x0 := B10.out.c 0 rfl
        have x1 := B10.out.c 1 rfl
        have x2 := B10.out.c 2 rfl
        have z0 := B10.out.f 0
        have z1 := B10.out.f 1
        have z2 := B10.out.f 2
        go_wp2_with fail
        rw [rounds_succ]
        go_wp2_with fail
        go_quiet (fail)
        obtain ⟨W11, hW11⟩ : ∃ W, W = W10.drewN nq := ⟨_, rfl⟩
        have B11 : Hid (Bx W11 b (av 2 0 1)) := by show Bx _ _ _; rw [hW11]; exact B10.out.drewN _
        have G11 : Hid (Bx W11 g (rv r)) := by show Bx _ _ _; rw [hW11]; exact G10.out.drewN _
        have T11 : Hid (Ch w W11 (· = b)) := by show Ch _ _ _; rw [hW11]; exact T10.out.drewN _
        rw [← hW11]
        clear hW11 x0 x1 x2 z0 z1 z2 B10 G10 T10 nq
        have x0 := B11.out.c 0 rfl
        have x1 := B11.out.c 1 rfl
        have x2 := B11.out.c 2 rfl
        have z0 := B11.out.f 0
        have z1 := B11.out.f 1
        have z2 := B11.out.f 2
        go_wp2_with fail
        rw [rounds_succ]
        go_wp2_with fail
        go_end0
        refine ⟨rfl, ?_, T11.out⟩
        rw [show oax r = av 2 0 1 from oax_201 (by omega) (by omega) (by omega)]
        exact B11.out
      · have hd := cmpv_f h02
        have CC := cq g r 2 0 (by omega) (by omega)
        go_wp2_with fail
        go_quiet ((go_at_call 160; first | exact Calls.quiet_of (CC.out _ (G9.out.drewN _)) | exact quietAD' (CC.out _ (G9.out.drewN _))))
        clear CC hd
        obtain ⟨W12, hW12⟩ : ∃ W, W = W9.drewN nq := ⟨_, rfl⟩
        have B12 : Hid (Bx W12 b (av 0 2 1)) := by show Bx _ _ _; rw [hW12]; exact B9.out.drewN _
        have G12 : Hid (Bx W12 g (rv r)) := by show Bx _ _ _; rw [hW12]; exact G9.out.drewN _
        have T12 : Hid (Ch w W12 (· = b)) := by show Ch _ _ _; rw [hW12]; exact T9.out.drewN _
        rw [← hW12]
        clear hW12 x0 x1 x2 z0 z1 z2 B9 G9 T9 nq
        have x0 := B12.out.c 0 rfl
        have x1 := B12.out.c 1 rfl
        have x2 := B12.out.c 2 rfl
        have z0 := B12.out.f 0
        have z1 := B12.out.f 1
        have z2 := B12.out.f 2
        go_wp2_with fail
        rw [rounds_succ]
        go_wp2_with fail
        go_end0
        refine ⟨rfl, ?_, T12.out⟩
        rw [show oax r = av 0 2 1 from oax_021 (by omega) (by omega) (by omega)]
        exact B12.out
    · have hd := cmpv_f h12
      have CC := cq g r 2 1 (by omega) (by omega)
      go_wp2_with fail
      go_quiet ((go_at_call 160; first | exact Calls.quiet_of (CC.out _ (G8.out.drewN _)) | exact quietAD' (CC.out _ (G8.out.drewN _))))
      clear CC hd
      obtain ⟨W13, hW13⟩ : ∃ W, W = W8.drewN nq := ⟨_, rfl⟩
      have B13 : Hid (Bx W13 b (av 0 1 2)) := by show Bx _ _ _; rw [hW13]; exact B8.out.drewN _
      have G13 : Hid (Bx W13 g (rv r)) := by show Bx _ _ _; rw [hW13]; exact G8.out.drewN _
      have T13 : Hid (Ch w W13 (· = b)) := by show Ch _ _ _; rw [hW13]; exact T8.out.drewN _
      rw [← hW13]
      clear hW13 x0 x1 x2 z0 z1 z2 B8 G8 T8 nq
      have x0 := B13.out.c 0 rfl
      have x1 := B13.out.c 1 rfl
      have x2 := B13.out.c 2 rfl
      have z0 := B13.out.f 0
      have z1 := B13.out.f 1
      have z2 := B13.out.f 2
      go_wp2_with fail
      rw [rounds_succ]
      go_wp2_with fail
      go_end0
      refine ⟨rfl, ?_, T13.out⟩
      rw [show oax r = av 0 1 2 from oax_012 (by omega) (by omega)]
      exact B13.out
set_option maxRecDepth 100000 in
set_option maxHeartbeats 2000000 in
theorem stable3 (g b c : Nat) (r : Nat → Int) (w : World) (hb : Bx w b (av 0 1 2)) (hg : Bx w g (rv r)) (hne : b ≠ g) :
    Calls Try.prog 173 #[.slice (some ⟨b, 0, none⟩) 3 c, .int .i64 3, CLO g] w (SrtE w b r) := by
  have CI := Lib.hid (insertion3 g b c r w hb hg hne)
  unfold CLO at *
  clear hb hg
  go_enter Try.func173, Try.ntmps173
  go_wp2_with fail
  refine wp_loop_rounds 1 ?_
  rw [rounds_succ]
  go_wp2_with fail
  refine CI.out.mono ?_
  rintro e w1 ⟨rfl, h1, h2⟩
  have H := Lib.hid (And.intro h1 h2)
  clear h1 h2 CI
  go_wp2_with fail
  refine wp_loop_rounds 1 ?_
  rw [rounds_succ]
  go_wp2_with fail
  go_end0
  exact ⟨rfl, H.out⟩
set_option maxHeartbeats 1000000 in
theorem sortStable3 (g b c : Nat) (r : Nat → Int) (w : World) (hb : Bx w b (av 0 1 2)) (hg : Bx w g (rv r)) (hne : b ≠ g) :
    Calls Try.prog 159 #[.slice (some ⟨b, 0, none⟩) 3 c, CLO g] w (SrtE w b r) := by
  have CI := Lib.hid (stable3 g b c r w hb hg hne)
  unfold CLO at *
  clear hb hg
  go_enter Try.func159, Try.ntmps159
  go_wp2_with fail
  refine CI.out.mono ?_
  rintro e w1 ⟨rfl, h1, h2⟩
  have H := Lib.hid (And.intro h1 h2)
  clear h1 h2 CI
  go_wp2_with fail
  go_end0
  exact ⟨rfl, H.out⟩
def AxAns (w : World) (r : Nat → Int) (e : Ending) (w' : World) : Prop := ∃ b, e = .returned (.slice (some ⟨b, 0, none⟩) 3 3) ∧ Bx w' b (oax r) ∧ w.heap.size ≤ b ∧ Below w.heap.size w w'
set_option maxHeartbeats 1000000 in
theorem axesByRest_any (r : Nat → Int) (w : World) : Calls Try.prog 131 #[.agg #[.int .i64 (r 0), .int .i64 (r 1), .int .i64 (r 2)]] w (AxAns w r) := by
  have G : Hid (∀ t cs t', cs.toList = av 0 1 2 → Bx ((w.alloc (.cells #[.int .i64 (r 0), .int .i64 (r 1), .int .i64 (r 2)] t)).alloc (.cells cs t')) w.heap.size (rv r) ∧ Bx ((w.alloc (.cells #[.int .i64 (r 0), .int .i64 (r 1), .int .i64 (r 2)] t)).alloc (.cells cs t')) (w.heap.size + 1) (av 0 1 2)) := fun t cs t' h =>
    ⟨(Bx.new w _ t rfl).alloc _, by have := Bx.new (w.alloc (.cells #[.int .i64 (r 0), .int .i64 (r 1), .int .i64 (r 2)] t)) cs t' (b := w.heap.size + 1) (by simp); rw [h] at this; exact this⟩
  go_enter Try.func131, Try.ntmps131
  go_wp2_with fail
  refine (sortStable3 w.heap.size (w.heap.size + 1) 3 r _ (G.out _ _ _ rfl).2 (G.out _ _ _ rfl).1 (by omega)).mono ?_
  rintro e w1 ⟨rfl, h1, h2⟩
  have H1 := Lib.hid h1
  have T : Hid (Below w.heap.size w w1) := (blThenAlloc (blAlloc w _) _).trans (h2.below (B := w.heap.size) (fun k hk => by omega) (by simp; omega))
  clear h1 h2 G
  go_wp2_with fail
  go_ret
  exact ⟨_, rfl, H1.out, by omega, T.out⟩
end Go.Proofs.Ytmmlcdbbjkligaa

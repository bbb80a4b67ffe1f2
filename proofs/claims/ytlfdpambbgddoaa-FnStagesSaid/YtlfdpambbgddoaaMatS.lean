/-
  Matrices: the program's and the model's SumOfRow.
-/
import Derived.Test.YtlfdpambbgddoaaMatCD
namespace Go.Proofs.Ytlfdpambbgddoaa
open Go.RowKit
set_option linter.unusedVariables false

def sumR (q : Nat → Int) (r : Nat) : Int := max (q (3 * r)) (-(q (3 * r))) + max (q (3 * r + 1)) (-(q (3 * r + 1))) + max (q (3 * r + 2)) (-(q (3 * r + 2)))
def rowC (rs : Rws) (row : Int) : Int := if mf rs = 0 then (if 0 ≤ row ∧ row < 3 then 0 else 3) else mf rs
def rowV (rs : Rws) (row : Int) : Int := if mf rs = 0 then (if 0 ≤ row ∧ row < 3 then sumR (fl rs) row.toNat else 0) else 0
theorem row_no {rs : Rws} {row : Int} (h : mf rs ≠ 0) : rowC rs row = mf rs ∧ rowV rs row = 0 := by unfold rowC rowV; rw [if_neg h, if_neg h]; exact ⟨rfl, rfl⟩
theorem row_out {rs : Rws} {row : Int} (h : mf rs = 0) (hr : ¬ (0 ≤ row ∧ row < 3)) : rowC rs row = 3 ∧ rowV rs row = 0 := by unfold rowC rowV; rw [if_pos h, if_pos h, if_neg hr, if_neg hr]; exact ⟨rfl, rfl⟩
theorem row_in {rs : Rws} {row : Int} (h : mf rs = 0) (hr : 0 ≤ row ∧ row < 3) : rowC rs row = 0 ∧ rowV rs row = sumR (fl rs) row.toNat := by unfold rowC rowV; rw [if_pos h, if_pos h, if_pos hr, if_pos hr]; exact ⟨rfl, rfl⟩

set_option maxRecDepth 100000 in
set_option maxHeartbeats 4000000 in
theorem SumOfRow_any (A : Option Addr) (n c : Nat) (rs : Rws) (bs : List Nat) (row : Int) (w : World) (h : Hd w (rowsD rs) (.slice A n c) bs) :
    Calls Try.prog 93 #[.agg #[.slice A n c], .int .i64 row] w fun e w' => e = .returned (.agg #[.int .i64 (rowC rs row), .int .i64 (rowV rs row)]) ∧ Below w.heap.size w w' := by
  have H := Lib.hid h
  clear h
  go_enter Try.func93, Try.ntmps93
  go_wp2_with fail
  refine (cellsOf_any _ _ _ rs _ _ ((H.out.alloc _).alloc _)).mono ?_
  rintro e w1 ⟨q, rfl, hq, hb⟩
  have hz : w.heap.size + 1 < w1.heap.size := by have := hb.size; simp at this; omega
  have r0 : w1.cell? ⟨w.heap.size + 1, 0, none⟩ = some (.int .i64 0) := cell_later hb (by rw [newCell _ _ _ _ _ (by simp)]; rfl)
  have r1 : w1.cell? ⟨w.heap.size + 1, 1, none⟩ = some (.int .i64 0) := cell_later hb (by rw [newCell _ _ _ _ _ (by simp)]; rfl)
  have z : ∀ k, w1.frozen? ⟨w.heap.size + 1, k, none⟩ = false := fun k => by rw [hb.frozen (p := ⟨w.heap.size + 1, k, none⟩) (by simp)]; exact newFrz _ _ _ _ _ (by simp)
  have z0 := z 0
  have z1 := z 1
  have T := Lib.hid (blThen (blThenAlloc (blAlloc w _) _) hb)
  clear hb z
  by_cases h0 : mf rs = 0
  · have hqq := hq h0
    by_cases hr : 0 ≤ row ∧ row < 3
    · obtain ⟨HC, HV⟩ := row_in h0 hr
      have hb9 : ∀ t, t < 9 → -262144 ≤ q t ∧ q t ≤ 262144 := fun t ht => by rw [hqq t ht]; exact fl_bd h0 t ht
      have e0 := ix3_0
      have e1 := ix3_1
      have e2 := ix3_2
      obtain hrr | hrr | hrr : row = 0 ∨ row = 1 ∨ row = 2 := by omega

      · subst hrr
        have HV2 : Hid (rowV rs 0 = max (q 0) (-(q 0)) + max (q 1) (-(q 1)) + max (q 2) (-(q 2))) := by
          show _ = _
          rw [HV, hqq 0 (by omega), hqq 1 (by omega), hqq 2 (by omega)]; rfl
        have HC2 := Lib.hid HC
        obtain ⟨pa0, pb0⟩ := hb9 0 (by omega)
        obtain ⟨pa1, pb1⟩ := hb9 1 (by omega)
        obtain ⟨pa2, pb2⟩ := hb9 2 (by omega)
        have k0 := fun b => (two_alloc (a := .int .i64 0) (b := .int .i64 b) r0 r1).1
        have k1 := fun b => (two_alloc (a := .int .i64 0) (b := .int .i64 b) r0 r1).2
        clear hq hqq hr HC HV hb9
        go_wp2_with fail
        refine wp_loop_rounds 4 ?_
        rw [rounds_succ]
        go_wp2_with fail
        all_goals (rw [rounds_succ]; go_wp2_with fail)
        all_goals (rw [rounds_succ]; go_wp2_with fail)
        all_goals (rw [rounds_succ]; go_wp2_with fail)
        all_goals
          refine bodyPost_ret (v := .agg #[.int .i64 0, .int .i64 (rowV rs 0)]) (by rw [HV2.out]; simp [results, Try.results93, go_sem, k0, k1]; try omega) rfl ⟨by rw [HC2.out], ?_⟩
          refine blThenAlloc ?_ _
          repeat (refine Below.setCell ?_ (by simp) _)
          exact T.out

      · subst hrr
        have HV2 : Hid (rowV rs 1 = max (q 3) (-(q 3)) + max (q 4) (-(q 4)) + max (q 5) (-(q 5))) := by
          show _ = _
          rw [HV, hqq 3 (by omega), hqq 4 (by omega), hqq 5 (by omega)]; rfl
        have HC2 := Lib.hid HC
        obtain ⟨pa0, pb0⟩ := hb9 3 (by omega)
        obtain ⟨pa1, pb1⟩ := hb9 4 (by omega)
        obtain ⟨pa2, pb2⟩ := hb9 5 (by omega)
        have k0 := fun b => (two_alloc (a := .int .i64 0) (b := .int .i64 b) r0 r1).1
        have k1 := fun b => (two_alloc (a := .int .i64 0) (b := .int .i64 b) r0 r1).2
        clear hq hqq hr HC HV hb9
        go_wp2_with fail
        refine wp_loop_rounds 4 ?_
        rw [rounds_succ]
        go_wp2_with fail
        all_goals (rw [rounds_succ]; go_wp2_with fail)
        all_goals (rw [rounds_succ]; go_wp2_with fail)
        all_goals (rw [rounds_succ]; go_wp2_with fail)
        all_goals
          refine bodyPost_ret (v := .agg #[.int .i64 0, .int .i64 (rowV rs 1)]) (by rw [HV2.out]; simp [results, Try.results93, go_sem, k0, k1]; try omega) rfl ⟨by rw [HC2.out], ?_⟩
          refine blThenAlloc ?_ _
          repeat (refine Below.setCell ?_ (by simp) _)
          exact T.out

      · subst hrr
        have HV2 : Hid (rowV rs 2 = max (q 6) (-(q 6)) + max (q 7) (-(q 7)) + max (q 8) (-(q 8))) := by
          show _ = _
          rw [HV, hqq 6 (by omega), hqq 7 (by omega), hqq 8 (by omega)]; rfl
        have HC2 := Lib.hid HC
        obtain ⟨pa0, pb0⟩ := hb9 6 (by omega)
        obtain ⟨pa1, pb1⟩ := hb9 7 (by omega)
        obtain ⟨pa2, pb2⟩ := hb9 8 (by omega)
        have k0 := fun b => (two_alloc (a := .int .i64 0) (b := .int .i64 b) r0 r1).1
        have k1 := fun b => (two_alloc (a := .int .i64 0) (b := .int .i64 b) r0 r1).2
        clear hq hqq hr HC HV hb9
        go_wp2_with fail
        refine wp_loop_rounds 4 ?_
        rw [rounds_succ]
        go_wp2_with fail
        all_goals (rw [rounds_succ]; go_wp2_with fail)
        all_goals (rw [rounds_succ]; go_wp2_with fail)
        all_goals (rw [rounds_succ]; go_wp2_with fail)
        all_goals
          refine bodyPost_ret (v := .agg #[.int .i64 0, .int .i64 (rowV rs 2)]) (by rw [HV2.out]; simp [results, Try.results93, go_sem, k0, k1]; try omega) rfl ⟨by rw [HC2.out], ?_⟩
          refine blThenAlloc ?_ _
          repeat (refine Below.setCell ?_ (by simp) _)
          exact T.out

    · obtain ⟨HC, HV⟩ := row_out h0 hr
      have HC2 := Lib.hid HC
      have HV2 := Lib.hid HV
      obtain ⟨k0, k1⟩ := two_alloc (a := .int .i64 3) (b := .int .i64 0) r0 r1
      clear hq hqq HC HV
      by_cases hr2 : row < 0
      · clear hr
        go_wp2_with fail
        refine bodyPost_ret (v := .agg #[.int .i64 3, .int .i64 0]) (by simp [results, Try.results93, go_sem, k0, k1]) rfl ⟨by rw [HC2.out, HV2.out], ?_⟩
        refine blThenAlloc ?_ _
        repeat (refine Below.setCell ?_ (by simp) _)
        exact T.out
      · have hr3 : 3 ≤ row := by omega
        clear hr
        go_wp2_with fail
        refine bodyPost_ret (v := .agg #[.int .i64 3, .int .i64 0]) (by simp [results, Try.results93, go_sem, k0, k1]) rfl ⟨by rw [HC2.out, HV2.out], ?_⟩
        refine blThenAlloc ?_ _
        repeat (refine Below.setCell ?_ (by simp) _)
        exact T.out
  · obtain ⟨HC, HV⟩ := row_no (row := row) h0
    have HC2 := Lib.hid HC
    have HV2 := Lib.hid HV
    obtain ⟨k0, k1⟩ := two_alloc (a := .int .i64 (mf rs)) (b := .int .i64 0) r0 r1
    clear hq HC HV
    go_wp2_with fail
    refine bodyPost_ret (v := .agg #[.int .i64 (mf rs), .int .i64 0]) (by simp [results, Try.results93, go_sem, k0, k1]) rfl ⟨by rw [HC2.out, HV2.out], ?_⟩
    refine blThenAlloc ?_ _
    repeat (refine Below.setCell ?_ (by simp) _)
    exact T.out

set_option maxRecDepth 100000 in
set_option maxHeartbeats 4000000 in
theorem sSumOfRow_any (A : Option Addr) (n c : Nat) (rs : Rws) (bs : List Nat) (row : Int) (w : World) (h : Hd w (rowsD rs) (.slice A n c) bs) :
    Calls Try.prog 128 #[.agg #[.slice A n c], .int .i64 row] w fun e w' => e = .returned (.agg #[.int .i64 (rowC rs row), .int .i64 (rowV rs row)]) ∧ Below w.heap.size w w' := by
  have H := Lib.hid h
  clear h
  go_enter Try.func128, Try.ntmps128
  go_wp2_with fail
  refine (sFault4_any _ _ _ _ _ rs _ _ ((H.out.alloc _).alloc _) (cell_later (blAlloc _ _) (by simp))).mono ?_
  rintro e w' ⟨rfl, rfl⟩
  by_cases h0 : mf rs = 0
  · by_cases hr : 0 ≤ row ∧ row < 3
    · obtain ⟨HC, HV⟩ := row_in h0 hr
      have hin : inB row 0 2 = true := inB_t (by omega) (by omega)
      have hb9 : ∀ t, t < 9 → -262144 ≤ fl rs t ∧ fl rs t ≤ 262144 := fun t ht => fl_bd h0 t ht
      obtain ⟨hn, b, o, hA, hrow⟩ := H.out.three h0
      subst hn
      subst hA
      obtain hrr | hrr | hrr : row = 0 ∨ row = 1 ∨ row = 2 := by omega

      · subst hrr
        obtain ⟨ba, oa, Ca, xa, la, ya⟩ := hrow 0 (by omega)
        have y0 := ya 0 (by omega)
        have y1 := ya 1 (by omega)
        have y2 := ya 2 (by omega)
        simp only [Nat.reduceMul, Nat.reduceAdd, Nat.add_zero] at y0 y1 y2 xa
        have lb := cell_lt xa
        have lba := cell_lt y0
        have HV2 : Hid (rowV rs 0 = max (fl rs 0) (-(fl rs 0)) + max (fl rs 1) (-(fl rs 1)) + max (fl rs 2) (-(fl rs 2))) := by
          show _ = _
          rw [HV]; rfl
        have HC2 := Lib.hid HC
        obtain ⟨pa0, pb0⟩ := hb9 0 (by omega)
        obtain ⟨pa1, pb1⟩ := hb9 1 (by omega)
        obtain ⟨pa2, pb2⟩ := hb9 2 (by omega)
        have HN := Lib.hid h0
        clear hrow hr HC HV hb9 ya
        generalize fl rs 0 = x0 at *
        generalize fl rs 1 = x1 at *
        generalize fl rs 2 = x2 at *
        obtain ⟨m0, m0e⟩ : ∃ m, m = max x0 (-x0) := ⟨_, rfl⟩
        obtain ⟨m1, m1e⟩ : ∃ m, m = max x1 (-x1) := ⟨_, rfl⟩
        obtain ⟨m2, m2e⟩ : ∃ m, m = max x2 (-x2) := ⟨_, rfl⟩
        have g0 : 0 ≤ m0 ∧ m0 ≤ 262144 := by omega
        have g1 : 0 ≤ m1 ∧ m1 ≤ 262144 := by omega
        have g2 : 0 ≤ m2 ∧ m2 ≤ 262144 := by omega
        obtain ⟨g0a, g0b⟩ := g0
        obtain ⟨g1a, g1b⟩ := g1
        obtain ⟨g2a, g2b⟩ := g2
        rw [← m0e, ← m1e, ← m2e] at HV2
        have M0 : Hid (∀ W, Calls Try.prog 126 #[.int .i64 x0, .int .i64 (-x0)] W fun e w' => e = .returned (.int .i64 m0) ∧ W = w') := fun W => by rw [m0e]; exact sMax_any _ _ _
        have M1 : Hid (∀ W, Calls Try.prog 126 #[.int .i64 x1, .int .i64 (-x1)] W fun e w' => e = .returned (.int .i64 m1) ∧ W = w') := fun W => by rw [m1e]; exact sMax_any _ _ _
        have M2 : Hid (∀ W, Calls Try.prog 126 #[.int .i64 x2, .int .i64 (-x2)] W fun e w' => e = .returned (.int .i64 m2) ∧ W = w') := fun W => by rw [m2e]; exact sMax_any _ _ _
        clear m0e m1e m2e
        go_wp2_with (go_at_call 41; refine (sIn_any _ _ _ _).mono ?_; rintro e w' ⟨rfl, rfl⟩)
        refine wp_loop_rounds 4 ?_

        rw [rounds_succ]
        go_wp2_with fail
        go_quiet ((go_at_call 126; first | exact quietL (M0.out _) | exact quietA (M0.out _)))
        go_wp2_with fail

        rw [rounds_succ]
        go_wp2_with fail
        go_quiet ((go_at_call 126; first | exact quietL (M1.out _) | exact quietA (M1.out _)))
        go_wp2_with fail

        rw [rounds_succ]
        go_wp2_with fail
        go_quiet ((go_at_call 126; first | exact quietL (M2.out _) | exact quietA (M2.out _)))
        go_wp2_with fail

        rw [rounds_succ]
        go_wp2_with fail
        refine bodyPost_ret (v := .agg #[.int .i64 0, .int .i64 (m0 + m1 + m2)]) (by simp [results, Try.results128, go_sem]) rfl ⟨by rw [HC2.out, HV2.out], ?_⟩
        repeat (first | with_reducible exact Below.refl _ _ | with_reducible refine Below.setCell ?_ (by simp) _ | with_reducible refine blThenAlloc ?_ _ | with_reducible refine blThenDrew ?_ _ | with_reducible refine Below.drew ?_)

      · subst hrr
        obtain ⟨ba, oa, Ca, xa, la, ya⟩ := hrow 1 (by omega)
        have y0 := ya 0 (by omega)
        have y1 := ya 1 (by omega)
        have y2 := ya 2 (by omega)
        simp only [Nat.reduceMul, Nat.reduceAdd, Nat.add_zero] at y0 y1 y2 xa
        have lb := cell_lt xa
        have lba := cell_lt y0
        have HV2 : Hid (rowV rs 1 = max (fl rs 3) (-(fl rs 3)) + max (fl rs 4) (-(fl rs 4)) + max (fl rs 5) (-(fl rs 5))) := by
          show _ = _
          rw [HV]; rfl
        have HC2 := Lib.hid HC
        obtain ⟨pa0, pb0⟩ := hb9 3 (by omega)
        obtain ⟨pa1, pb1⟩ := hb9 4 (by omega)
        obtain ⟨pa2, pb2⟩ := hb9 5 (by omega)
        have HN := Lib.hid h0
        clear hrow hr HC HV hb9 ya
        generalize fl rs 3 = x0 at *
        generalize fl rs 4 = x1 at *
        generalize fl rs 5 = x2 at *
        obtain ⟨m0, m0e⟩ : ∃ m, m = max x0 (-x0) := ⟨_, rfl⟩
        obtain ⟨m1, m1e⟩ : ∃ m, m = max x1 (-x1) := ⟨_, rfl⟩
        obtain ⟨m2, m2e⟩ : ∃ m, m = max x2 (-x2) := ⟨_, rfl⟩
        have g0 : 0 ≤ m0 ∧ m0 ≤ 262144 := by omega
        have g1 : 0 ≤ m1 ∧ m1 ≤ 262144 := by omega
        have g2 : 0 ≤ m2 ∧ m2 ≤ 262144 := by omega
        obtain ⟨g0a, g0b⟩ := g0
        obtain ⟨g1a, g1b⟩ := g1
        obtain ⟨g2a, g2b⟩ := g2
        rw [← m0e, ← m1e, ← m2e] at HV2
        have M0 : Hid (∀ W, Calls Try.prog 126 #[.int .i64 x0, .int .i64 (-x0)] W fun e w' => e = .returned (.int .i64 m0) ∧ W = w') := fun W => by rw [m0e]; exact sMax_any _ _ _
        have M1 : Hid (∀ W, Calls Try.prog 126 #[.int .i64 x1, .int .i64 (-x1)] W fun e w' => e = .returned (.int .i64 m1) ∧ W = w') := fun W => by rw [m1e]; exact sMax_any _ _ _
        have M2 : Hid (∀ W, Calls Try.prog 126 #[.int .i64 x2, .int .i64 (-x2)] W fun e w' => e = .returned (.int .i64 m2) ∧ W = w') := fun W => by rw [m2e]; exact sMax_any _ _ _
        clear m0e m1e m2e
        go_wp2_with (go_at_call 41; refine (sIn_any _ _ _ _).mono ?_; rintro e w' ⟨rfl, rfl⟩)
        refine wp_loop_rounds 4 ?_

        rw [rounds_succ]
        go_wp2_with fail
        go_quiet ((go_at_call 126; first | exact quietL (M0.out _) | exact quietA (M0.out _)))
        go_wp2_with fail

        rw [rounds_succ]
        go_wp2_with fail
        go_quiet ((go_at_call 126; first | exact quietL (M1.out _) | exact quietA (M1.out _)))
        go_wp2_with fail

        rw [rounds_succ]
        go_wp2_with fail
        go_quiet ((go_at_call 126; first | exact quietL (M2.out _) | exact quietA (M2.out _)))
        go_wp2_with fail

        rw [rounds_succ]
        go_wp2_with fail
        refine bodyPost_ret (v := .agg #[.int .i64 0, .int .i64 (m0 + m1 + m2)]) (by simp [results, Try.results128, go_sem]) rfl ⟨by rw [HC2.out, HV2.out], ?_⟩
        repeat (first | with_reducible exact Below.refl _ _ | with_reducible refine Below.setCell ?_ (by simp) _ | with_reducible refine blThenAlloc ?_ _ | with_reducible refine blThenDrew ?_ _ | with_reducible refine Below.drew ?_)

      · subst hrr
        obtain ⟨ba, oa, Ca, xa, la, ya⟩ := hrow 2 (by omega)
        have y0 := ya 0 (by omega)
        have y1 := ya 1 (by omega)
        have y2 := ya 2 (by omega)
        simp only [Nat.reduceMul, Nat.reduceAdd, Nat.add_zero] at y0 y1 y2 xa
        have lb := cell_lt xa
        have lba := cell_lt y0
        have HV2 : Hid (rowV rs 2 = max (fl rs 6) (-(fl rs 6)) + max (fl rs 7) (-(fl rs 7)) + max (fl rs 8) (-(fl rs 8))) := by
          show _ = _
          rw [HV]; rfl
        have HC2 := Lib.hid HC
        obtain ⟨pa0, pb0⟩ := hb9 6 (by omega)
        obtain ⟨pa1, pb1⟩ := hb9 7 (by omega)
        obtain ⟨pa2, pb2⟩ := hb9 8 (by omega)
        have HN := Lib.hid h0
        clear hrow hr HC HV hb9 ya
        generalize fl rs 6 = x0 at *
        generalize fl rs 7 = x1 at *
        generalize fl rs 8 = x2 at *
        obtain ⟨m0, m0e⟩ : ∃ m, m = max x0 (-x0) := ⟨_, rfl⟩
        obtain ⟨m1, m1e⟩ : ∃ m, m = max x1 (-x1) := ⟨_, rfl⟩
        obtain ⟨m2, m2e⟩ : ∃ m, m = max x2 (-x2) := ⟨_, rfl⟩
        have g0 : 0 ≤ m0 ∧ m0 ≤ 262144 := by omega
        have g1 : 0 ≤ m1 ∧ m1 ≤ 262144 := by omega
        have g2 : 0 ≤ m2 ∧ m2 ≤ 262144 := by omega
        obtain ⟨g0a, g0b⟩ := g0
        obtain ⟨g1a, g1b⟩ := g1
        obtain ⟨g2a, g2b⟩ := g2
        rw [← m0e, ← m1e, ← m2e] at HV2
        have M0 : Hid (∀ W, Calls Try.prog 126 #[.int .i64 x0, .int .i64 (-x0)] W fun e w' => e = .returned (.int .i64 m0) ∧ W = w') := fun W => by rw [m0e]; exact sMax_any _ _ _
        have M1 : Hid (∀ W, Calls Try.prog 126 #[.int .i64 x1, .int .i64 (-x1)] W fun e w' => e = .returned (.int .i64 m1) ∧ W = w') := fun W => by rw [m1e]; exact sMax_any _ _ _
        have M2 : Hid (∀ W, Calls Try.prog 126 #[.int .i64 x2, .int .i64 (-x2)] W fun e w' => e = .returned (.int .i64 m2) ∧ W = w') := fun W => by rw [m2e]; exact sMax_any _ _ _
        clear m0e m1e m2e
        go_wp2_with (go_at_call 41; refine (sIn_any _ _ _ _).mono ?_; rintro e w' ⟨rfl, rfl⟩)
        refine wp_loop_rounds 4 ?_

        rw [rounds_succ]
        go_wp2_with fail
        go_quiet ((go_at_call 126; first | exact quietL (M0.out _) | exact quietA (M0.out _)))
        go_wp2_with fail

        rw [rounds_succ]
        go_wp2_with fail
        go_quiet ((go_at_call 126; first | exact quietL (M1.out _) | exact quietA (M1.out _)))
        go_wp2_with fail

        rw [rounds_succ]
        go_wp2_with fail
        go_quiet ((go_at_call 126; first | exact quietL (M2.out _) | exact quietA (M2.out _)))
        go_wp2_with fail

        rw [rounds_succ]
        go_wp2_with fail
        refine bodyPost_ret (v := .agg #[.int .i64 0, .int .i64 (m0 + m1 + m2)]) (by simp [results, Try.results128, go_sem]) rfl ⟨by rw [HC2.out, HV2.out], ?_⟩
        repeat (first | with_reducible exact Below.refl _ _ | with_reducible refine Below.setCell ?_ (by simp) _ | with_reducible refine blThenAlloc ?_ _ | with_reducible refine blThenDrew ?_ _ | with_reducible refine Below.drew ?_)

    · obtain ⟨HC, HV⟩ := row_out h0 hr
      have HC2 := Lib.hid HC
      have HV2 := Lib.hid HV
      have hin : inB row 0 2 = false := decide_eq_false (by omega)
      clear HC HV hr
      go_wp2_with (go_at_call 41; refine (sIn_any _ _ _ _).mono ?_; rintro e w' ⟨rfl, rfl⟩)
      refine bodyPost_ret (v := .agg #[.int .i64 3, .int .i64 0]) (by simp [results, Try.results128, go_sem]) rfl ⟨by rw [HC2.out, HV2.out], ?_⟩
      repeat (first | with_reducible exact Below.refl _ _ | with_reducible refine Below.setCell ?_ (by simp) _ | with_reducible refine blThenAlloc ?_ _ | with_reducible refine blThenDrew ?_ _ | with_reducible refine Below.drew ?_)
  · obtain ⟨HC, HV⟩ := row_no (row := row) h0
    have HC2 := Lib.hid HC
    have HV2 := Lib.hid HV
    clear HC HV
    go_wp2_with fail
    refine bodyPost_ret (v := .agg #[.int .i64 (mf rs), .int .i64 0]) (by simp [results, Try.results128, go_sem]) rfl ⟨by rw [HC2.out, HV2.out], ?_⟩
    repeat (first | with_reducible exact Below.refl _ _ | with_reducible refine Below.setCell ?_ (by simp) _ | with_reducible refine blThenAlloc ?_ _ | with_reducible refine blThenDrew ?_ _ | with_reducible refine Below.drew ?_)

end Go.Proofs.Ytlfdpambbgddoaa

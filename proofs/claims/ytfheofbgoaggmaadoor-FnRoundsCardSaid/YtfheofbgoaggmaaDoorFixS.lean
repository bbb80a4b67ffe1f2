/-
  Contracts of the reference model's functions of chapter 1 over numbers (l1Floor, l1Round, l1In, l1Fix, l1Held, RoundDiv, MulFix, DivFix), and of the laws' comparison of two IntResults.
-/
import Derived.Test.YtfheofbgoaggmaaDoorFixA
namespace Go.Proofs.YtfheofbgoaggmaaDoor
open Go.RowKit
set_option linter.unusedVariables false

theorem sIn_any (v lo hi : Int) (w : World) : Calls Tryd.prog 52 #[.int .i64 v, .int .i64 lo, .int .i64 hi] w fun e w' => e = .returned (.bool (inB v lo hi)) ∧ w = w' := by
  by_cases h1 : v < lo
  · rw [inB_lo h1]
    go_enter Tryd.func52, Tryd.ntmps52
    go_wp2
    go_ret
    exact ⟨rfl, rfl⟩
  · rw [inB_hi' (by omega)]
    go_enter Tryd.func52, Tryd.ntmps52
    go_wp2
    go_ret
    exact ⟨rfl, rfl⟩
theorem sFix_any (v : Int) (w : World) : Calls Tryd.prog 48 #[.int .i64 v] w fun e w' => e = .returned (.bool (okF v)) ∧ w = w' := by
  go_enter Tryd.func48, Tryd.ntmps48
  go_wp2_with (go_at_call 52; refine (sIn_any _ _ _ _).mono ?_; rintro e w' ⟨rfl, rfl⟩)
  go_ret
  exact ⟨rfl, rfl⟩
set_option maxHeartbeats 400000 in
theorem sFloor_any (a b : Int) (w : World) (hb : 0 < b) (hb2 : b ≤ 4000000000000000000) (h1 : -4000000000000000000 ≤ a) (h2 : a ≤ 4000000000000000000) :
    Calls Tryd.prog 67 #[.int .i64 a, .int .i64 b] w fun e w' => e = .returned (.int .i64 (a / b)) ∧ w = w' := by
  obtain ⟨t1a, t1b⟩ := tmod_lo a b hb
  obtain ⟨t2a, t2b⟩ := tdiv_bd a b 4000000000000000000 hb h1 h2
  by_cases hn : a.tmod b < 0
  · rw [floor_neg hb hn]
    go_enter Tryd.func67, Tryd.ntmps67
    go_wp2
    go_ret
    exact ⟨rfl, rfl⟩
  · rw [floor_pos hb hn]
    go_enter Tryd.func67, Tryd.ntmps67
    go_wp2
    go_ret
    exact ⟨rfl, rfl⟩
set_option maxHeartbeats 400000 in
theorem sRound_any (a b : Int) (w : World) (hb : 0 < b) (hb2 : b ≤ 1000000000000000000) (h1 : -1000000000000000000 ≤ a) (h2 : a ≤ 1000000000000000000) :
    Calls Tryd.prog 50 #[.int .i64 a, .int .i64 b] w fun e w' => e = .returned (.int .i64 (rnd a b)) ∧ w = w' := by
  go_enter Tryd.func50, Tryd.ntmps50
  go_wp2_with (go_at_call 67; refine (sFloor_any _ _ _ (by omega) (by omega) (by omega) (by omega)).mono ?_; rintro e w' ⟨rfl, rfl⟩)
  go_ret
  exact ⟨rfl, rfl⟩
set_option maxHeartbeats 400000 in
theorem sHeld_any (v : Int) (w : World) : Calls Tryd.prog 49 #[.int .i64 v] w fun e w' => e = .returned (.agg #[.int .i64 (hdC v), .int .i64 (hdV v)]) ∧ Below w.heap.size w w' := by
  unfold hdC hdV
  by_cases h : okF v = true
  · rw [if_pos h, if_pos h]
    go_enter Tryd.func49, Tryd.ntmps49
    go_wp2_with (go_at_call 48; refine (sFix_any _ _).mono ?_; rintro e w' ⟨rfl, rfl⟩)
    exact bodyPost_ret (v := .agg #[.int .i64 0, .int .i64 v]) (by simp [results, Tryd.results49, go_sem]) rfl ⟨rfl, blAlloc _ _⟩
  · rw [if_neg h, if_neg h]
    have h' : okF v = false := by simpa using h
    clear h
    go_enter Tryd.func49, Tryd.ntmps49
    go_wp2_with (go_at_call 48; refine (sFix_any _ _).mono ?_; rintro e w' ⟨rfl, rfl⟩)
    exact bodyPost_ret (v := .agg #[.int .i64 7, .int .i64 0]) (by simp [results, Tryd.results49, go_sem]) rfl ⟨rfl, blAlloc _ _⟩

set_option maxHeartbeats 400000 in
theorem sRoundDiv_any (a b : Int) (w : World) : Calls Tryd.prog 23 #[.int .i64 a, .int .i64 b] w fun e w' => e = .returned (.agg #[.int .i64 (rdC a b), .int .i64 (rdV a b)]) ∧ Below w.heap.size w w' := by
  unfold rdC rdV
  by_cases ha : inB a (-1000000000000000) 1000000000000000 = true
  · by_cases hb : inB b 1 1000000000 = true
    · have h : okD a b = true := by unfold okD; rw [ha, hb]; rfl
      rw [if_pos h, if_pos h]
      clear h
      obtain ⟨a1, a2⟩ := inB_iff.1 ha
      obtain ⟨b1, b2⟩ := inB_iff.1 hb
      go_enter Tryd.func23, Tryd.ntmps23
      go_wp2_with (first | (go_at_call 52; refine (sIn_any _ _ _ _).mono ?_; rintro e w' ⟨rfl, rfl⟩) | (go_at_call 50; refine (sRound_any _ _ _ (by omega) (by omega) (by omega) (by omega)).mono ?_; rintro e w' ⟨rfl, rfl⟩))
      exact bodyPost_ret (v := .agg #[.int .i64 0, .int .i64 (rnd a b)]) (by simp [results, Tryd.results23, go_sem]) rfl ⟨rfl, blAlloc _ _⟩
    · have hb' : inB b 1 1000000000 = false := by simpa using hb
      have h : ¬ okD a b = true := by unfold okD; rw [ha, hb']; simp
      rw [if_neg h, if_neg h]
      clear h hb
      go_enter Tryd.func23, Tryd.ntmps23
      go_wp2_with (go_at_call 52; refine (sIn_any _ _ _ _).mono ?_; rintro e w' ⟨rfl, rfl⟩)
      exact bodyPost_ret (v := .agg #[.int .i64 3, .int .i64 0]) (by simp [results, Tryd.results23, go_sem]) rfl ⟨rfl, blAlloc _ _⟩
  · have ha' : inB a (-1000000000000000) 1000000000000000 = false := by simpa using ha
    have h : ¬ okD a b = true := by unfold okD; rw [ha']; simp
    rw [if_neg h, if_neg h]
    clear h ha
    go_enter Tryd.func23, Tryd.ntmps23
    go_wp2_with (go_at_call 52; refine (sIn_any _ _ _ _).mono ?_; rintro e w' ⟨rfl, rfl⟩)
    exact bodyPost_ret (v := .agg #[.int .i64 3, .int .i64 0]) (by simp [results, Tryd.results23, go_sem]) rfl ⟨rfl, blAlloc _ _⟩

set_option maxHeartbeats 400000 in
theorem sMulFix_any (a b : Int) (w : World) : Calls Tryd.prog 19 #[.int .i64 a, .int .i64 b] w fun e w' => e = .returned (.agg #[.int .i64 (mfC a b), .int .i64 (mfV a b)]) ∧ Below w.heap.size w w' := by
  unfold mfC mfV
  by_cases ha : okF a = true
  · by_cases hb : okF b = true
    · have h : okM a b = true := by unfold okM; rw [ha, hb]; rfl
      rw [if_pos h, if_pos h]
      clear h
      obtain ⟨m1, m2⟩ := fix_mul ha hb
      go_enter Tryd.func19, Tryd.ntmps19
      go_wp2_with (first | (go_at_call 48; refine (sFix_any _ _).mono ?_; rintro e w' ⟨rfl, rfl⟩) | (go_at_call 50; refine (sRound_any _ _ _ (by omega) (by omega) (by omega) (by omega)).mono ?_; rintro e w' ⟨rfl, rfl⟩))
      refine (sHeld_any _ _).mono ?_
      rintro e w1 ⟨rfl, hb⟩
      obtain ⟨hc, hf⟩ := bcell hb
      have hz : w.heap.size < w1.heap.size := by have := hb.size; simp at this; omega
      go_wp2_with fail
      exact bodyPost_ret (v := .agg #[.int .i64 (hdC (rnd (a * b) 65536)), .int .i64 (hdV (rnd (a * b) 65536))]) (by simp [results, Tryd.results19, go_sem, hc]) rfl ⟨rfl, by repeat (first | exact blThen (blAlloc _ _) hb | refine Below.setCell ?_ (by simp) _)⟩
    · have hb' : okF b = false := by simpa using hb
      have h : ¬ okM a b = true := by unfold okM; rw [ha, hb']; simp
      rw [if_neg h, if_neg h]
      clear h hb
      go_enter Tryd.func19, Tryd.ntmps19
      go_wp2_with (go_at_call 48; refine (sFix_any _ _).mono ?_; rintro e w' ⟨rfl, rfl⟩)
      exact bodyPost_ret (v := .agg #[.int .i64 3, .int .i64 0]) (by simp [results, Tryd.results19, go_sem]) rfl ⟨rfl, blAlloc _ _⟩
  · have ha' : okF a = false := by simpa using ha
    have h : ¬ okM a b = true := by unfold okM; rw [ha']; simp
    rw [if_neg h, if_neg h]
    clear h ha
    go_enter Tryd.func19, Tryd.ntmps19
    go_wp2_with (go_at_call 48; refine (sFix_any _ _).mono ?_; rintro e w' ⟨rfl, rfl⟩)
    exact bodyPost_ret (v := .agg #[.int .i64 3, .int .i64 0]) (by simp [results, Tryd.results19, go_sem]) rfl ⟨rfl, blAlloc _ _⟩

set_option maxHeartbeats 400000 in
theorem sDivFix_any (a b : Int) (w : World) : Calls Tryd.prog 20 #[.int .i64 a, .int .i64 b] w fun e w' => e = .returned (.agg #[.int .i64 (dfC a b), .int .i64 (dfV a b)]) ∧ Below w.heap.size w w' := by
  unfold dfC dfV
  by_cases ha : okF a = true
  · by_cases hb : okF b = true
    · by_cases h1 : 1 ≤ b
      · have h : okQ a b = true := by unfold okQ; rw [ha, hb]; simpa using h1
        rw [if_pos h, if_pos h]
        clear h
        obtain ⟨a1, a2⟩ := inB_iff.1 ha
        obtain ⟨b1, b2⟩ := inB_iff.1 hb
        go_enter Tryd.func20, Tryd.ntmps20
        go_wp2_with (first | (go_at_call 48; refine (sFix_any _ _).mono ?_; rintro e w' ⟨rfl, rfl⟩) | (go_at_call 50; refine (sRound_any _ _ _ (by omega) (by omega) (by omega) (by omega)).mono ?_; rintro e w' ⟨rfl, rfl⟩))
        refine (sHeld_any _ _).mono ?_
        rintro e w1 ⟨rfl, hb⟩
        obtain ⟨hc, hf⟩ := bcell hb
        have hz : w.heap.size < w1.heap.size := by have := hb.size; simp at this; omega
        go_wp2_with fail
        exact bodyPost_ret (v := .agg #[.int .i64 (hdC (rnd (a * 65536) b)), .int .i64 (hdV (rnd (a * 65536) b))]) (by simp [results, Tryd.results20, go_sem, hc]) rfl ⟨rfl, by repeat (first | exact blThen (blAlloc _ _) hb | refine Below.setCell ?_ (by simp) _)⟩
      · have h : ¬ okQ a b = true := by unfold okQ; rw [ha, hb]; simp; omega
        rw [if_neg h, if_neg h]
        clear h
        go_enter Tryd.func20, Tryd.ntmps20
        go_wp2_with (go_at_call 48; refine (sFix_any _ _).mono ?_; rintro e w' ⟨rfl, rfl⟩)
        exact bodyPost_ret (v := .agg #[.int .i64 3, .int .i64 0]) (by simp [results, Tryd.results20, go_sem]) rfl ⟨rfl, blAlloc _ _⟩
    · have hb' : okF b = false := by simpa using hb
      have h : ¬ okQ a b = true := by unfold okQ; rw [ha, hb']; simp
      rw [if_neg h, if_neg h]
      clear h hb
      go_enter Tryd.func20, Tryd.ntmps20
      go_wp2_with (go_at_call 48; refine (sFix_any _ _).mono ?_; rintro e w' ⟨rfl, rfl⟩)
      exact bodyPost_ret (v := .agg #[.int .i64 3, .int .i64 0]) (by simp [results, Tryd.results20, go_sem]) rfl ⟨rfl, blAlloc _ _⟩
  · have ha' : okF a = false := by simpa using ha
    have h : ¬ okQ a b = true := by unfold okQ; rw [ha']; simp
    rw [if_neg h, if_neg h]
    clear h ha
    go_enter Tryd.func20, Tryd.ntmps20
    go_wp2_with (go_at_call 48; refine (sFix_any _ _).mono ?_; rintro e w' ⟨rfl, rfl⟩)
    exact bodyPost_ret (v := .agg #[.int .i64 3, .int .i64 0]) (by simp [results, Tryd.results20, go_sem]) rfl ⟨rfl, blAlloc _ _⟩

/-! ### the laws' comparison of two IntResults that are alike -/
theorem eqInt_same (c v : Int) (w : World) : Calls Tryd.prog 33 #[.agg #[.int .i64 c, .int .i64 v], .agg #[.int .i64 c, .int .i64 v]] w fun e w' => e = .returned (.bool true) ∧ Below w.heap.size w w' := by
  go_enter Tryd.func33, Tryd.ntmps33
  go_wp2
  go_ret
  exact ⟨rfl, (blAlloc _ _).alloc (by simp) _⟩
end Go.Proofs.YtfheofbgoaggmaaDoor

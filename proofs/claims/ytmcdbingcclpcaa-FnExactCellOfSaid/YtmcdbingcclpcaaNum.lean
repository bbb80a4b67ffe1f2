/-
  Contracts over numbers alone (a plain seat): nearest, isFix, isLevel; the reference model's l1In, l1Level, l1Floor, l1Round, l1Max.
-/
import Derived.Test.YtmcdbingcclpcaaBase
import Derived.Test.YtmcdbingcclpcaaFixMath
namespace Go.Proofs.Ytmcdbingcclpcaa
open Go.RowKit
set_option linter.unusedVariables false

/-! ### the program's -/
set_option maxHeartbeats 400000 in
theorem nearest_any (a b : Int) (w : World) (hb : 0 < b) (hb2 : b ≤ 1000000000000000000) (h1 : -1000000000000000000 ≤ a) (h2 : a ≤ 1000000000000000000) :
    Calls Try.prog 84 #[.int .i64 a, .int .i64 b] w fun e w' => e = .returned (.int .i64 (rnd a b)) ∧ ∃ n, w' = w.drewN n := by
  obtain ⟨t1a, t1b⟩ := tmod_lo a b hb
  obtain ⟨t2a, t2b⟩ := tdiv_bd a b 1000000000000000000 hb h1 h2
  go_enter Try.func84, Try.ntmps84
  go_wp2_with fail
  go_quiet (fail)
  go_wp2_with fail
  all_goals go_ret
  · exact ⟨ret_int (by rw [← rnd_np hb ‹_› ‹_›]; omega), _, rfl⟩
  · exact ⟨ret_int (rnd_nn hb ‹_› (by omega)), _, rfl⟩
  · exact ⟨ret_int (rnd_pp hb (by omega) ‹_›), _, rfl⟩
  · exact ⟨ret_int (rnd_pn hb (by omega) (by omega)), _, rfl⟩

theorem inB_hi' {v lo hi : Int} (h : lo ≤ v) : inB v lo hi = decide (v ≤ hi) := by unfold inB; simp [h]
theorem isLevel_any (v : Int) (w : World) : Calls Try.prog 138 #[.int .i64 v] w fun e w' => e = .returned (.bool (inB v 0 65535)) ∧ w = w' := by
  by_cases h1 : v < 0
  · rw [inB_lo h1]
    go_enter Try.func138, Try.ntmps138
    go_wp2
    go_ret
    exact ⟨rfl, rfl⟩
  · rw [inB_hi' (by omega)]
    go_enter Try.func138, Try.ntmps138
    go_wp2
    go_ret
    exact ⟨rfl, rfl⟩
/-! ### the reference model's -/
theorem sIn_any (v lo hi : Int) (w : World) : Calls Try.prog 97 #[.int .i64 v, .int .i64 lo, .int .i64 hi] w fun e w' => e = .returned (.bool (inB v lo hi)) ∧ w = w' := by
  by_cases h1 : v < lo
  · rw [inB_lo h1]
    go_enter Try.func97, Try.ntmps97
    go_wp2
    go_ret
    exact ⟨rfl, rfl⟩
  · rw [inB_hi' (by omega)]
    go_enter Try.func97, Try.ntmps97
    go_wp2
    go_ret
    exact ⟨rfl, rfl⟩
theorem sLevel_any (v : Int) (w : World) : Calls Try.prog 142 #[.int .i64 v] w fun e w' => e = .returned (.bool (inB v 0 65535)) ∧ w = w' := by
  go_enter Try.func142, Try.ntmps142
  go_wp2_with (go_at_call 97; refine (sIn_any _ _ _ _).mono ?_; rintro e w' ⟨rfl, rfl⟩)
  go_ret
  exact ⟨rfl, rfl⟩
theorem sMax_any (a b : Int) (w : World) : Calls Try.prog 98 #[.int .i64 a, .int .i64 b] w fun e w' => e = .returned (.int .i64 (max a b)) ∧ w = w' := by
  by_cases h : a > b
  · go_enter Try.func98, Try.ntmps98
    go_wp2
    go_ret
    exact ⟨ret_int (by omega), rfl⟩
  · go_enter Try.func98, Try.ntmps98
    go_wp2
    go_ret
    exact ⟨ret_int (by omega), rfl⟩
set_option maxHeartbeats 400000 in
theorem sFloor_any (a b : Int) (w : World) (hb : 0 < b) (hb2 : b ≤ 4000000000000000000) (h1 : -4000000000000000000 ≤ a) (h2 : a ≤ 4000000000000000000) :
    Calls Try.prog 141 #[.int .i64 a, .int .i64 b] w fun e w' => e = .returned (.int .i64 (a / b)) ∧ w = w' := by
  obtain ⟨t1a, t1b⟩ := tmod_lo a b hb
  obtain ⟨t2a, t2b⟩ := tdiv_bd a b 4000000000000000000 hb h1 h2
  by_cases hn : a.tmod b < 0
  · rw [floor_neg hb hn]
    go_enter Try.func141, Try.ntmps141
    go_wp2
    go_ret
    exact ⟨rfl, rfl⟩
  · rw [floor_pos hb hn]
    go_enter Try.func141, Try.ntmps141
    go_wp2
    go_ret
    exact ⟨rfl, rfl⟩
set_option maxHeartbeats 400000 in
theorem sRound_any (a b : Int) (w : World) (hb : 0 < b) (hb2 : b ≤ 1000000000000000000) (h1 : -1000000000000000000 ≤ a) (h2 : a ≤ 1000000000000000000) :
    Calls Try.prog 94 #[.int .i64 a, .int .i64 b] w fun e w' => e = .returned (.int .i64 (rnd a b)) ∧ w = w' := by
  go_enter Try.func94, Try.ntmps94
  go_wp2_with (go_at_call 141; refine (sFloor_any _ _ _ (by omega) (by omega) (by omega) (by omega)).mono ?_; rintro e w' ⟨rfl, rfl⟩)
  go_ret
  exact ⟨rfl, rfl⟩
end Go.Proofs.Ytmcdbingcclpcaa

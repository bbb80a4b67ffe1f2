/-
  Contracts over numbers alone (a plain seat): nearest, isFix, isLevel; the reference model's l1In, l1Level, l1Floor, l1Round, l1Max.
-/
import Derived.Test.YtmmlcdbbjkligaaBase
import Derived.Test.YtmmlcdbbjkligaaFixMath
namespace Go.Proofs.Ytmmlcdbbjkligaa
open Go.RowKit
set_option linter.unusedVariables false

theorem quietAD' {P : Program} {f : FuncId} {args : Array Value} {w : World} {a n : Nat} {v : Value}
    (h : Calls P f args (w.drewN (a + n)) fun e w' => e = .returned v ∧ ∃ m, w' = (w.drewN (a + n)).drewN m) : Calls P f args (w.drewN (a + n)) fun e w'' => e = .returned v ∧ ∃ m, w'' = w.drewN (a + m) :=
  h.mono fun _ _ ⟨he, m, hm⟩ => ⟨he, n + m, by rw [hm, World.drewN_drewN, Nat.add_assoc]⟩
/-! ### the program's -/
set_option maxHeartbeats 400000 in
theorem nearest_any (a b : Int) (w : World) (hb : 0 < b) (hb2 : b ≤ 1000000000000000000) (h1 : -1000000000000000000 ≤ a) (h2 : a ≤ 1000000000000000000) :
    Calls Try.prog 91 #[.int .i64 a, .int .i64 b] w fun e w' => e = .returned (.int .i64 (rnd a b)) ∧ ∃ n, w' = w.drewN n := by
  obtain ⟨t1a, t1b⟩ := tmod_lo a b hb
  obtain ⟨t2a, t2b⟩ := tdiv_bd a b 1000000000000000000 hb h1 h2
  go_enter Try.func91, Try.ntmps91
  go_wp2_with fail
  go_quiet (fail)
  go_wp2_with fail
  all_goals go_ret
  · exact ⟨ret_int (by rw [← rnd_np hb ‹_› ‹_›]; omega), _, rfl⟩
  · exact ⟨ret_int (rnd_nn hb ‹_› (by omega)), _, rfl⟩
  · exact ⟨ret_int (rnd_pp hb (by omega) ‹_›), _, rfl⟩
  · exact ⟨ret_int (rnd_pn hb (by omega) (by omega)), _, rfl⟩

theorem inB_hi' {v lo hi : Int} (h : lo ≤ v) : inB v lo hi = decide (v ≤ hi) := by unfold inB; simp [h]
theorem isLevel_any (v : Int) (w : World) : Calls Try.prog 170 #[.int .i64 v] w fun e w' => e = .returned (.bool (inB v 0 65535)) ∧ w = w' := by
  by_cases h1 : v < 0
  · rw [inB_lo h1]
    go_enter Try.func170, Try.ntmps170
    go_wp2
    go_ret
    exact ⟨rfl, rfl⟩
  · rw [inB_hi' (by omega)]
    go_enter Try.func170, Try.ntmps170
    go_wp2
    go_ret
    exact ⟨rfl, rfl⟩
/-! ### the reference model's -/
theorem sIn_any (v lo hi : Int) (w : World) : Calls Try.prog 51 #[.int .i64 v, .int .i64 lo, .int .i64 hi] w fun e w' => e = .returned (.bool (inB v lo hi)) ∧ w = w' := by
  by_cases h1 : v < lo
  · rw [inB_lo h1]
    go_enter Try.func51, Try.ntmps51
    go_wp2
    go_ret
    exact ⟨rfl, rfl⟩
  · rw [inB_hi' (by omega)]
    go_enter Try.func51, Try.ntmps51
    go_wp2
    go_ret
    exact ⟨rfl, rfl⟩
theorem sLevel_any (v : Int) (w : World) : Calls Try.prog 129 #[.int .i64 v] w fun e w' => e = .returned (.bool (inB v 0 65535)) ∧ w = w' := by
  go_enter Try.func129, Try.ntmps129
  go_wp2_with (go_at_call 51; refine (sIn_any _ _ _ _).mono ?_; rintro e w' ⟨rfl, rfl⟩)
  go_ret
  exact ⟨rfl, rfl⟩
theorem sMax_any (a b : Int) (w : World) : Calls Try.prog 112 #[.int .i64 a, .int .i64 b] w fun e w' => e = .returned (.int .i64 (max a b)) ∧ w = w' := by
  by_cases h : a > b
  · go_enter Try.func112, Try.ntmps112
    go_wp2
    go_ret
    exact ⟨ret_int (by omega), rfl⟩
  · go_enter Try.func112, Try.ntmps112
    go_wp2
    go_ret
    exact ⟨ret_int (by omega), rfl⟩
set_option maxHeartbeats 400000 in
theorem sFloor_any (a b : Int) (w : World) (hb : 0 < b) (hb2 : b ≤ 4000000000000000000) (h1 : -4000000000000000000 ≤ a) (h2 : a ≤ 4000000000000000000) :
    Calls Try.prog 163 #[.int .i64 a, .int .i64 b] w fun e w' => e = .returned (.int .i64 (a / b)) ∧ w = w' := by
  obtain ⟨t1a, t1b⟩ := tmod_lo a b hb
  obtain ⟨t2a, t2b⟩ := tdiv_bd a b 4000000000000000000 hb h1 h2
  by_cases hn : a.tmod b < 0
  · rw [floor_neg hb hn]
    go_enter Try.func163, Try.ntmps163
    go_wp2
    go_ret
    exact ⟨rfl, rfl⟩
  · rw [floor_pos hb hn]
    go_enter Try.func163, Try.ntmps163
    go_wp2
    go_ret
    exact ⟨rfl, rfl⟩
set_option maxHeartbeats 400000 in
theorem sRound_any (a b : Int) (w : World) (hb : 0 < b) (hb2 : b ≤ 1000000000000000000) (h1 : -1000000000000000000 ≤ a) (h2 : a ≤ 1000000000000000000) :
    Calls Try.prog 136 #[.int .i64 a, .int .i64 b] w fun e w' => e = .returned (.int .i64 (rnd a b)) ∧ w = w' := by
  go_enter Try.func136, Try.ntmps136
  go_wp2_with (go_at_call 163; refine (sFloor_any _ _ _ (by omega) (by omega) (by omega) (by omega)).mono ?_; rintro e w' ⟨rfl, rfl⟩)
  go_ret
  exact ⟨rfl, rfl⟩
end Go.Proofs.Ytmmlcdbbjkligaa

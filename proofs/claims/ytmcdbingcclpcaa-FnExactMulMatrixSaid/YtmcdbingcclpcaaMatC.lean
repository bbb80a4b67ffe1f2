/-
  Levels that are clamped (a plain seat): the program's ClampLevel, the model's l1Clamp.
-/
import Derived.Test.YtmcdbingcclpcaaNum
namespace Go.Proofs.Ytmcdbingcclpcaa
open Go.RowKit
set_option linter.unusedVariables false

def clp (v : Int) : Int := if v < 0 then 0 else if 65535 < v then 65535 else v
theorem clp_lo {v : Int} (h : v < 0) : clp v = 0 := by unfold clp; rw [if_pos h]
theorem clp_hi {v : Int} (h : 65535 < v) : clp v = 65535 := by unfold clp; rw [if_neg (by omega), if_pos h]
theorem clp_in {v : Int} (h : 0 ≤ v) (h' : v ≤ 65535) : clp v = v := by unfold clp; rw [if_neg (by omega), if_neg (by omega)]
set_option maxHeartbeats 400000 in
theorem ClampLevel_plain (v : Int) (w : World) : Calls Try.prog 80 #[.int .i64 v] w fun e w' => e = .returned (.int .i64 (clp v)) ∧ w = w' := by
  by_cases h1 : v < 0
  · have HC := Lib.hid (clp_lo h1)
    go_enter Try.func80, Try.ntmps80
    go_wp2
    all_goals go_ret
    all_goals exact ⟨ret_int (by rw [HC.out]; try omega), rfl⟩
  · by_cases h2 : 65535 < v
    · have HC := Lib.hid (clp_hi h2)
      go_enter Try.func80, Try.ntmps80
      go_wp2
      all_goals go_ret
      all_goals exact ⟨ret_int (by rw [HC.out]; try omega), rfl⟩
    · have HC := Lib.hid (clp_in (v := v) (by omega) (by omega))
      go_enter Try.func80, Try.ntmps80
      go_wp2
      all_goals go_ret
      all_goals exact ⟨ret_int (by rw [HC.out]; try omega), rfl⟩
end Go.Proofs.Ytmcdbingcclpcaa

/-
  Levels that are clamped (a plain seat): the program's clamp, ClampLevel.
-/
import Derived.Test.YtmmlcdbbjkligaaNum
namespace Go.Proofs.Ytmmlcdbbjkligaa
open Go.RowKit
set_option linter.unusedVariables false

def clp (v : Int) : Int := if v < 0 then 0 else if 65535 < v then 65535 else v
theorem clp_lo {v : Int} (h : v < 0) : clp v = 0 := by unfold clp; rw [if_pos h]
theorem clp_hi {v : Int} (h : 65535 < v) : clp v = 65535 := by unfold clp; rw [if_neg (by omega), if_pos h]
theorem clp_in {v : Int} (h : 0 ≤ v) (h' : v ≤ 65535) : clp v = v := by unfold clp; rw [if_neg (by omega), if_neg (by omega)]
/-- as levels, or as fine numbers. -/
def One (o : Int) : Prop := o = 1 ∨ o = 256
def clk (o v : Int) : Int := if v < 0 then 0 else if 65535 * o < v then 65535 * o else v
theorem clk_lo {o v : Int} (h : v < 0) : clk o v = 0 := by unfold clk; rw [if_pos h]
theorem clk_hi {o v : Int} (ho : One o) (h : 65535 * o < v) : clk o v = 65535 * o := by unfold clk; rw [if_neg (by rcases ho with rfl | rfl <;> omega), if_pos h]
theorem clk_in {o v : Int} (h : 0 ≤ v) (h' : v ≤ 65535 * o) : clk o v = v := by unfold clk; rw [if_neg (by omega), if_neg (by omega)]
theorem clk_1 (v : Int) : clk 1 v = clp v := by unfold clk clp; simp
theorem clk_bd {o : Int} (ho : One o) (v : Int) : 0 ≤ clk o v ∧ clk o v ≤ 65535 * o := by
  unfold clk
  rcases ho with rfl | rfl <;> split <;> (try split) <;> omega
set_option maxHeartbeats 800000 in
theorem clamp_any (v o : Int) (ho : One o) (w : World) : Calls Try.prog 127 #[.int .i64 v, .int .i64 o] w fun e w' => e = .returned (.int .i64 (clk o v)) ∧ w = w' := by
  by_cases h1 : v < 0
  · have HC := Lib.hid (clk_lo (o := o) h1)
    rcases ho with rfl | rfl
    all_goals
      go_enter Try.func127, Try.ntmps127
      go_wp2
      all_goals go_ret
      all_goals exact ⟨ret_int (by rw [HC.out]; try omega), rfl⟩
  · by_cases h2 : 65535 * o < v
    · have HC := Lib.hid (clk_hi ho h2)
      rcases ho with rfl | rfl
      all_goals
        go_enter Try.func127, Try.ntmps127
        go_wp2
        all_goals go_ret
        all_goals exact ⟨ret_int (by rw [HC.out]; try omega), rfl⟩
    · have HC := Lib.hid (clk_in (v := v) (o := o) (by omega) (by omega))
      rcases ho with rfl | rfl
      all_goals
        go_enter Try.func127, Try.ntmps127
        go_wp2
        all_goals go_ret
        all_goals exact ⟨ret_int (by rw [HC.out]; try omega), rfl⟩
end Go.Proofs.Ytmmlcdbbjkligaa

/-
  A stage at fine numbers by the reference model: l7FineCurve, l7FineMatrix, l7Fine, FineStage.
-/
import Derived.Test.YtlfdpambbgddoaaFinA
namespace Go.Proofs.Ytlfdpambbgddoaa
open Go.RowKit Go.Maps
set_option linter.unusedVariables false
set_option linter.unusedSimpArgs false

theorem sMin_any (a b : Int) (w : World) : Calls Try.prog 149 #[.int .i64 a, .int .i64 b] w fun e w' => e = .returned (.int .i64 (min a b)) ∧ w = w' := by
  by_cases h : a < b
  · go_enter Try.func149, Try.ntmps149
    go_wp2
    go_ret
    exact ⟨ret_int (by omega), rfl⟩
  · go_enter Try.func149, Try.ntmps149
    go_wp2
    go_ret
    exact ⟨ret_int (by omega), rfl⟩
theorem clk_mm (x : Int) : max 0 (min 16776960 x) = clk 256 x := by
  unfold clk
  split
  · omega
  · split <;> omega
def fnT (q x : Nat → Int) (i : Nat) : List Int := (List.range i).map (apK 256 q x)
theorem fnT_step (q x : Nat → Int) (i : Nat) : fnT q x (i + 1) = fnT q x i ++ [apK 256 q x i] := by unfold fnT; rw [List.range_succ, List.map_append]; rfl
end Go.Proofs.Ytlfdpambbgddoaa

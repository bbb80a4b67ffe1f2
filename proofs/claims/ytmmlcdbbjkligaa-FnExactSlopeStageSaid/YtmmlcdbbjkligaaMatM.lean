/-
  Matrices: the program's mixed, nearestSigned.
-/
import Derived.Test.YtmmlcdbbjkligaaMat2
namespace Go.Proofs.Ytmmlcdbbjkligaa
open Go.RowKit
set_option linter.unusedVariables false

set_option maxRecDepth 100000 in
set_option maxHeartbeats 2000000 in
theorem mixed_any (a0 a1 a2 b0 b1 b2 : Int) (w : World) (h0 : -100000000000000 ≤ a0 * b0 ∧ a0 * b0 ≤ 100000000000000) (h1 : -100000000000000 ≤ a1 * b1 ∧ a1 * b1 ≤ 100000000000000) (h2 : -100000000000000 ≤ a2 * b2 ∧ a2 * b2 ≤ 100000000000000) :
    Calls Try.prog 175 #[.agg #[.int .i64 a0, .int .i64 a1, .int .i64 a2], .agg #[.int .i64 b0, .int .i64 b1, .int .i64 b2]] w fun e w' => e = .returned (.int .i64 (rnd (a0 * b0 + a1 * b1 + a2 * b2) 65536)) ∧ Below w.heap.size w w' := by
  obtain ⟨h0a, h0b⟩ := h0
  obtain ⟨h1a, h1b⟩ := h1
  obtain ⟨h2a, h2b⟩ := h2
  go_enter Try.func175, Try.ntmps175
  go_wp2_with fail
  refine wp_loop_rounds 4 ?_
  rw [rounds_succ]
  go_wp2_with fail
  go_quiet (fail)
  go_wp2_with fail
  rw [rounds_succ]
  go_wp2_with fail
  go_quiet (fail)
  go_wp2_with fail
  rw [rounds_succ]
  go_wp2_with fail
  go_quiet (fail)
  go_wp2_with fail
  rw [rounds_succ]
  go_wp2_with fail
  refine (nearest_any _ _ _ (by omega) (by omega) (by omega) (by omega)).mono ?_
  rintro e w1 ⟨rfl, m, rfl⟩
  go_wp2_with fail
  go_ret
  refine ⟨rfl, ?_⟩
  repeat (first | with_reducible exact Below.refl _ _ | with_reducible refine blThenAlloc ?_ _ | with_reducible refine blThenDrew ?_ _ | with_reducible refine Below.drew ?_)
end Go.Proofs.Ytmmlcdbbjkligaa

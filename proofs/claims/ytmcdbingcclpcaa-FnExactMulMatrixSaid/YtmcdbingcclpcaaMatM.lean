/-
  Matrices: the program's mixed, nearestSigned.
-/
import Derived.Test.YtmcdbingcclpcaaMat2
namespace Go.Proofs.Ytmcdbingcclpcaa
open Go.RowKit
set_option linter.unusedVariables false

set_option maxRecDepth 100000 in
set_option maxHeartbeats 2000000 in
theorem mixed_any (a0 a1 a2 b0 b1 b2 : Int) (w : World) (h0 : -100000000000 ≤ a0 * b0 ∧ a0 * b0 ≤ 100000000000) (h1 : -100000000000 ≤ a1 * b1 ∧ a1 * b1 ≤ 100000000000) (h2 : -100000000000 ≤ a2 * b2 ∧ a2 * b2 ≤ 100000000000) :
    Calls Try.prog 81 #[.agg #[.int .i64 a0, .int .i64 a1, .int .i64 a2], .agg #[.int .i64 b0, .int .i64 b1, .int .i64 b2]] w fun e w' => e = .returned (.int .i64 (rnd (a0 * b0 + a1 * b1 + a2 * b2) 65536)) ∧ Below w.heap.size w w' := by
  obtain ⟨h0a, h0b⟩ := h0
  obtain ⟨h1a, h1b⟩ := h1
  obtain ⟨h2a, h2b⟩ := h2
  go_enter Try.func81, Try.ntmps81
  go_wp2_with fail
  refine wp_loop_rounds 4 ?_
  rw [rounds_succ]
  go_wp2_with fail
  go_quiet (fail)
  go_wp2_with fail
  rw [rounds_succ]
  go_wp2_with fail
  go_quiet (fail)
  go_wp2_with fail
  rw [rounds_succ]
  go_wp2_with fail
  go_quiet (fail)
  go_wp2_with fail
  rw [rounds_succ]
  go_wp2_with fail
  refine (nearest_any _ _ _ (by omega) (by omega) (by omega) (by omega)).mono ?_
  rintro e w1 ⟨rfl, m, rfl⟩
  go_wp2_with fail
  go_ret
  refine ⟨rfl, ?_⟩
  repeat (first | with_reducible exact Below.refl _ _ | with_reducible refine blThenAlloc ?_ _ | with_reducible refine blThenDrew ?_ _ | with_reducible refine Below.drew ?_)
set_option maxHeartbeats 400000 in
theorem nearestSigned_any (a b : Int) (w : World) (hb : b ≠ 0) (hb1 : -1000000000000000000 ≤ b) (hb2 : b ≤ 1000000000000000000) (h1 : -1000000000000000000 ≤ a) (h2 : a ≤ 1000000000000000000) :
    Calls Try.prog 86 #[.int .i64 a, .int .i64 b] w fun e w' => e = .returned (.int .i64 (if b < 0 then rnd (-a) (-b) else rnd a b)) ∧ ∃ n, w' = w.drewN n := by
  by_cases hn : b < 0
  · rw [if_pos hn]
    go_enter Try.func86, Try.ntmps86
    go_wp2_with fail
    refine (nearest_any _ _ _ (by omega) (by omega) (by omega) (by omega)).mono ?_
    rintro e w1 ⟨rfl, m, rfl⟩
    go_wp2_with fail
    go_ret
    exact ⟨rfl, _, rfl⟩
  · rw [if_neg hn]
    go_enter Try.func86, Try.ntmps86
    go_wp2_with fail
    refine (nearest_any _ _ _ (by omega) (by omega) (by omega) (by omega)).mono ?_
    rintro e w1 ⟨rfl, m, rfl⟩
    go_wp2_with fail
    go_ret
    exact ⟨rfl, _, rfl⟩
end Go.Proofs.Ytmcdbingcclpcaa

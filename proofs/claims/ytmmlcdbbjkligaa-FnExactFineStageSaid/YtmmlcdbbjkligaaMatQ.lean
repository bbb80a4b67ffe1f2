/-
  A colour through a matrix by the reference model: l1Clamp, l4Apply, ApplyMatrix.
-/
import Derived.Test.YtmmlcdbbjkligaaMatPA
import Derived.Test.YtmmlcdbbjkligaaGrdRA
namespace Go.Proofs.Ytmmlcdbbjkligaa
open Go.RowKit
set_option linter.unusedVariables false
set_option linter.unusedSimpArgs false

def apP (q x : Nat → Int) (i k : Nat) : Int := (if 0 < k then q (3 * i) * x 0 else 0) + (if 1 < k then q (3 * i + 1) * x 1 else 0) + (if 2 < k then q (3 * i + 2) * x 2 else 0)
theorem apP_bd {q x : Nat → Int} {i : Nat} (hi : i < 3) (hq : ∀ t, t < 9 → -262144 ≤ q t ∧ q t ≤ 262144) (hx : ∀ t, t < 3 → 0 ≤ x t ∧ x t ≤ 65535) (k : Nat) : -300000000000 ≤ apP q x i k ∧ apP q x i k ≤ 300000000000 := by
  have b0 := ap_bd (hq (3 * i) (by omega)) (hx 0 (by omega))
  have b1 := ap_bd (hq (3 * i + 1) (by omega)) (hx 1 (by omega))
  have b2 := ap_bd (hq (3 * i + 2) (by omega)) (hx 2 (by omega))
  unfold apP
  split <;> split <;> split <;> omega
theorem apP_step {q x : Nat → Int} {i k : Nat} (hk : k < 3) : apP q x i (k + 1) = apP q x i k + q (3 * i + k) * x k := by
  unfold apP
  match k, hk with
  | 0, _ => simp
  | 1, _ => simp
  | 2, _ => simp
def apT (q x : Nat → Int) (i : Nat) : List Int := (List.range i).map (apV q x)
theorem apT_step (q x : Nat → Int) (i : Nat) : apT q x (i + 1) = apT q x i ++ [apV q x i] := by unfold apT; rw [List.range_succ, List.map_append]; rfl
end Go.Proofs.Ytmmlcdbbjkligaa

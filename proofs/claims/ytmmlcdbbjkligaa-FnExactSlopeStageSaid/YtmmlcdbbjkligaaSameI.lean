/-
  Lists of int64 that are compared: the program's slices.Equal, the reference model's l1Same.
-/
import Derived.Test.YtmmlcdbbjkligaaHelpI
namespace Go.Proofs.Ytmmlcdbbjkligaa
open Go.RowKit
set_option linter.unusedVariables false

def sameI (xs ys : List Int) : Bool := decide (xs = ys)
theorem sameI_len {xs ys : List Int} (h : xs.length ≠ ys.length) : sameI xs ys = false := decide_eq_false (fun e => h (by rw [e]))
theorem sameI_at {xs ys : List Int} {k : Nat} (h : xs.getD k 0 ≠ ys.getD k 0) : sameI xs ys = false := decide_eq_false (fun e => h (by rw [e]))
theorem sameI_all {xs ys : List Int} {n : Nat} (h1 : xs.length = n) (h2 : ys.length = n) (h : ∀ i, i < n → xs.getD i 0 = ys.getD i 0) : sameI xs ys = true := by
  refine decide_eq_true (List.ext_getElem (by omega) fun i hi hj => ?_)
  have := h i (by omega)
  simpa [List.getD, hi, hj] using this
theorem sameI_self (xs : List Int) : sameI xs xs = true := decide_eq_true rfl
end Go.Proofs.Ytmmlcdbbjkligaa

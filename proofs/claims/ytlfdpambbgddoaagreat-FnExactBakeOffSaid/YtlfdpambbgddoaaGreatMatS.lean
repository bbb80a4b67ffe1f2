/-
  Matrices: the program's and the model's SumOfRow.
-/
import Derived.Test.YtlfdpambbgddoaaGreatMatCD
namespace Go.Proofs.YtlfdpambbgddoaaGreat
open Go.RowKit
set_option linter.unusedVariables false

def sumR (q : Nat → Int) (r : Nat) : Int := max (q (3 * r)) (-(q (3 * r))) + max (q (3 * r + 1)) (-(q (3 * r + 1))) + max (q (3 * r + 2)) (-(q (3 * r + 2)))
def rowC (rs : Rws) (row : Int) : Int := if mf rs = 0 then (if 0 ≤ row ∧ row < 3 then 0 else 3) else mf rs
def rowV (rs : Rws) (row : Int) : Int := if mf rs = 0 then (if 0 ≤ row ∧ row < 3 then sumR (fl rs) row.toNat else 0) else 0
theorem row_no {rs : Rws} {row : Int} (h : mf rs ≠ 0) : rowC rs row = mf rs ∧ rowV rs row = 0 := by unfold rowC rowV; rw [if_neg h, if_neg h]; exact ⟨rfl, rfl⟩
theorem row_out {rs : Rws} {row : Int} (h : mf rs = 0) (hr : ¬ (0 ≤ row ∧ row < 3)) : rowC rs row = 3 ∧ rowV rs row = 0 := by unfold rowC rowV; rw [if_pos h, if_pos h, if_neg hr, if_neg hr]; exact ⟨rfl, rfl⟩
theorem row_in {rs : Rws} {row : Int} (h : mf rs = 0) (hr : 0 ≤ row ∧ row < 3) : rowC rs row = 0 ∧ rowV rs row = sumR (fl rs) row.toNat := by unfold rowC rowV; rw [if_pos h, if_pos h, if_pos hr, if_pos hr]; exact ⟨rfl, rfl⟩

end Go.Proofs.YtlfdpambbgddoaaGreat

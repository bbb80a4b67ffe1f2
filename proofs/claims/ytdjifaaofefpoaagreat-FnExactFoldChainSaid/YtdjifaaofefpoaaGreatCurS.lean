/-
  SameCurves, by the program (slices.Equal) and by the reference model (l1Same).
-/
import Derived.Test.YtdjifaaofefpoaaGreatCurA
import Derived.Test.YtdjifaaofefpoaaGreatMatEF
namespace Go.Proofs.YtdjifaaofefpoaaGreat
open Go.RowKit
set_option linter.unusedVariables false

set_option maxHeartbeats 400000 in
theorem SameCurves_any (A A' : Option Addr) (n n' c c' : Nat) (xs ys : List Int) (w : World) (h : Rd .i64 w A n xs) (h' : Rd .i64 w A' n' ys) (hn : n ≤ maxLen) (hn' : n' ≤ maxLen) :
    Calls Tryz.prog 147 #[.agg #[.slice A n c], .agg #[.slice A' n' c']] w fun e w' => e = .returned (.bool (sameI xs ys)) ∧ Below w.heap.size w w' := by
  have H := Lib.hid h
  have H' := Lib.hid h'
  clear h h'
  go_enter Tryz.func147, Tryz.ntmps147
  go_wp2_with fail
  refine (equalI_any _ _ _ _ _ _ xs ys _ ((H.out.alloc _).alloc _) ((H'.out.alloc _).alloc _) hn hn').mono ?_
  rintro e w1 ⟨rfl, m, rfl⟩
  go_wp2_with fail
  go_ret
  exact ⟨rfl, blThenDrew (blThenAlloc (blAlloc w _) _) _⟩
end Go.Proofs.YtdjifaaofefpoaaGreat

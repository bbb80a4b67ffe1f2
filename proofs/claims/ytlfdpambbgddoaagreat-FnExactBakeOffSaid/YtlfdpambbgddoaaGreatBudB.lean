/-
  BudgetOf, by the program (a complex number that a closure takes on) and by the reference model.
-/
import Derived.Test.YtlfdpambbgddoaaGreatBudA
import Derived.Deep.RegionHeld3
import Derived.Laws.EntriesVeiled
namespace Go.Proofs.YtlfdpambbgddoaaGreat
open Go.RowKit Go.Maps
set_option linter.unusedVariables false
set_option linter.unusedSimpArgs false

theorem flI_128 : flI 128 = 4638707616191610880 := by decide
theorem flI_1 : flI 1 = 4607182418800017408 := by decide
theorem flI_0 : flI 0 = 0 := by decide
/-! ### the closures -/
def BgAns (w : World) (x y : Int) (e : Ending) (w' : World) : Prop := e = .returned (.complex .f64 (flI x) (flI y)) ∧ Below w.heap.size w w'
def BuAns (w : World) (ts : List Stg) (e : Ending) (w' : World) : Prop := e = .returned (.agg #[.int .i64 (chf ts), .int .i64 (bgV 128 ts), .int .i64 (bgV 1 ts)]) ∧ Below w.heap.size w w'
/-! ### the model's -/
def TwAns (w : World) (x y : Int) (e : Ending) (w' : World) : Prop := e = .returned (.tuple #[.int .i64 x, .int .i64 y]) ∧ Below w.heap.size w w'
end Go.Proofs.YtlfdpambbgddoaaGreat

/-
  A grid at a colour: the program's EvalGrid.
-/
import Derived.Test.YtdjifaaofefpoaaGreatGrdLA
namespace Go.Proofs.YtdjifaaofefpoaaGreat
open Go.RowKit Go.Maps
set_option linter.unusedVariables false
set_option linter.unusedSimpArgs false

end Go.Proofs.YtdjifaaofefpoaaGreat

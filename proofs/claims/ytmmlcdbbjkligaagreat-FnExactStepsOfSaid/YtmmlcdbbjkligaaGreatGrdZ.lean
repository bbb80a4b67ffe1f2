/-
  A grid at a colour: the program's EvalGrid.
-/
import Derived.Test.YtmmlcdbbjkligaaGreatGrdLA
namespace Go.Proofs.YtmmlcdbbjkligaaGreat
open Go.RowKit Go.Maps
set_option linter.unusedVariables false
set_option linter.unusedSimpArgs false

end Go.Proofs.YtmmlcdbbjkligaaGreat

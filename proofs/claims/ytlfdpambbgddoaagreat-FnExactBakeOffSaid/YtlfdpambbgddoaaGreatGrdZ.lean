/-
  A grid at a colour: the program's EvalGrid.
-/
import Derived.Test.YtlfdpambbgddoaaGreatGrdLA
namespace Go.Proofs.YtlfdpambbgddoaaGreat
open Go.RowKit Go.Maps
set_option linter.unusedVariables false
set_option linter.unusedSimpArgs false

end Go.Proofs.YtlfdpambbgddoaaGreat

/-
  Matrices that are compared by the model: SameMatrices.
-/
import Derived.Test.YtmmlcdbbjkligaaMatE
namespace Go.Proofs.Ytmmlcdbbjkligaa
open Go.RowKit
set_option linter.unusedVariables false

end Go.Proofs.Ytmmlcdbbjkligaa

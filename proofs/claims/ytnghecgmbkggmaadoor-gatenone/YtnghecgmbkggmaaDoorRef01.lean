/- Contracts of the document's answers of layer 1. -/
import Derived.Test.YtnghecgmbkggmaaDoorRows
import Derived.Test.YtnghecgmbkggmaaDoorWMath
import Derived.WalkKit
import Derived.ProofKit
import Derived.OpenShut
import Derived.WalkLawsBesides
namespace Go.Proofs.YtnghecgmbkggmaaDoor
open Go.RowKit
set_option linter.unusedVariables false
set_option maxHeartbeats 400000
end Go.Proofs.YtnghecgmbkggmaaDoor

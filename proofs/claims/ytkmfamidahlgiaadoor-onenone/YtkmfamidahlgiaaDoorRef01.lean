/- Contracts of the document's answers of layer 1. -/
import Derived.Test.YtkmfamidahlgiaaDoorRows
import Derived.Test.YtkmfamidahlgiaaDoorWMath
import Derived.WalkKit
import Derived.ProofKit
import Derived.OpenShut
import Derived.WalkLawsBesides
namespace Go.Proofs.YtkmfamidahlgiaaDoor
open Go.RowKit
set_option linter.unusedVariables false
set_option maxHeartbeats 400000
end Go.Proofs.YtkmfamidahlgiaaDoor

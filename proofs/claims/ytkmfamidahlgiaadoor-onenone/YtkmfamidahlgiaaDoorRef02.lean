/- Contracts of the document's answers of layer 2. -/
import Derived.Test.YtkmfamidahlgiaaDoorRef01
import Derived.Test.YtkmfamidahlgiaaDoorLMath
import Derived.Lib.Hide
namespace Go.Proofs.YtkmfamidahlgiaaDoor
open Go.RowKit
set_option linter.unusedVariables false
set_option maxHeartbeats 400000
end Go.Proofs.YtkmfamidahlgiaaDoor

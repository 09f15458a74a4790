/- pair.Least; the reference's tests. -/
import Derived.Test.YtoaifbengichbaaPair
namespace Go.Proofs.Ytoaifbengichbaa
open Go.RowKit
set_option linter.unusedVariables false
set_option maxHeartbeats 400000
end Go.Proofs.Ytoaifbengichbaa

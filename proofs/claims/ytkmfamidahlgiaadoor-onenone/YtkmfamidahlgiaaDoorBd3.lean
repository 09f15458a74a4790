/- A board's slots; Peek. -/
import Derived.Test.YtkmfamidahlgiaaDoorBd2
namespace Go.Proofs.YtkmfamidahlgiaaDoor
open Go.RowKit
set_option linter.unusedVariables false
set_option linter.unusedSimpArgs false
set_option maxHeartbeats 2000000
attribute [local go_sem] later_cell later_frozen later_const
theorem u64_wrap (v : Int) : IntKind.u64.wrap v = U64 v := by rw [IntKind.wrap_u64]; rfl
end Go.Proofs.YtkmfamidahlgiaaDoor

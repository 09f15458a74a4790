/- Contracts of the document's answers of layer 1. -/
import Derived.Test.YtlalkefbcddbfabRows
import Derived.Test.YtlalkefbcddbfabWMath
import Derived.WalkKit
import Derived.ProofKit
import Derived.OpenShut
import Derived.WalkLawsBesides
namespace Go.Proofs.Ytlalkefbcddbfab
open Go.RowKit
set_option linter.unusedVariables false
set_option maxHeartbeats 400000
theorem rCut_32 (a : Int) (w : World) (h0 : 0 ≤ a) : Calls Try.prog 35 #[.int .i64 32, .int .u64 a] w fun e w' => e = .returned (.int .u64 (a % 4294967296)) ∧ w = w' := by
  go_enter Try.func35, Try.ntmps35
  go_wp2
  go_ret
  exact ⟨rfl, rfl⟩
theorem rCut_64 (a : Int) (w : World) : Calls Try.prog 35 #[.int .i64 64, .int .u64 a] w fun e w' => e = .returned (.int .u64 a) ∧ w = w' := by
  go_enter Try.func35, Try.ntmps35
  go_wp2
  go_ret
  exact ⟨rfl, rfl⟩
theorem rCut_no (d a : Int) (w : World) (h1 : (d == 32) = false) (h2 : (d == 64) = false) : Calls Try.prog 35 #[.int .i64 d, .int .u64 a] w fun e w' => e = .returned (.int .u64 0) ∧ w = w' := by
  go_enter Try.func35, Try.ntmps35
  go_wp2
  go_ret
  exact ⟨rfl, rfl⟩
end Go.Proofs.Ytlalkefbcddbfab

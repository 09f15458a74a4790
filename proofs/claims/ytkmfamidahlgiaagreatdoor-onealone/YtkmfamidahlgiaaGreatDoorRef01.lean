/- Contracts of the document's answers of layer 1. -/
import Derived.Test.YtkmfamidahlgiaaGreatDoorRows
import Derived.Test.YtkmfamidahlgiaaGreatDoorWMath
import Derived.WalkKit
import Derived.ProofKit
import Derived.OpenShut
import Derived.WalkLawsBesides
namespace Go.Proofs.YtkmfamidahlgiaaGreatDoor
open Go.RowKit
set_option linter.unusedVariables false
set_option maxHeartbeats 400000
theorem rCut_32 (a : Int) (w : World) (h0 : 0 ≤ a) : Calls Tryz.prog 78 #[.int .i64 32, .int .u64 a] w fun e w' => e = .returned (.int .u64 (a % 4294967296)) ∧ w = w' := by
  go_enter Tryz.func78, Tryz.ntmps78
  go_wp2
  go_ret
  exact ⟨rfl, rfl⟩
theorem rCut_64 (a : Int) (w : World) : Calls Tryz.prog 78 #[.int .i64 64, .int .u64 a] w fun e w' => e = .returned (.int .u64 a) ∧ w = w' := by
  go_enter Tryz.func78, Tryz.ntmps78
  go_wp2
  go_ret
  exact ⟨rfl, rfl⟩
theorem rCut_no (d a : Int) (w : World) (h1 : (d == 32) = false) (h2 : (d == 64) = false) : Calls Tryz.prog 78 #[.int .i64 d, .int .u64 a] w fun e w' => e = .returned (.int .u64 0) ∧ w = w' := by
  go_enter Tryz.func78, Tryz.ntmps78
  go_wp2
  go_ret
  exact ⟨rfl, rfl⟩
theorem rPlus_32 (a n : Int) (w : World) : Calls Tryz.prog 80 #[.int .i64 32, .int .u64 a, .int .i64 n] w fun e w' => e = .returned (.int .u64 ((a + n) % 4294967296)) ∧ w = w' := by
  go_enter Tryz.func80, Tryz.ntmps80
  go_wp2_with fail
  rw [wrapU64, wrapU64, U64_add_U64]
  refine (rCut_32 _ _ (U64_range _).1).mono ?_
  rintro e w' ⟨rfl, rfl⟩
  go_wp2
  go_ret
  exact ⟨ret_int (U64_mod _), rfl⟩
theorem rPlus_64 (a n : Int) (w : World) : Calls Tryz.prog 80 #[.int .i64 64, .int .u64 a, .int .i64 n] w fun e w' => e = .returned (.int .u64 (U64 (a + n))) ∧ w = w' := by
  go_enter Tryz.func80, Tryz.ntmps80
  go_wp2_with fail
  rw [wrapU64, wrapU64, U64_add_U64]
  refine (rCut_64 _ _).mono ?_
  rintro e w' ⟨rfl, rfl⟩
  go_wp2
  go_ret
  exact ⟨rfl, rfl⟩
theorem gap_hi (a b : Int) (h : 2147483648 ≤ (a % 4294967296 + 4294967296 - b) % 4294967296) : (a % 4294967296 + 4294967296 - b) % 4294967296 - 4294967296 = D32 (a - b) := by unfold D32; omega
theorem gap_lo (a b : Int) (h : (a % 4294967296 + 4294967296 - b) % 4294967296 < 2147483648) : (a % 4294967296 + 4294967296 - b) % 4294967296 = D32 (a - b) := by unfold D32; omega
theorem rGap_32 (a b : Int) (w : World) (ha : 0 ≤ a) (hb : 0 ≤ b) : Calls Tryz.prog 79 #[.int .i64 32, .int .u64 a, .int .u64 b] w fun e w' => e = .returned (.int .i64 (D32 (a - b))) ∧ w = w' := by
  go_enter Tryz.func79, Tryz.ntmps79
  go_wp2
  · go_ret
    exact ⟨ret_int (gap_hi a b ‹_›), rfl⟩
  · go_ret
    exact ⟨ret_int (gap_lo a b ‹_›), rfl⟩
theorem rGap_64 (a b : Int) (w : World) : Calls Tryz.prog 79 #[.int .i64 64, .int .u64 a, .int .u64 b] w fun e w' => e = .returned (.int .i64 (D64 (a - b))) ∧ w = w' := by
  go_enter Tryz.func79, Tryz.ntmps79
  go_wp2
  go_ret
  exact ⟨ret_int (by rw [wrapU64, wrapI64, D64_U64]), rfl⟩
end Go.Proofs.YtkmfamidahlgiaaGreatDoor

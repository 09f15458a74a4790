/- Contracts of package lap's functions. -/
import Derived.Test.YtoaifbengichbabWide
import Derived.Test.YtoaifbengichbabLMath
import Derived.Lib.Hide
namespace Go.Proofs.Ytoaifbengichbab
open Go.RowKit
set_option linter.unusedVariables false
set_option maxHeartbeats 400000
theorem at_U32 (r c s : Int) : ((r * c) % 4294967296 + s) % 4294967296 = (r * c + s) % 4294967296 := by
  generalize r * c = x; omega
theorem at_U64 (r c s : Int) : U64 (U64 (r * c) + s) = U64 (r * c + s) := U64_U64_add _ _
theorem ahead_loU32 (x : Int) : 0 ≤ x % 4294967296 := by omega
theorem ahead_hiU32 (x : Int) : x % 4294967296 < 4294967296 := by omega
theorem ahead_loU64 (x : Int) : 0 ≤ U64 x := (U64_range x).1
theorem ahead_hiU64 (x : Int) : U64 x < 18446744073709551616 := (U64_range x).2
theorem lRight (c : Int) (w : World) : Calls Try.prog 29 #[.int .i64 c] w fun e w' => e = .returned (.bool (rightB c)) ∧ w = w' := by
  by_cases h0 : 2 ≤ c
  · by_cases h1 : c ≤ 1073741824
    · go_enter Try.func29, Try.ntmps29
      go_wp2
      go_ret
      exact ⟨ret_bool (and_right h0 h1), rfl⟩
    · go_enter Try.func29, Try.ntmps29
      go_wp2
      go_ret
      exact ⟨ret_bool (right_no_hi (by omega)).symm, rfl⟩
  · go_enter Try.func29, Try.ntmps29
    go_wp2
    go_ret
    exact ⟨ret_bool (right_no_lo (by omega)).symm, rfl⟩
end Go.Proofs.Ytoaifbengichbab

/- Contracts of package lap's functions. -/
import Derived.Test.YtclhbdedibcgjaaWide
import Derived.Test.YtclhbdedibcgjaaLMath
import Derived.Lib.Hide
namespace Go.Proofs.Ytclhbdedibcgjaa
open Go.RowKit
set_option linter.unusedVariables false
set_option maxHeartbeats 400000
theorem at_U32 (r c s : Int) : ((r * c) % 4294967296 + s) % 4294967296 = (r * c + s) % 4294967296 := by
  generalize r * c = x; omega
theorem at_U64 (r c s : Int) : U64 (U64 (r * c) + s) = U64 (r * c + s) := U64_U64_add _ _
theorem ahead_loU32 (x : Int) : 0 ≤ x % 4294967296 := by omega
theorem ahead_hiU32 (x : Int) : x % 4294967296 < 4294967296 := by omega
theorem ahead_loU64 (x : Int) : 0 ≤ U64 x := (U64_range x).1
theorem ahead_hiU64 (x : Int) : U64 x < 18446744073709551616 := (U64_range x).2
theorem lRight (c : Int) (w : World) : Calls Try.prog 44 #[.int .i64 c] w fun e w' => e = .returned (.bool (rightB c)) ∧ w = w' := by
  by_cases h0 : 2 ≤ c
  · by_cases h1 : c ≤ 1073741824
    · go_enter Try.func44, Try.ntmps44
      go_wp2
      go_ret
      exact ⟨ret_bool (and_right h0 h1), rfl⟩
    · go_enter Try.func44, Try.ntmps44
      go_wp2
      go_ret
      exact ⟨ret_bool (right_no_hi (by omega)).symm, rfl⟩
  · go_enter Try.func44, Try.ntmps44
    go_wp2
    go_ret
    exact ⟨ret_bool (right_no_lo (by omega)).symm, rfl⟩
theorem slotU32 (c p : Int) (w : World) (hc : rightB c = true) (h0 : 0 ≤ p) (h1 : p < 4294967296) : Calls Try.prog 46 #[.int .i64 c, .int .u32 p] w fun e w' => e = .returned (.int .i64 (p % c)) ∧ w = w' := by
  have hr := right_range hc
  have hs := slot_range hc p
  go_enter Try.func46, Try.ntmps46
  go_wp2_with fail
  refine (lRight _ _).mono ?_
  rintro e w' ⟨rfl, rfl⟩
  go_wp2
  go_ret
  exact ⟨rfl, rfl⟩
theorem slotU32_no (c p : Int) (w : World) (hc : rightB c = false) : Calls Try.prog 46 #[.int .i64 c, .int .u32 p] w fun e w' => e = .returned (.int .i64 0) ∧ w = w' := by
  go_enter Try.func46, Try.ntmps46
  go_wp2_with fail
  refine (lRight _ _).mono ?_
  rintro e w' ⟨rfl, rfl⟩
  go_wp2
  go_ret
  exact ⟨rfl, rfl⟩
theorem slotU64 (c p : Int) (w : World) (hc : rightB c = true) (h0 : 0 ≤ p) (h1 : p < 18446744073709551616) : Calls Try.prog 48 #[.int .i64 c, .int .u64 p] w fun e w' => e = .returned (.int .i64 (p % c)) ∧ w = w' := by
  have hr := right_range hc
  have hs := slot_range hc p
  go_enter Try.func48, Try.ntmps48
  go_wp2_with fail
  refine (lRight _ _).mono ?_
  rintro e w' ⟨rfl, rfl⟩
  go_wp2
  go_ret
  exact ⟨rfl, rfl⟩
theorem slotU64_no (c p : Int) (w : World) (hc : rightB c = false) : Calls Try.prog 48 #[.int .i64 c, .int .u64 p] w fun e w' => e = .returned (.int .i64 0) ∧ w = w' := by
  go_enter Try.func48, Try.ntmps48
  go_wp2_with fail
  refine (lRight _ _).mono ?_
  rintro e w' ⟨rfl, rfl⟩
  go_wp2
  go_ret
  exact ⟨rfl, rfl⟩
end Go.Proofs.Ytclhbdedibcgjaa

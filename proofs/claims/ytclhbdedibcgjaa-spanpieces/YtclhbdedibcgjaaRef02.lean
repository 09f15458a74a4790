/- Contracts of the document's answers of layer 2. -/
import Derived.Test.YtclhbdedibcgjaaRef01
import Derived.Test.YtclhbdedibcgjaaLMath
import Derived.Lib.Hide
namespace Go.Proofs.Ytclhbdedibcgjaa
open Go.RowKit
set_option linter.unusedVariables false
set_option maxHeartbeats 400000
theorem r2Right (c : Int) (w : World) : Calls Try.prog 34 #[.int .i64 c] w fun e w' => e = .returned (.bool (rightB c)) ∧ w = w' := by
  go_enter Try.func34, Try.ntmps34
  go_wp2
  go_loop [3] (fun n => ∃ m : Int, Rst c m ∧ n = .int .i64 m) (fun n => (1073741824 - intOf n).toNat)
  case atStart => exact ⟨2, rst_start c, rfl⟩
  case round =>
    obtain ⟨m, hm, rfl⟩ := hrel
    have hr := rst_range hm
    by_cases h1 : m < c
    · by_cases h2 : m < 1073741824
      · go_wp2
        exact ⟨⟨2 * m, rst_step hm h1 h2, rfl⟩, by simp [intOf]; omega⟩
      · have HE := Lib.hid (rst_end hm (by omega))
        go_wp2
        go_ret
        exact ⟨ret_bool HE.out, rfl⟩
    · have HE := Lib.hid (rst_end hm (by omega))
      go_wp2
      go_ret
      exact ⟨ret_bool HE.out, rfl⟩
theorem r2Slot (c p : Int) (w : World) (hc : rightB c = true) (h0 : 0 ≤ p) : Calls Try.prog 49 #[.int .i64 c, .int .u64 p] w fun e w' => e = .returned (.int .i64 (p % c)) ∧ w = w' := by
  have hr := right_range hc
  have hs := slot_range hc p
  go_enter Try.func49, Try.ntmps49
  go_wp2
  go_ret
  exact ⟨rfl, rfl⟩
theorem r2Slot_m (c x : Int) (w : World) (hc : rightB c = true) : Calls Try.prog 49 #[.int .i64 c, .int .u64 (x % 4294967296)] w fun e w' => e = .returned (.int .i64 (x % c)) ∧ w = w' := by
  have h := r2Slot c (x % 4294967296) w hc (by omega)
  rw [mod32_mod hc] at h
  exact h
theorem r2Slot_u (c x : Int) (w : World) (hc : rightB c = true) : Calls Try.prog 49 #[.int .i64 c, .int .u64 (U64 x)] w fun e w' => e = .returned (.int .i64 (x % c)) ∧ w = w' := by
  have h := r2Slot c (U64 x) w hc (U64_range x).1
  rw [mod64_mod hc] at h
  exact h
end Go.Proofs.Ytclhbdedibcgjaa

/- Contracts of the document's answers of layer 2. -/
import Derived.Test.YtoaifbengichbabRef01
import Derived.Test.YtoaifbengichbabLMath
import Derived.Lib.Hide
namespace Go.Proofs.Ytoaifbengichbab
open Go.RowKit
set_option linter.unusedVariables false
set_option maxHeartbeats 400000
theorem r2Right (c : Int) (w : World) : Calls Try.prog 11 #[.int .i64 c] w fun e w' => e = .returned (.bool (rightB c)) ∧ w = w' := by
  go_enter Try.func11, Try.ntmps11
  go_wp2
  go_loop [3] (fun n => ∃ m : Int, Rst c m ∧ n = .int .i64 m) (fun n => (1073741824 - intOf n).toNat)
  case atStart => exact ⟨2, rst_start c, rfl⟩
  case round =>
    obtain ⟨m, hm, rfl⟩ := hrel
    have hr := rst_range hm
    by_cases h1 : m < c
    · by_cases h2 : m < 1073741824
      · go_wp2
        exact ⟨⟨2 * m, rst_step hm h1 h2, rfl⟩, by simp [intOf]; omega⟩
      · have HE := Lib.hid (rst_end hm (by omega))
        go_wp2
        go_ret
        exact ⟨ret_bool HE.out, rfl⟩
    · have HE := Lib.hid (rst_end hm (by omega))
      go_wp2
      go_ret
      exact ⟨ret_bool HE.out, rfl⟩
end Go.Proofs.Ytoaifbengichbab

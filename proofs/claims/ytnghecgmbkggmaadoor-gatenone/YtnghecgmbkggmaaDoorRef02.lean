/- Contracts of the document's answers of layer 2. -/
import Derived.Test.YtnghecgmbkggmaaDoorRef01
import Derived.Test.YtnghecgmbkggmaaDoorLMath
import Derived.Lib.Hide
namespace Go.Proofs.YtnghecgmbkggmaaDoor
open Go.RowKit
set_option linter.unusedVariables false
set_option maxHeartbeats 400000
theorem r2Right (c : Int) (w : World) : Calls Tryd.prog 52 #[.int .i64 c] w fun e w' => e = .returned (.bool (rightB c)) ∧ w = w' := by
  go_enter Tryd.func52, Tryd.ntmps52
  go_wp2
  go_loop [3] (fun n => ∃ m : Int, Rst c m ∧ n = .int .i64 m) (fun n => (1073741824 - intOf n).toNat)
  case atStart => exact ⟨2, rst_start c, rfl⟩
  case round =>
    obtain ⟨m, hm, rfl⟩ := hrel
    have hr := rst_range hm
    by_cases h1 : m < c
    · by_cases h2 : m < 1073741824
      · go_wp2
        exact ⟨⟨2 * m, rst_step hm h1 h2, rfl⟩, by simp [intOf]; omega⟩
      · have HE := Lib.hid (rst_end hm (by omega))
        go_wp2
        go_ret
        exact ⟨ret_bool HE.out, rfl⟩
    · have HE := Lib.hid (rst_end hm (by omega))
      go_wp2
      go_ret
      exact ⟨ret_bool HE.out, rfl⟩
end Go.Proofs.YtnghecgmbkggmaaDoor

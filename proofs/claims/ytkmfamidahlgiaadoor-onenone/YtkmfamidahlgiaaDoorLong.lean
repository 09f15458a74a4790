/- Long: are lists more than are gone through? -/
import Derived.Test.YtkmfamidahlgiaaDoorLists
namespace Go.Proofs.YtkmfamidahlgiaaDoor
open Go.RowKit
set_option linter.unusedVariables false
set_option maxHeartbeats 1000000
def longB (ups : List (List Int)) : Bool := ((ups.take 20).any fun l => decide (20 < l.length)) || decide (20 < ups.length)
theorem longB_no {ups : List (List Int)} (h : longB ups = false) : ups.length ≤ 20 ∧ ∀ l ∈ ups, l.length ≤ 20 := by
  unfold longB at h
  rw [Bool.or_eq_false_iff] at h
  have h2 : ups.length ≤ 20 := by simpa using h.2
  rw [List.take_of_length_le h2] at h
  refine ⟨h2, fun l hl => ?_⟩
  have := List.any_eq_false.1 h.1 l hl
  simpa using this
end Go.Proofs.YtkmfamidahlgiaaDoor

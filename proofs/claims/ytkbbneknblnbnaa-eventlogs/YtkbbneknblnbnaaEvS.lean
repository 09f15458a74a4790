/- EvT, one operation more: the one that is ready alone, whatever it makes, as long as the class is kept. No program in sight. -/
import Derived.Test.YtkbbneknblnbnaaEvT
namespace Go.Proofs.Ytkbbneknblnbnaa
open Go.RowKit
set_option linter.unusedVariables false
section
variable {P : Program} {ops : Array Oper} {md : Region.Mode} {K : Act → World → Prop} {C : World → Prop} {D : Nat → Bool}
theorem step_D {o : Oper} {i fuel : Nat} {listed : Array Bool} {a : Act} {w : World} {rest : List Oper} (hi0 : ops.toList.drop i = o :: rest) (hr : Region.ready md ops listed = [i])
    (h : wpList P ops (Off fun a' w' => C w' ∧ anyD P md ops K C D fuel (listed.setIfInBounds i true) a' w') [o] a w) : anyD P md ops K C D (fuel + 1) listed a w := by
  refine ⟨fun h1 => (by rw [hr] at h1; cases h1), fun j hj => ?_⟩
  rw [hr] at hj
  obtain rfl : j = i := by simpa using hj
  have h0 := at_dropD hi0
  have hw : wpOp P ops (Off fun a' w' => C w' ∧ anyD P md ops K C D fuel (listed.setIfInBounds j true) a' w') j (fun a' w' => C w' ∧ anyD P md ops K C D fuel (listed.setIfInBounds j true) a' w') a w := by unfold wpOp; simp only [h0]; exact h
  exact op_on (fun a' w' h' => ⟨fun _ => h'.1, h'.2⟩) hw
end
end Go.Proofs.Ytkbbneknblnbnaa

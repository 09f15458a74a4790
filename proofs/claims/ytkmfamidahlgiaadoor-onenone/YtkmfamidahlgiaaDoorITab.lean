/- The two package variables that the rows of gates list. -/
import Derived.Test.YtkmfamidahlgiaaDoorBTab
import Derived.Test.YtkmfamidahlgiaaDoorGrp2
namespace Go.Proofs.YtkmfamidahlgiaaDoor
open Go.RowKit
set_option linter.unusedVariables false
def laidLG : List (String × DataW Unit) := [("math/bits.deBruijn64tab", Rows.laid_math_bits_deBruijn64tab), ("sakia/layout.parts", Rows.laid_sakia_layout_parts)]
theorem gTabG : Tryd.prog.globalNamed "math/bits.deBruijn64tab" = some 1 := by kernel_rfl
theorem tTabG : (Tryd.prog.globals[1]?).map (·.type) = some 131 := by kernel_rfl
def tabZ : List Int := Lib.deBruijn64tab.map fun (n : Nat) => (n : Int)
theorem laid_ofG {W : World} (h : laidMetH Tryd.prog laidLG W) : Parts W ∧ Tab W := by
  rw [MakeChecks.laidMetH_plain _ _ _ (by kernel_rfl)] at h
  refine ⟨parts_of (Lib.laidMet.reads h (.tail _ (.head _))), ?_⟩
  have h' : laidMet Tryd.prog [("math/bits.deBruijn64tab", Lib.tabData .u8 tabZ), ("sakia/layout.parts", Rows.laid_sakia_layout_parts)] W := h
  have hT := Lib.tabIs_of_head gTabG tTabG Tryd.underlying131 Tryd.underlying5 (by kernel_rfl) (by kernel_rfl) h'
  intro j hj
  have hl : tabZ.length = 64 := by decide
  have := hT.cell gTabG j (by omega)
  rw [this]
  have e : tabZ.getD j 0 = ((Lib.deBruijn64tab.getD j 0 : Nat) : Int) := by
    have : j < Lib.deBruijn64tab.length := by simpa [tabZ] using (show j < tabZ.length by omega)
    simp [tabZ, this]
  rw [e]
theorem door_metG (os : Os) (args : Array Value) : laidMetH Tryd.prog laidLG ((World.doorLaid Tryd.prog 400 os).forCall (fun _ _ => 0) ⟨#[], args, []⟩).memory :=
  laidMetH_of_parts3 (fuel := 8) (laidMet_of_run' 8 (by kernel_rfl) (by kernel_rfl)) (by kernel_rfl) (by kernel_rfl)
end Go.Proofs.YtkmfamidahlgiaaDoor

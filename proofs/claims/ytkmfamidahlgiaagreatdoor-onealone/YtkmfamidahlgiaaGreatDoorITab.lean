/- The two package variables that the rows of gates list. -/
import Derived.Test.YtkmfamidahlgiaaGreatDoorBTab
import Derived.Test.YtkmfamidahlgiaaGreatDoorGrp2
namespace Go.Proofs.YtkmfamidahlgiaaGreatDoor
open Go.RowKit
set_option linter.unusedVariables false
def laidLG : List (String × DataW Unit) := [("math/bits.deBruijn64tab", Rows.laid_math_bits_deBruijn64tab), ("sakia/layout.parts", Rows.laid_sakia_layout_parts)]
theorem gTabG : Tryz.prog.globalNamed "math/bits.deBruijn64tab" = some 1 := by kernel_rfl
theorem tTabG : (Tryz.prog.globals[1]?).map (·.type) = some 226 := by kernel_rfl
def tabZ : List Int := Lib.deBruijn64tab.map fun (n : Nat) => (n : Int)
theorem laid_ofG {W : World} (h : laidMetH Tryz.prog laidLG W) : Parts W ∧ Tab W := by
  rw [MakeChecks.laidMetH_plain _ _ _ (by kernel_rfl)] at h
  refine ⟨parts_of (Lib.laidMet.reads h (.tail _ (.head _))), ?_⟩
  have h' : laidMet Tryz.prog [("math/bits.deBruijn64tab", Lib.tabData .u8 tabZ), ("sakia/layout.parts", Rows.laid_sakia_layout_parts)] W := h
  have hT := Lib.tabIs_of_head gTabG tTabG Tryz.underlying226 Tryz.underlying5 (by kernel_rfl) (by kernel_rfl) h'
  intro j hj
  have hl : tabZ.length = 64 := by decide
  have := hT.cell gTabG j (by omega)
  rw [this]
  have e : tabZ.getD j 0 = ((Lib.deBruijn64tab.getD j 0 : Nat) : Int) := by
    have : j < Lib.deBruijn64tab.length := by simpa [tabZ] using (show j < tabZ.length by omega)
    simp [tabZ, this]
  rw [e]
theorem door_metG (os : Os) (args : Array Value) : laidMetH Tryz.prog laidLG ((World.doorLaid Tryz.prog 400 os).forCall (fun _ _ => 0) ⟨#[], args, []⟩).memory :=
  laidMetH_of_parts3 (fuel := 8) (laidMet_of_run' 8 (by kernel_rfl) (by kernel_rfl)) (by kernel_rfl) (by kernel_rfl)
end Go.Proofs.YtkmfamidahlgiaaGreatDoor

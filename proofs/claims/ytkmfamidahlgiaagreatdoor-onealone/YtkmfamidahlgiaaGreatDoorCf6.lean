/- The laws' Plain, live and none of layer 10. -/
import Derived.Test.YtkmfamidahlgiaaGreatDoorCf3
import Derived.Test.YtkmfamidahlgiaaGreatDoorOpenC
namespace Go.Proofs.YtkmfamidahlgiaaGreatDoor
open Go.RowKit
set_option linter.unusedVariables false
set_option maxHeartbeats 1000000
attribute [local go_sem] later_cell later_frozen later_const
/-- the plain configuration, its graph in a block of its own -/
def PlainDoes (w : World) (e : Ending) (w' : World) : Prop := ∃ b, e = .returned (.agg #[.int .i64 2, .int .i64 32, .int .i64 4, .int .i64 1, .int .u64 (4294967294), .slice (some ⟨b, 0, none⟩) 1 1]) ∧ ListsV w' (.slice (some ⟨b, 0, none⟩) 1 1) [[]] ∧ Ext w w'
theorem lists_one {w : World} {b : Nat} (h : w.cell? ⟨b, 0, none⟩ = some (.slice none 0 0)) : ListsV w (.slice (some ⟨b, 0, none⟩) 1 1) [[]] :=
  ⟨_, 1, rfl, fun j hj => by
    have : j = 0 := by simp at hj; omega
    subst this
    exact ⟨b, 0, .slice none 0 0, rfl, h, .inl ⟨none, 0, rfl, rfl⟩, Nat.le_refl _⟩⟩
theorem ck1 : ckC 2 32 4 1 [[]] = 0 := by decide +kernel
theorem ck2 : ckC 1 32 4 2 [[]] = 5 := by decide +kernel
theorem ck3 : ckC 2 32 536870912 2 [[]] = 9 := by decide +kernel
theorem ck4 : ckC 2 64 536870912 2 [[]] = 10 := by decide +kernel
end Go.Proofs.YtkmfamidahlgiaaGreatDoor

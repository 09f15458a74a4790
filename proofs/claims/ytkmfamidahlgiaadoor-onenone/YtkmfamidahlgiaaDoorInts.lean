/- Slices of numbers that are read; the reference's Same. (Out of Grp3.t and LawMakes5.t.) -/
import Derived.Test.YtkmfamidahlgiaaDoorRows
import Derived.Test.YtkmfamidahlgiaaDoorExt
import Derived.Test.YtkmfamidahlgiaaDoorMem
import Derived.Test.YtkmfamidahlgiaaDoorOpen
import Derived.Test.YtkmfamidahlgiaaDoorOpen2
import Derived.WalkKit
import Derived.ProofKit
import Derived.OwnWalk
import Derived.Deep.AppendLies
namespace Go.Proofs.YtkmfamidahlgiaaDoor
open Go.RowKit
set_option linter.unusedVariables false
set_option maxHeartbeats 1000000
attribute [local go_sem] later_cell later_frozen later_const
/-- a slice reads as these numbers -/
def IntsV (w : World) (v : Value) (xs : List Int) : Prop :=
  (∃ a cap, v = .slice a 0 cap ∧ xs = []) ∨ ∃ b off cap, v = .slice (some ⟨b, off, none⟩) xs.length cap ∧ ∀ j, j < xs.length → w.cell? ⟨b, off + j, none⟩ = some (.int .i64 (xs.getD j 0))
theorem IntsV.ext {w w' : World} {v : Value} {xs : List Int} (h : IntsV w v xs) (hx : Ext w w') : IntsV w' v xs := by
  rcases h with h | ⟨b, off, cap, hv, hc⟩
  · exact .inl h
  · exact .inr ⟨b, off, cap, hv, fun j hj => hx.cell (hc j hj)⟩
theorem intsV_row {w : World} {base e : Nat} {v : Value} {n : Nat} {xs : List Int} (h : w.ownsRow base e 1 v n (xs.map (Value.int .i64))) : IntsV w v xs := by
  rcases ints_of_row h with ⟨h1, h2⟩ | ⟨b, off, cap, h1, h2⟩
  · exact .inl ⟨none, 0, h1, h2⟩
  · exact .inr ⟨b, off, cap, h1, h2⟩
/-- a slice that came in reads as its numbers -/
theorem intsV_of_row {w : World} {a : Option Addr} {len cap : Nat} {zs : List Int} (h : IsRow .i64 w a len cap zs) : IntsV w (.slice a len cap) (zs.take len) ∧ (zs.take len).length = len ∧ ∀ i ∈ zs.take len, (Lit.int .i64 i).wf = true := by
  rcases h with ⟨rfl, rfl, rfl, rfl⟩ | ⟨x, rfl, hl, hm, hz, hc, hw⟩
  · exact ⟨.inl ⟨none, 0, rfl, rfl⟩, rfl, by simp⟩
  · have hlen : (zs.take len).length = len := by rw [List.length_take]; omega
    refine ⟨?_, hlen, fun i hi => hw i (List.mem_of_mem_take hi)⟩
    by_cases h0 : len = 0
    · subst h0
      exact .inl ⟨some x, cap, rfl, by simp⟩
    · right
      have h1 := hc 0 (by omega)
      have hx := spot_none h1
      simp [Addr.add] at hx
      refine ⟨x.block, x.off, cap, by rw [hlen, ← hx], fun j hj => ?_⟩
      rw [hlen] at hj
      have h2 := hc j (by omega)
      rw [hx] at h2
      have e : (zs.take len).getD j 0 = zs.getD j 0 := by simp [hj]
      rw [e]
      by_cases hj0 : j = 0
      · subst hj0; simpa [Addr.add] using h2
      · simpa [Addr.add, hj0] using h2
end Go.Proofs.YtkmfamidahlgiaaDoor

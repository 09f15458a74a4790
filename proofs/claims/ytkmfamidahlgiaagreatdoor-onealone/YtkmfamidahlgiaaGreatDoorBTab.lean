/- The package variables that the row lists. -/
import Derived.Test.YtkmfamidahlgiaaGreatDoorLyK
import Derived.Test.YtkmfamidahlgiaaGreatDoorRows
import Derived.LaidMore
import Derived.LaidSub
import Derived.Lib.LaidTab
import Derived.Lib.LaidU8
import Derived.Stop.Joined
namespace Go.Proofs.YtkmfamidahlgiaaGreatDoor
open Go.RowKit
set_option linter.unusedVariables false
set_option linter.unusedSimpArgs false
theorem gParts : Tryz.prog.globalNamed "sakia/layout.parts" = some 0 := by kernel_rfl
theorem tParts : (Tryz.prog.globals[0]?).map (·.type) = some 186 := by kernel_rfl
theorem cParts : Tryz.prog.cellsOf 185 = 3 := by kernel_rfl
theorem cStr : Tryz.prog.cellsOf 9 = 1 := by kernel_rfl
theorem cInt : Tryz.prog.cellsOf 3 = 1 := by kernel_rfl
theorem cBool : Tryz.prog.cellsOf 4 = 1 := by kernel_rfl
theorem part_cells {w : World} {fuel : Nat} {cs : List Value} {s : List UInt8} {z : Int} {b : Bool} {q : List MemPlace} (h : DataW.trod (fun _ => ()) Tryz.prog w 0 (fun _ => true) false fuel 185 cs = some (.agg [.lit (.string s), .lit (.int .i64 z), .lit (.bool b)], q)) :
    cs[0]? = some (.string ⟨s.toArray⟩) ∧ cs[1]? = some (.int .i64 z) ∧ cs[2]? = some (.bool b) := by
  obtain ⟨xs, n, rfl, hx, hl, hxl, hall⟩ := DataW.trod_struct Tryz.underlying185 h
  have hxs : xs.map (·.1) = [.lit (.string s), .lit (.int .i64 z), .lit (.bool b)] := by have := congrArg Prod.fst hx; simpa using this.symm
  have hlen : xs.length = 3 := by rw [hxl]; rfl
  match xs, hlen, hxs with
  | [x0, x1, x2], _, hxs =>
    simp at hxs
    obtain ⟨e0, e1, e2⟩ := hxs
    have h0 : DataW.trod (fun _ => ()) Tryz.prog w 0 (fun _ => true) false n 9 ((cs.drop 0).take (Tryz.prog.cellsOf 9)) = some x0 := hall 0 _ rfl
    have h1 : DataW.trod (fun _ => ()) Tryz.prog w 0 (fun _ => true) false n 3 ((cs.drop 1).take (Tryz.prog.cellsOf 3)) = some x1 := hall 1 _ rfl
    have h2 : DataW.trod (fun _ => ()) Tryz.prog w 0 (fun _ => true) false n 4 ((cs.drop 2).take (Tryz.prog.cellsOf 4)) = some x2 := hall 2 _ rfl
    obtain ⟨s', c0, x0', _⟩ := DataW.trod_string Tryz.underlying9 h0
    obtain ⟨z', c1, x1', _⟩ := DataW.trod_int Tryz.underlying3 h1
    obtain ⟨b', c2, x2'⟩ := DataW.trod_bool Tryz.underlying4 h2
    rw [x0'] at e0
    rw [x1'] at e1
    rw [x2'] at e2
    simp at e0 e1 e2
    subst e1 e2
    rw [cStr] at c0
    rw [cInt] at c1
    rw [cBool] at c2
    have g0 := congrArg (·[0]?) c0
    have g1 := congrArg (·[0]?) c1
    have g2 := congrArg (·[0]?) c2
    simp [List.getElem?_take, List.getElem?_drop] at g0 g1 g2
    refine ⟨?_, g1, g2⟩
    rw [g0, ← e0]
theorem parts_of {W : World} (h : Lib.VarReads Tryz.prog W "sakia/layout.parts" Rows.laid_sakia_layout_parts) : Parts W := by
  obtain ⟨g, t, cs, fuel, p, hg, hty, hvar, hd⟩ := h
  obtain rfl := Option.some.inj (gParts.symm.trans hg)
  obtain rfl := Option.some.inj (tParts.symm.trans hty)
  intro k hk
  unfold Rows.laid_sakia_layout_parts at hd
  obtain ⟨fuel', d, q, hdi, he⟩ := Lib.array_elem Tryz.underlying186 hd k hk
  rw [cParts] at he
  have hv := fun i => World.var?_cell hg hvar i
  have key : ∀ s z b, d = .agg [.lit (.string s), .lit (.int .i64 z), .lit (.bool b)] → W.cell? ⟨0, k * 3, none⟩ = some (.string ⟨s.toArray⟩) ∧ W.cell? ⟨0, k * 3 + 1, none⟩ = some (.int .i64 z) ∧ W.cell? ⟨0, k * 3 + 2, none⟩ = some (.bool b) := by
    intro s z b e
    subst e
    obtain ⟨c0, c1, c2⟩ := part_cells he
    simp [List.getElem?_take, List.getElem?_drop] at c0 c1 c2
    rw [hv, hv, hv]
    exact ⟨by simpa using c0, by simpa using c1, by simpa using c2⟩
  have h11 : k = 0 ∨ k = 1 ∨ k = 2 ∨ k = 3 ∨ k = 4 ∨ k = 5 ∨ k = 6 ∨ k = 7 ∨ k = 8 ∨ k = 9 ∨ k = 10 := by omega
  rcases h11 with rfl | rfl | rfl | rfl | rfl | rfl | rfl | rfl | rfl | rfl | rfl <;> (simp at hdi; exact key _ _ _ hdi.symm)
def laidL : List (String × DataW Unit) := [("sakia/layout.parts", Rows.laid_sakia_layout_parts)]
theorem laid_of {W : World} (h : laidMetH Tryz.prog laidL W) : Parts W := by
  rw [MakeChecks.laidMetH_plain _ _ _ (by kernel_rfl)] at h
  exact parts_of (Lib.laidMet.reads h (.head _))
theorem door_met (os : Os) (args : Array Value) : laidMetH Tryz.prog laidL ((World.doorLaid Tryz.prog 400 os).forCall (fun _ _ => 0) ⟨#[], args, []⟩).memory :=
  laidMetH_of_parts3 (fuel := 8) (laidMet_of_run' 8 (by kernel_rfl) (by kernel_rfl)) (by kernel_rfl) (by kernel_rfl)
end Go.Proofs.YtkmfamidahlgiaaGreatDoor

/- The walk of LayoutNone. -/
import Derived.Test.YtaimmpcijdpgdaaDoorLyL
namespace Go.Proofs.YtaimmpcijdpgdaaDoor
open Go.RowKit
set_option linter.unusedVariables false
set_option linter.unusedSimpArgs false
set_option maxHeartbeats 2000000
attribute [local go_sem] later_cell later_frozen later_const
theorem lists_nil (w : World) : ListsV w (.slice none 0 0) [] := ⟨none, 0, rfl, fun j hj => by simp at hj⟩
theorem ckZ : ¬ ckC 0 0 0 0 [] = 0 := by decide
theorem first64_zero (w : World) : Calls Tryd.prog 36 #[(.agg #[.int .i64 0, .int .i64 0, .int .i64 0, .int .i64 0, .int .u64 (0), .slice none 0 0]), .int .i64 0, .int .i64 0] w fun e w' => e = .returned (.int .u64 0) ∧ Ext w w' := by
  have CS := Lib.hid (fun w' => cStart_no 0 0 0 0 0 _ [] w' (lists_nil w') (by simp) (by simp) ckZ)
  go_enter Tryd.func36, Tryd.ntmps36
  go_wp2_with fail
  refine (CS.out _).mono ?_
  rintro e w1 ⟨rfl, hb1⟩
  obtain ⟨hc1, hf1⟩ := hb1.cells
  go_wp2
  go_ret
  refine ⟨rfl, ?_⟩
  repeat (first | with_reducible exact Ext.refl _ | with_reducible assumption | with_reducible refine Ext.alloc ?_ _ | with_reducible refine Ext.drew ?_ | with_reducible refine Ext.drewN ?_ _ | with_reducible refine Ext.setCell ?_ (by simp <;> omega) _ | with_reducible refine Ext.trans ?_ (by assumption))
set_option maxRecDepth 100000 in
theorem lFirst_zero (c : Int) (w : World) : Calls Tryd.prog 15 #[(.agg #[.int .i64 0, .int .i64 0, .int .i64 0, .int .i64 0, .int .u64 0, .slice none 0 0, .int .i64 0, .int .i64 0, .int .i64 0, .int .i64 0, .int .i64 0, .int .i64 0, .int .i64 0, .int .i64 0]), .int .i64 c] w fun e w' => e = .returned (.int .u64 0) ∧ Ext w w' := by
  have CU := fun w => lUse 0 0 0 0 0 none 0 0 0 0 0 0 0 0 0 0 c w (by omega) (by omega) (by omega) (by omega)
  rw [show useL 0 ((0 : Nat) : Int) 0 0 0 0 0 0 0 0 c = (0, 0) by unfold useL; rw [if_pos (by omega)]] at CU
  have HCU := Lib.hid CU
  have CF := Lib.hid (fun w => first64_zero w)
  clear CU
  go_enter Tryd.func15, Tryd.ntmps15
  go_wp2_with fail
  refine (HCU.out _).mono ?_
  rintro e w1 ⟨rfl, hb1⟩
  obtain ⟨hc1, hf1⟩ := hb1.cells
  clear hc1 hf1
  have ql_0 : w1.cell? ⟨w.heap.size, 0, none⟩ = some (.int .i64 0) := (hb1.cells.1 _ _ (by simp <;> omega)).trans (by simp [go_sem])
  have ql_1 : w1.cell? ⟨w.heap.size, 1, none⟩ = some (.int .i64 0) := (hb1.cells.1 _ _ (by simp <;> omega)).trans (by simp [go_sem])
  have ql_2 : w1.cell? ⟨w.heap.size, 2, none⟩ = some (.int .i64 0) := (hb1.cells.1 _ _ (by simp <;> omega)).trans (by simp [go_sem])
  have ql_3 : w1.cell? ⟨w.heap.size, 3, none⟩ = some (.int .i64 0) := (hb1.cells.1 _ _ (by simp <;> omega)).trans (by simp [go_sem])
  have ql_4 : w1.cell? ⟨w.heap.size, 4, none⟩ = some (.int .u64 0) := (hb1.cells.1 _ _ (by simp <;> omega)).trans (by simp [go_sem])
  have ql_5 : w1.cell? ⟨w.heap.size, 5, none⟩ = some (.slice none 0 0) := (hb1.cells.1 _ _ (by simp <;> omega)).trans (by simp [go_sem])
  have ql_6 : w1.cell? ⟨w.heap.size, 6, none⟩ = some (.int .i64 0) := (hb1.cells.1 _ _ (by simp <;> omega)).trans (by simp [go_sem])
  have ql_7 : w1.cell? ⟨w.heap.size, 7, none⟩ = some (.int .i64 0) := (hb1.cells.1 _ _ (by simp <;> omega)).trans (by simp [go_sem])
  have ql_8 : w1.cell? ⟨w.heap.size, 8, none⟩ = some (.int .i64 0) := (hb1.cells.1 _ _ (by simp <;> omega)).trans (by simp [go_sem])
  have ql_9 : w1.cell? ⟨w.heap.size, 9, none⟩ = some (.int .i64 0) := (hb1.cells.1 _ _ (by simp <;> omega)).trans (by simp [go_sem])
  have ql_10 : w1.cell? ⟨w.heap.size, 10, none⟩ = some (.int .i64 0) := (hb1.cells.1 _ _ (by simp <;> omega)).trans (by simp [go_sem])
  have ql_11 : w1.cell? ⟨w.heap.size, 11, none⟩ = some (.int .i64 0) := (hb1.cells.1 _ _ (by simp <;> omega)).trans (by simp [go_sem])
  have ql_12 : w1.cell? ⟨w.heap.size, 12, none⟩ = some (.int .i64 0) := (hb1.cells.1 _ _ (by simp <;> omega)).trans (by simp [go_sem])
  have ql_13 : w1.cell? ⟨w.heap.size, 13, none⟩ = some (.int .i64 0) := (hb1.cells.1 _ _ (by simp <;> omega)).trans (by simp [go_sem])
  have pl := World.block_lt_of_cell? _ ⟨w.heap.size, 0, none⟩ ql_0
  have rl := Nat.lt_succ_of_lt pl
  go_wp2_with fail
  refine (CF.out _).mono ?_
  rintro e w2 ⟨rfl, hb2⟩
  have hx2 : Ext w1 w2 := by repeat (first | with_reducible exact Ext.refl _ | with_reducible assumption | with_reducible refine Ext.alloc ?_ _ | with_reducible refine Ext.drew ?_ | with_reducible refine Ext.drewN ?_ _ | with_reducible refine Ext.setCell ?_ (by simp <;> omega) _ | with_reducible refine Ext.trans ?_ (by assumption))
  replace ql_0 := hx2.cell ql_0
  replace ql_1 := hx2.cell ql_1
  replace ql_2 := hx2.cell ql_2
  replace ql_3 := hx2.cell ql_3
  replace ql_4 := hx2.cell ql_4
  replace ql_5 := hx2.cell ql_5
  replace ql_6 := hx2.cell ql_6
  replace ql_7 := hx2.cell ql_7
  replace ql_8 := hx2.cell ql_8
  replace ql_9 := hx2.cell ql_9
  replace ql_10 := hx2.cell ql_10
  replace ql_11 := hx2.cell ql_11
  replace ql_12 := hx2.cell ql_12
  replace ql_13 := hx2.cell ql_13
  replace pl := Nat.lt_of_lt_of_le pl hx2.size
  replace rl := Nat.lt_succ_of_lt pl
  clear hx2
  go_wp2
  go_ret
  refine ⟨rfl, ?_⟩
  repeat (first | with_reducible exact Ext.refl _ | with_reducible assumption | with_reducible refine Ext.alloc ?_ _ | with_reducible refine Ext.drew ?_ | with_reducible refine Ext.drewN ?_ _ | with_reducible refine Ext.setCell ?_ (by simp <;> omega) _ | with_reducible refine Ext.trans ?_ (by assumption))
theorem lKind_zero (c : Int) (w : World) (E : Parts w) : Calls Tryd.prog 11 #[(.agg #[.int .i64 0, .int .i64 0, .int .i64 0, .int .i64 0, .int .u64 0, .slice none 0 0, .int .i64 0, .int .i64 0, .int .i64 0, .int .i64 0, .int .i64 0, .int .i64 0, .int .i64 0, .int .i64 0]), .int .i64 c] w fun e w' => e = .returned (.int .i64 0) ∧ Ext w w' := by
  have := lKind 0 0 0 0 0 none 0 0 0 0 0 0 0 0 0 0 c w (by omega) (by omega) (by omega) (by omega) E
  rw [show useL 0 ((0 : Nat) : Int) 0 0 0 0 0 0 0 0 c = (0, 0) by unfold useL; rw [if_pos (by omega)]] at this
  exact this
set_option maxRecDepth 100000 in
theorem layoutNone_walk (i : Int) (s : ByteArray) (w : World) (wi : (Lit.int .i64 i).wf = true) (ws : s.size ≤ maxLen) (E : LEnv w) :
    Calls Tryd.prog 6 #[.int .i64 i, .string s] w fun e w' => e = .returned (.bool true) ∧ Below w.heap.size w w' := by
  clear ws wi
  have c1 := fun w => lFind 0 0 0 0 0 none 0 0 0 0 0 0 0 0 0 0 s (fun _ => ⟨#[]⟩) w (by omega) (fun c hc => by omega)
  have C1 : Hid (∀ w, Calls Tryd.prog 23 #[(.agg #[.int .i64 0, .int .i64 0, .int .i64 0, .int .i64 0, .int .u64 0, .slice none 0 0, .int .i64 0, .int .i64 0, .int .i64 0, .int .i64 0, .int .i64 0, .int .i64 0, .int .i64 0, .int .i64 0]), .string s] w fun e w' => e = .returned (.tuple #[.int .i64 0, .bool false]) ∧ Ext w w') := Lib.hid (fun w => (c1 w).mono fun e w' h => by
    obtain ⟨h1, h2⟩ := h
    exact ⟨by rw [h1]; rfl, h2⟩)
  have c2 := fun w => lGate 0 0 0 0 0 none 0 0 0 0 0 0 0 0 0 0 i w (by omega)
  have c3 := fun w => lMark 0 0 0 0 0 none 0 0 0 0 0 0 0 0 0 0 i w (by omega) (by omega) (by omega)
  have c4 := fun w => lSlot 0 0 0 0 0 none 0 0 0 0 0 0 0 0 0 0 i w (by omega) (by omega) (by omega)
  rw [show plc 0 ((0 : Nat) : Int) i = -1 by unfold plc; rw [if_pos (by omega)]] at c2
  rw [show plc 0 0 i = -1 by unfold plc; rw [if_pos (by omega)]] at c3 c4
  have c7 := fun w' (hx : Ext w w') => lName 0 0 0 0 0 none 0 0 0 0 0 0 0 0 0 0 i 0 0 w' (by omega) (by omega) (by omega) (by omega) (by unfold useL; rw [if_pos (by omega)]; rfl) (by omega) (by omega) (by omega) (E.ext hx)
  rw [show nmOf 0 0 = ⟨#[]⟩ from rfl] at c7
  have C2 := Lib.hid c2
  have C3 := Lib.hid c3
  have C4 := Lib.hid c4
  have C5 := Lib.hid (fun w' (hx : Ext w w') => lKind_zero i w' (E.parts.ext hx))
  have C6 := Lib.hid (fun w' => lFirst_zero i w')
  have C7 := Lib.hid c7
  have C8 := Lib.hid (fun w' (hx : Ext w w') => live11 w' (E.ext hx))
  clear c1 c2 c3 c4 c7 E
  go_enter Tryd.func6, Tryd.ntmps6
  go_wp2_with fail
  refine (C1.out _).mono ?_
  rintro e w1 ⟨rfl, hb1⟩
  obtain ⟨hc1, hf1⟩ := hb1.cells
  clear hc1 hf1
  have ql_0 : w1.cell? ⟨w.heap.size, 0, none⟩ = some (.int .i64 0) := (hb1.cells.1 _ _ (by simp <;> omega)).trans (by simp [go_sem])
  have ql_1 : w1.cell? ⟨w.heap.size, 1, none⟩ = some (.int .i64 0) := (hb1.cells.1 _ _ (by simp <;> omega)).trans (by simp [go_sem])
  have ql_2 : w1.cell? ⟨w.heap.size, 2, none⟩ = some (.int .i64 0) := (hb1.cells.1 _ _ (by simp <;> omega)).trans (by simp [go_sem])
  have ql_3 : w1.cell? ⟨w.heap.size, 3, none⟩ = some (.int .i64 0) := (hb1.cells.1 _ _ (by simp <;> omega)).trans (by simp [go_sem])
  have ql_4 : w1.cell? ⟨w.heap.size, 4, none⟩ = some (.int .u64 0) := (hb1.cells.1 _ _ (by simp <;> omega)).trans (by simp [go_sem])
  have ql_5 : w1.cell? ⟨w.heap.size, 5, none⟩ = some (.slice none 0 0) := (hb1.cells.1 _ _ (by simp <;> omega)).trans (by simp [go_sem])
  have ql_6 : w1.cell? ⟨w.heap.size, 6, none⟩ = some (.int .i64 0) := (hb1.cells.1 _ _ (by simp <;> omega)).trans (by simp [go_sem])
  have ql_7 : w1.cell? ⟨w.heap.size, 7, none⟩ = some (.int .i64 0) := (hb1.cells.1 _ _ (by simp <;> omega)).trans (by simp [go_sem])
  have ql_8 : w1.cell? ⟨w.heap.size, 8, none⟩ = some (.int .i64 0) := (hb1.cells.1 _ _ (by simp <;> omega)).trans (by simp [go_sem])
  have ql_9 : w1.cell? ⟨w.heap.size, 9, none⟩ = some (.int .i64 0) := (hb1.cells.1 _ _ (by simp <;> omega)).trans (by simp [go_sem])
  have ql_10 : w1.cell? ⟨w.heap.size, 10, none⟩ = some (.int .i64 0) := (hb1.cells.1 _ _ (by simp <;> omega)).trans (by simp [go_sem])
  have ql_11 : w1.cell? ⟨w.heap.size, 11, none⟩ = some (.int .i64 0) := (hb1.cells.1 _ _ (by simp <;> omega)).trans (by simp [go_sem])
  have ql_12 : w1.cell? ⟨w.heap.size, 12, none⟩ = some (.int .i64 0) := (hb1.cells.1 _ _ (by simp <;> omega)).trans (by simp [go_sem])
  have ql_13 : w1.cell? ⟨w.heap.size, 13, none⟩ = some (.int .i64 0) := (hb1.cells.1 _ _ (by simp <;> omega)).trans (by simp [go_sem])
  have pl := World.block_lt_of_cell? _ ⟨w.heap.size, 0, none⟩ ql_0
  have rl := Nat.lt_succ_of_lt pl
  go_wp2_with fail
  refine (C2.out _).mono ?_
  rintro e w2 ⟨rfl, hb2⟩
  have hx2 : Ext w1 w2 := by repeat (first | with_reducible exact Ext.refl _ | with_reducible assumption | with_reducible refine Ext.alloc ?_ _ | with_reducible refine Ext.drew ?_ | with_reducible refine Ext.drewN ?_ _ | with_reducible refine Ext.setCell ?_ (by simp <;> omega) _ | with_reducible refine Ext.trans ?_ (by assumption))
  replace ql_0 := hx2.cell ql_0
  replace ql_1 := hx2.cell ql_1
  replace ql_2 := hx2.cell ql_2
  replace ql_3 := hx2.cell ql_3
  replace ql_4 := hx2.cell ql_4
  replace ql_5 := hx2.cell ql_5
  replace ql_6 := hx2.cell ql_6
  replace ql_7 := hx2.cell ql_7
  replace ql_8 := hx2.cell ql_8
  replace ql_9 := hx2.cell ql_9
  replace ql_10 := hx2.cell ql_10
  replace ql_11 := hx2.cell ql_11
  replace ql_12 := hx2.cell ql_12
  replace ql_13 := hx2.cell ql_13
  replace pl := Nat.lt_of_lt_of_le pl hx2.size
  replace rl := Nat.lt_succ_of_lt pl
  clear hx2
  go_wp2_with fail
  refine (C3.out _).mono ?_
  rintro e w3 ⟨rfl, hb3⟩
  have hx3 : Ext w2 w3 := by repeat (first | with_reducible exact Ext.refl _ | with_reducible assumption | with_reducible refine Ext.alloc ?_ _ | with_reducible refine Ext.drew ?_ | with_reducible refine Ext.drewN ?_ _ | with_reducible refine Ext.setCell ?_ (by simp <;> omega) _ | with_reducible refine Ext.trans ?_ (by assumption))
  replace ql_0 := hx3.cell ql_0
  replace ql_1 := hx3.cell ql_1
  replace ql_2 := hx3.cell ql_2
  replace ql_3 := hx3.cell ql_3
  replace ql_4 := hx3.cell ql_4
  replace ql_5 := hx3.cell ql_5
  replace ql_6 := hx3.cell ql_6
  replace ql_7 := hx3.cell ql_7
  replace ql_8 := hx3.cell ql_8
  replace ql_9 := hx3.cell ql_9
  replace ql_10 := hx3.cell ql_10
  replace ql_11 := hx3.cell ql_11
  replace ql_12 := hx3.cell ql_12
  replace ql_13 := hx3.cell ql_13
  replace pl := Nat.lt_of_lt_of_le pl hx3.size
  replace rl := Nat.lt_succ_of_lt pl
  clear hx3
  go_wp2_with fail
  refine (C4.out _).mono ?_
  rintro e w4 ⟨rfl, hb4⟩
  have hx4 : Ext w3 w4 := by repeat (first | with_reducible exact Ext.refl _ | with_reducible assumption | with_reducible refine Ext.alloc ?_ _ | with_reducible refine Ext.drew ?_ | with_reducible refine Ext.drewN ?_ _ | with_reducible refine Ext.setCell ?_ (by simp <;> omega) _ | with_reducible refine Ext.trans ?_ (by assumption))
  replace ql_0 := hx4.cell ql_0
  replace ql_1 := hx4.cell ql_1
  replace ql_2 := hx4.cell ql_2
  replace ql_3 := hx4.cell ql_3
  replace ql_4 := hx4.cell ql_4
  replace ql_5 := hx4.cell ql_5
  replace ql_6 := hx4.cell ql_6
  replace ql_7 := hx4.cell ql_7
  replace ql_8 := hx4.cell ql_8
  replace ql_9 := hx4.cell ql_9
  replace ql_10 := hx4.cell ql_10
  replace ql_11 := hx4.cell ql_11
  replace ql_12 := hx4.cell ql_12
  replace ql_13 := hx4.cell ql_13
  replace pl := Nat.lt_of_lt_of_le pl hx4.size
  replace rl := Nat.lt_succ_of_lt pl
  clear hx4
  go_wp2_with fail
  refine (C5.out _ (by repeat (first | with_reducible exact Ext.refl _ | with_reducible assumption | with_reducible refine Ext.alloc ?_ _ | with_reducible refine Ext.drew ?_ | with_reducible refine Ext.drewN ?_ _ | with_reducible refine Ext.setCell ?_ (by simp <;> omega) _ | with_reducible refine Ext.trans ?_ (by assumption)))).mono ?_
  rintro e w5 ⟨rfl, hb5⟩
  have hx5 : Ext w4 w5 := by repeat (first | with_reducible exact Ext.refl _ | with_reducible assumption | with_reducible refine Ext.alloc ?_ _ | with_reducible refine Ext.drew ?_ | with_reducible refine Ext.drewN ?_ _ | with_reducible refine Ext.setCell ?_ (by simp <;> omega) _ | with_reducible refine Ext.trans ?_ (by assumption))
  replace ql_0 := hx5.cell ql_0
  replace ql_1 := hx5.cell ql_1
  replace ql_2 := hx5.cell ql_2
  replace ql_3 := hx5.cell ql_3
  replace ql_4 := hx5.cell ql_4
  replace ql_5 := hx5.cell ql_5
  replace ql_6 := hx5.cell ql_6
  replace ql_7 := hx5.cell ql_7
  replace ql_8 := hx5.cell ql_8
  replace ql_9 := hx5.cell ql_9
  replace ql_10 := hx5.cell ql_10
  replace ql_11 := hx5.cell ql_11
  replace ql_12 := hx5.cell ql_12
  replace ql_13 := hx5.cell ql_13
  replace pl := Nat.lt_of_lt_of_le pl hx5.size
  replace rl := Nat.lt_succ_of_lt pl
  clear hx5
  go_wp2_with fail
  refine (C6.out _).mono ?_
  rintro e w6 ⟨rfl, hb6⟩
  have hx6 : Ext w5 w6 := by repeat (first | with_reducible exact Ext.refl _ | with_reducible assumption | with_reducible refine Ext.alloc ?_ _ | with_reducible refine Ext.drew ?_ | with_reducible refine Ext.drewN ?_ _ | with_reducible refine Ext.setCell ?_ (by simp <;> omega) _ | with_reducible refine Ext.trans ?_ (by assumption))
  replace ql_0 := hx6.cell ql_0
  replace ql_1 := hx6.cell ql_1
  replace ql_2 := hx6.cell ql_2
  replace ql_3 := hx6.cell ql_3
  replace ql_4 := hx6.cell ql_4
  replace ql_5 := hx6.cell ql_5
  replace ql_6 := hx6.cell ql_6
  replace ql_7 := hx6.cell ql_7
  replace ql_8 := hx6.cell ql_8
  replace ql_9 := hx6.cell ql_9
  replace ql_10 := hx6.cell ql_10
  replace ql_11 := hx6.cell ql_11
  replace ql_12 := hx6.cell ql_12
  replace ql_13 := hx6.cell ql_13
  replace pl := Nat.lt_of_lt_of_le pl hx6.size
  replace rl := Nat.lt_succ_of_lt pl
  clear hx6
  go_wp2_with fail
  refine (C7.out _ (by repeat (first | with_reducible exact Ext.refl _ | with_reducible assumption | with_reducible refine Ext.alloc ?_ _ | with_reducible refine Ext.drew ?_ | with_reducible refine Ext.drewN ?_ _ | with_reducible refine Ext.setCell ?_ (by simp <;> omega) _ | with_reducible refine Ext.trans ?_ (by assumption)))).mono ?_
  rintro e w7 ⟨rfl, hb7⟩
  have hx7 : Ext w6 w7 := by repeat (first | with_reducible exact Ext.refl _ | with_reducible assumption | with_reducible refine Ext.alloc ?_ _ | with_reducible refine Ext.drew ?_ | with_reducible refine Ext.drewN ?_ _ | with_reducible refine Ext.setCell ?_ (by simp <;> omega) _ | with_reducible refine Ext.trans ?_ (by assumption))
  replace ql_0 := hx7.cell ql_0
  replace ql_1 := hx7.cell ql_1
  replace ql_2 := hx7.cell ql_2
  replace ql_3 := hx7.cell ql_3
  replace ql_4 := hx7.cell ql_4
  replace ql_5 := hx7.cell ql_5
  replace ql_6 := hx7.cell ql_6
  replace ql_7 := hx7.cell ql_7
  replace ql_8 := hx7.cell ql_8
  replace ql_9 := hx7.cell ql_9
  replace ql_10 := hx7.cell ql_10
  replace ql_11 := hx7.cell ql_11
  replace ql_12 := hx7.cell ql_12
  replace ql_13 := hx7.cell ql_13
  replace pl := Nat.lt_of_lt_of_le pl hx7.size
  replace rl := Nat.lt_succ_of_lt pl
  clear hx7
  go_wp2_with fail
  refine (C8.out _ (by repeat (first | with_reducible exact Ext.refl _ | with_reducible assumption | with_reducible refine Ext.alloc ?_ _ | with_reducible refine Ext.drew ?_ | with_reducible refine Ext.drewN ?_ _ | with_reducible refine Ext.setCell ?_ (by simp <;> omega) _ | with_reducible refine Ext.trans ?_ (by assumption)))).mono ?_
  rintro e w8 ⟨rfl, hb8⟩
  have hx8 : Ext w7 w8 := by repeat (first | with_reducible exact Ext.refl _ | with_reducible assumption | with_reducible refine Ext.alloc ?_ _ | with_reducible refine Ext.drew ?_ | with_reducible refine Ext.drewN ?_ _ | with_reducible refine Ext.setCell ?_ (by simp <;> omega) _ | with_reducible refine Ext.trans ?_ (by assumption))
  replace ql_0 := hx8.cell ql_0
  replace ql_1 := hx8.cell ql_1
  replace ql_2 := hx8.cell ql_2
  replace ql_3 := hx8.cell ql_3
  replace ql_4 := hx8.cell ql_4
  replace ql_5 := hx8.cell ql_5
  replace ql_6 := hx8.cell ql_6
  replace ql_7 := hx8.cell ql_7
  replace ql_8 := hx8.cell ql_8
  replace ql_9 := hx8.cell ql_9
  replace ql_10 := hx8.cell ql_10
  replace ql_11 := hx8.cell ql_11
  replace ql_12 := hx8.cell ql_12
  replace ql_13 := hx8.cell ql_13
  replace pl := Nat.lt_of_lt_of_le pl hx8.size
  replace rl := Nat.lt_succ_of_lt pl
  clear hx8
  go_wp2
  go_ret
  refine ⟨rfl, Ext.below ?_⟩
  repeat (first | with_reducible exact Ext.refl _ | with_reducible assumption | with_reducible refine Ext.alloc ?_ _ | with_reducible refine Ext.drew ?_ | with_reducible refine Ext.drewN ?_ _ | with_reducible refine Ext.setCell ?_ (by simp <;> omega) _ | with_reducible refine Ext.trans ?_ (by assumption))
end Go.Proofs.YtaimmpcijdpgdaaDoor

/- event.goesOn and Merge. -/
import Derived.Test.YtkbbneknblnbnaaEvM
import Derived.Test.YtkbbneknblnbnaaEv3
import Derived.Test.YtkbbneknblnbnaaWide
import Derived.Test.YtkbbneknblnbnaaEvS
namespace Go.Proofs.Ytkbbneknblnbnaa
open Go.RowKit
set_option linter.unusedVariables false
set_option linter.unusedSimpArgs false
set_option maxHeartbeats 4000000
attribute [local go_sem] later_cell later_frozen later_const
theorem goes_A (W k t o n p c k' t' o' n' p' c' : Int) (u v : Value) (w : World) (e0 : (k == 5) = false) : Calls Try.prog 44 #[.int .i64 W, .agg #[.int .i64 k, .int .i64 t, .int .i64 o, .int .i64 n, .int .u64 p, .int .i64 c, u], .agg #[.int .i64 k', .int .i64 t', .int .i64 o', .int .i64 n', .int .u64 p', .int .i64 c', v]] w fun e w' => e = .returned (.bool false) ∧ Ext w w' := by
  go_enter Try.func44, Try.ntmps44
  go_wp2
  refine settle_wp ?_
  intro w1 hb1
  have qx_0 : w1.cell? ⟨w.heap.size, 0, none⟩ = some (.int .i64 k) := (hb1.cells.1 _ _ (by simp <;> omega)).trans (by simp [go_sem])
  have qx_1 : w1.cell? ⟨w.heap.size, 1, none⟩ = some (.int .i64 t) := (hb1.cells.1 _ _ (by simp <;> omega)).trans (by simp [go_sem])
  have qx_2 : w1.cell? ⟨w.heap.size, 2, none⟩ = some (.int .i64 o) := (hb1.cells.1 _ _ (by simp <;> omega)).trans (by simp [go_sem])
  have qx_3 : w1.cell? ⟨w.heap.size, 3, none⟩ = some (.int .i64 n) := (hb1.cells.1 _ _ (by simp <;> omega)).trans (by simp [go_sem])
  have qx_4 : w1.cell? ⟨w.heap.size, 4, none⟩ = some (.int .u64 p) := (hb1.cells.1 _ _ (by simp <;> omega)).trans (by simp [go_sem])
  have qx_5 : w1.cell? ⟨w.heap.size, 5, none⟩ = some (.int .i64 c) := (hb1.cells.1 _ _ (by simp <;> omega)).trans (by simp [go_sem])
  have qx_6 : w1.cell? ⟨w.heap.size, 6, none⟩ = some (u) := (hb1.cells.1 _ _ (by simp <;> omega)).trans (by simp [go_sem])
  have px := World.block_lt_of_cell? _ ⟨w.heap.size, 0, none⟩ qx_0
  have rx := Nat.lt_succ_of_lt px
  have qy_0 : w1.cell? ⟨w.heap.size + 1, 0, none⟩ = some (.int .i64 k') := (hb1.cells.1 _ _ (by simp <;> omega)).trans (by simp [go_sem])
  have qy_1 : w1.cell? ⟨w.heap.size + 1, 1, none⟩ = some (.int .i64 t') := (hb1.cells.1 _ _ (by simp <;> omega)).trans (by simp [go_sem])
  have qy_2 : w1.cell? ⟨w.heap.size + 1, 2, none⟩ = some (.int .i64 o') := (hb1.cells.1 _ _ (by simp <;> omega)).trans (by simp [go_sem])
  have qy_3 : w1.cell? ⟨w.heap.size + 1, 3, none⟩ = some (.int .i64 n') := (hb1.cells.1 _ _ (by simp <;> omega)).trans (by simp [go_sem])
  have qy_4 : w1.cell? ⟨w.heap.size + 1, 4, none⟩ = some (.int .u64 p') := (hb1.cells.1 _ _ (by simp <;> omega)).trans (by simp [go_sem])
  have qy_5 : w1.cell? ⟨w.heap.size + 1, 5, none⟩ = some (.int .i64 c') := (hb1.cells.1 _ _ (by simp <;> omega)).trans (by simp [go_sem])
  have qy_6 : w1.cell? ⟨w.heap.size + 1, 6, none⟩ = some (v) := (hb1.cells.1 _ _ (by simp <;> omega)).trans (by simp [go_sem])
  have py := World.block_lt_of_cell? _ ⟨w.heap.size + 1, 0, none⟩ qy_0
  have ry := Nat.lt_succ_of_lt py
  have E1 : Ext w w1 := by repeat (first | with_reducible exact Ext.refl _ | with_reducible assumption | with_reducible refine Ext.alloc ?_ _ | with_reducible refine Ext.drew ?_ | with_reducible refine Ext.drewN ?_ _ | with_reducible refine Ext.setCell ?_ (by simp <;> omega) _ | with_reducible refine Ext.trans ?_ (by assumption))
  go_wp2
  refine wp_region_later (by kernel_rfl) (by kernel_rfl) ?_
  have lx_0 := fun (g : Later w1) => g.ok.cell qx_0
  have lx_1 := fun (g : Later w1) => g.ok.cell qx_1
  have lx_2 := fun (g : Later w1) => g.ok.cell qx_2
  have lx_3 := fun (g : Later w1) => g.ok.cell qx_3
  have lx_4 := fun (g : Later w1) => g.ok.cell qx_4
  have lx_5 := fun (g : Later w1) => g.ok.cell qx_5
  have lx_6 := fun (g : Later w1) => g.ok.cell qx_6
  have ly_0 := fun (g : Later w1) => g.ok.cell qy_0
  have ly_1 := fun (g : Later w1) => g.ok.cell qy_1
  have ly_2 := fun (g : Later w1) => g.ok.cell qy_2
  have ly_3 := fun (g : Later w1) => g.ok.cell qy_3
  have ly_4 := fun (g : Later w1) => g.ok.cell qy_4
  have ly_5 := fun (g : Later w1) => g.ok.cell qy_5
  have ly_6 := fun (g : Later w1) => g.ok.cell qy_6
  repeat (go_big_quiet_step ((fail)))
  refine wpQuiet_nil ?_
  intro w2 hl2
  have hb2 := laters_ext hl2
  clear hl2 lx_0 lx_1 lx_2 lx_3 lx_4 lx_5 lx_6 ly_0 ly_1 ly_2 ly_3 ly_4 ly_5 ly_6
  have hx2 : Ext w1 w2 := by repeat (first | with_reducible exact Ext.refl _ | with_reducible assumption | with_reducible refine Ext.alloc ?_ _ | with_reducible refine Ext.drew ?_ | with_reducible refine Ext.drewN ?_ _ | with_reducible refine Ext.setCell ?_ (by simp <;> omega) _ | with_reducible refine Ext.trans ?_ (by assumption))
  replace qx_0 := hx2.cell qx_0
  replace qx_1 := hx2.cell qx_1
  replace qx_2 := hx2.cell qx_2
  replace qx_3 := hx2.cell qx_3
  replace qx_4 := hx2.cell qx_4
  replace qx_5 := hx2.cell qx_5
  replace qx_6 := hx2.cell qx_6
  replace px := Nat.lt_of_lt_of_le px hx2.size
  replace rx := Nat.lt_succ_of_lt px
  replace qy_0 := hx2.cell qy_0
  replace qy_1 := hx2.cell qy_1
  replace qy_2 := hx2.cell qy_2
  replace qy_3 := hx2.cell qy_3
  replace qy_4 := hx2.cell qy_4
  replace qy_5 := hx2.cell qy_5
  replace qy_6 := hx2.cell qy_6
  replace py := Nat.lt_of_lt_of_le py hx2.size
  replace ry := Nat.lt_succ_of_lt py
  clear hx2
  have E2 := E1.trans hb2
  clear E1 hb2
  go_wp2
  go_ret
  exact ⟨rfl, E2⟩
theorem goes_B (W t o n p c k' t' o' n' p' c' : Int) (u v : Value) (w : World) (e0 : (k' == 5) = false) : Calls Try.prog 44 #[.int .i64 W, .agg #[.int .i64 5, .int .i64 t, .int .i64 o, .int .i64 n, .int .u64 p, .int .i64 c, u], .agg #[.int .i64 k', .int .i64 t', .int .i64 o', .int .i64 n', .int .u64 p', .int .i64 c', v]] w fun e w' => e = .returned (.bool false) ∧ Ext w w' := by
  go_enter Try.func44, Try.ntmps44
  go_wp2
  refine settle_wp ?_
  intro w1 hb1
  have qx_0 : w1.cell? ⟨w.heap.size, 0, none⟩ = some (.int .i64 5) := (hb1.cells.1 _ _ (by simp <;> omega)).trans (by simp [go_sem])
  have qx_1 : w1.cell? ⟨w.heap.size, 1, none⟩ = some (.int .i64 t) := (hb1.cells.1 _ _ (by simp <;> omega)).trans (by simp [go_sem])
  have qx_2 : w1.cell? ⟨w.heap.size, 2, none⟩ = some (.int .i64 o) := (hb1.cells.1 _ _ (by simp <;> omega)).trans (by simp [go_sem])
  have qx_3 : w1.cell? ⟨w.heap.size, 3, none⟩ = some (.int .i64 n) := (hb1.cells.1 _ _ (by simp <;> omega)).trans (by simp [go_sem])
  have qx_4 : w1.cell? ⟨w.heap.size, 4, none⟩ = some (.int .u64 p) := (hb1.cells.1 _ _ (by simp <;> omega)).trans (by simp [go_sem])
  have qx_5 : w1.cell? ⟨w.heap.size, 5, none⟩ = some (.int .i64 c) := (hb1.cells.1 _ _ (by simp <;> omega)).trans (by simp [go_sem])
  have qx_6 : w1.cell? ⟨w.heap.size, 6, none⟩ = some (u) := (hb1.cells.1 _ _ (by simp <;> omega)).trans (by simp [go_sem])
  have px := World.block_lt_of_cell? _ ⟨w.heap.size, 0, none⟩ qx_0
  have rx := Nat.lt_succ_of_lt px
  have qy_0 : w1.cell? ⟨w.heap.size + 1, 0, none⟩ = some (.int .i64 k') := (hb1.cells.1 _ _ (by simp <;> omega)).trans (by simp [go_sem])
  have qy_1 : w1.cell? ⟨w.heap.size + 1, 1, none⟩ = some (.int .i64 t') := (hb1.cells.1 _ _ (by simp <;> omega)).trans (by simp [go_sem])
  have qy_2 : w1.cell? ⟨w.heap.size + 1, 2, none⟩ = some (.int .i64 o') := (hb1.cells.1 _ _ (by simp <;> omega)).trans (by simp [go_sem])
  have qy_3 : w1.cell? ⟨w.heap.size + 1, 3, none⟩ = some (.int .i64 n') := (hb1.cells.1 _ _ (by simp <;> omega)).trans (by simp [go_sem])
  have qy_4 : w1.cell? ⟨w.heap.size + 1, 4, none⟩ = some (.int .u64 p') := (hb1.cells.1 _ _ (by simp <;> omega)).trans (by simp [go_sem])
  have qy_5 : w1.cell? ⟨w.heap.size + 1, 5, none⟩ = some (.int .i64 c') := (hb1.cells.1 _ _ (by simp <;> omega)).trans (by simp [go_sem])
  have qy_6 : w1.cell? ⟨w.heap.size + 1, 6, none⟩ = some (v) := (hb1.cells.1 _ _ (by simp <;> omega)).trans (by simp [go_sem])
  have py := World.block_lt_of_cell? _ ⟨w.heap.size + 1, 0, none⟩ qy_0
  have ry := Nat.lt_succ_of_lt py
  have E1 : Ext w w1 := by repeat (first | with_reducible exact Ext.refl _ | with_reducible assumption | with_reducible refine Ext.alloc ?_ _ | with_reducible refine Ext.drew ?_ | with_reducible refine Ext.drewN ?_ _ | with_reducible refine Ext.setCell ?_ (by simp <;> omega) _ | with_reducible refine Ext.trans ?_ (by assumption))
  go_wp2
  refine wp_region_later (by kernel_rfl) (by kernel_rfl) ?_
  have lx_0 := fun (g : Later w1) => g.ok.cell qx_0
  have lx_1 := fun (g : Later w1) => g.ok.cell qx_1
  have lx_2 := fun (g : Later w1) => g.ok.cell qx_2
  have lx_3 := fun (g : Later w1) => g.ok.cell qx_3
  have lx_4 := fun (g : Later w1) => g.ok.cell qx_4
  have lx_5 := fun (g : Later w1) => g.ok.cell qx_5
  have lx_6 := fun (g : Later w1) => g.ok.cell qx_6
  have ly_0 := fun (g : Later w1) => g.ok.cell qy_0
  have ly_1 := fun (g : Later w1) => g.ok.cell qy_1
  have ly_2 := fun (g : Later w1) => g.ok.cell qy_2
  have ly_3 := fun (g : Later w1) => g.ok.cell qy_3
  have ly_4 := fun (g : Later w1) => g.ok.cell qy_4
  have ly_5 := fun (g : Later w1) => g.ok.cell qy_5
  have ly_6 := fun (g : Later w1) => g.ok.cell qy_6
  repeat (go_big_quiet_step ((fail)))
  refine wpQuiet_nil ?_
  intro w2 hl2
  have hb2 := laters_ext hl2
  clear hl2 lx_0 lx_1 lx_2 lx_3 lx_4 lx_5 lx_6 ly_0 ly_1 ly_2 ly_3 ly_4 ly_5 ly_6
  have hx2 : Ext w1 w2 := by repeat (first | with_reducible exact Ext.refl _ | with_reducible assumption | with_reducible refine Ext.alloc ?_ _ | with_reducible refine Ext.drew ?_ | with_reducible refine Ext.drewN ?_ _ | with_reducible refine Ext.setCell ?_ (by simp <;> omega) _ | with_reducible refine Ext.trans ?_ (by assumption))
  replace qx_0 := hx2.cell qx_0
  replace qx_1 := hx2.cell qx_1
  replace qx_2 := hx2.cell qx_2
  replace qx_3 := hx2.cell qx_3
  replace qx_4 := hx2.cell qx_4
  replace qx_5 := hx2.cell qx_5
  replace qx_6 := hx2.cell qx_6
  replace px := Nat.lt_of_lt_of_le px hx2.size
  replace rx := Nat.lt_succ_of_lt px
  replace qy_0 := hx2.cell qy_0
  replace qy_1 := hx2.cell qy_1
  replace qy_2 := hx2.cell qy_2
  replace qy_3 := hx2.cell qy_3
  replace qy_4 := hx2.cell qy_4
  replace qy_5 := hx2.cell qy_5
  replace qy_6 := hx2.cell qy_6
  replace py := Nat.lt_of_lt_of_le py hx2.size
  replace ry := Nat.lt_succ_of_lt py
  clear hx2
  have E2 := E1.trans hb2
  clear E1 hb2
  go_wp2
  go_ret
  exact ⟨rfl, E2⟩
theorem goes_C (W t o n p c t' o' n' p' c' : Int) (u v : Value) (w : World) (e0 : (t == t') = false) : Calls Try.prog 44 #[.int .i64 W, .agg #[.int .i64 5, .int .i64 t, .int .i64 o, .int .i64 n, .int .u64 p, .int .i64 c, u], .agg #[.int .i64 5, .int .i64 t', .int .i64 o', .int .i64 n', .int .u64 p', .int .i64 c', v]] w fun e w' => e = .returned (.bool false) ∧ Ext w w' := by
  go_enter Try.func44, Try.ntmps44
  go_wp2
  refine settle_wp ?_
  intro w1 hb1
  have qx_0 : w1.cell? ⟨w.heap.size, 0, none⟩ = some (.int .i64 5) := (hb1.cells.1 _ _ (by simp <;> omega)).trans (by simp [go_sem])
  have qx_1 : w1.cell? ⟨w.heap.size, 1, none⟩ = some (.int .i64 t) := (hb1.cells.1 _ _ (by simp <;> omega)).trans (by simp [go_sem])
  have qx_2 : w1.cell? ⟨w.heap.size, 2, none⟩ = some (.int .i64 o) := (hb1.cells.1 _ _ (by simp <;> omega)).trans (by simp [go_sem])
  have qx_3 : w1.cell? ⟨w.heap.size, 3, none⟩ = some (.int .i64 n) := (hb1.cells.1 _ _ (by simp <;> omega)).trans (by simp [go_sem])
  have qx_4 : w1.cell? ⟨w.heap.size, 4, none⟩ = some (.int .u64 p) := (hb1.cells.1 _ _ (by simp <;> omega)).trans (by simp [go_sem])
  have qx_5 : w1.cell? ⟨w.heap.size, 5, none⟩ = some (.int .i64 c) := (hb1.cells.1 _ _ (by simp <;> omega)).trans (by simp [go_sem])
  have qx_6 : w1.cell? ⟨w.heap.size, 6, none⟩ = some (u) := (hb1.cells.1 _ _ (by simp <;> omega)).trans (by simp [go_sem])
  have px := World.block_lt_of_cell? _ ⟨w.heap.size, 0, none⟩ qx_0
  have rx := Nat.lt_succ_of_lt px
  have qy_0 : w1.cell? ⟨w.heap.size + 1, 0, none⟩ = some (.int .i64 5) := (hb1.cells.1 _ _ (by simp <;> omega)).trans (by simp [go_sem])
  have qy_1 : w1.cell? ⟨w.heap.size + 1, 1, none⟩ = some (.int .i64 t') := (hb1.cells.1 _ _ (by simp <;> omega)).trans (by simp [go_sem])
  have qy_2 : w1.cell? ⟨w.heap.size + 1, 2, none⟩ = some (.int .i64 o') := (hb1.cells.1 _ _ (by simp <;> omega)).trans (by simp [go_sem])
  have qy_3 : w1.cell? ⟨w.heap.size + 1, 3, none⟩ = some (.int .i64 n') := (hb1.cells.1 _ _ (by simp <;> omega)).trans (by simp [go_sem])
  have qy_4 : w1.cell? ⟨w.heap.size + 1, 4, none⟩ = some (.int .u64 p') := (hb1.cells.1 _ _ (by simp <;> omega)).trans (by simp [go_sem])
  have qy_5 : w1.cell? ⟨w.heap.size + 1, 5, none⟩ = some (.int .i64 c') := (hb1.cells.1 _ _ (by simp <;> omega)).trans (by simp [go_sem])
  have qy_6 : w1.cell? ⟨w.heap.size + 1, 6, none⟩ = some (v) := (hb1.cells.1 _ _ (by simp <;> omega)).trans (by simp [go_sem])
  have py := World.block_lt_of_cell? _ ⟨w.heap.size + 1, 0, none⟩ qy_0
  have ry := Nat.lt_succ_of_lt py
  have E1 : Ext w w1 := by repeat (first | with_reducible exact Ext.refl _ | with_reducible assumption | with_reducible refine Ext.alloc ?_ _ | with_reducible refine Ext.drew ?_ | with_reducible refine Ext.drewN ?_ _ | with_reducible refine Ext.setCell ?_ (by simp <;> omega) _ | with_reducible refine Ext.trans ?_ (by assumption))
  go_wp2
  refine wp_region_later (by kernel_rfl) (by kernel_rfl) ?_
  have lx_0 := fun (g : Later w1) => g.ok.cell qx_0
  have lx_1 := fun (g : Later w1) => g.ok.cell qx_1
  have lx_2 := fun (g : Later w1) => g.ok.cell qx_2
  have lx_3 := fun (g : Later w1) => g.ok.cell qx_3
  have lx_4 := fun (g : Later w1) => g.ok.cell qx_4
  have lx_5 := fun (g : Later w1) => g.ok.cell qx_5
  have lx_6 := fun (g : Later w1) => g.ok.cell qx_6
  have ly_0 := fun (g : Later w1) => g.ok.cell qy_0
  have ly_1 := fun (g : Later w1) => g.ok.cell qy_1
  have ly_2 := fun (g : Later w1) => g.ok.cell qy_2
  have ly_3 := fun (g : Later w1) => g.ok.cell qy_3
  have ly_4 := fun (g : Later w1) => g.ok.cell qy_4
  have ly_5 := fun (g : Later w1) => g.ok.cell qy_5
  have ly_6 := fun (g : Later w1) => g.ok.cell qy_6
  repeat (go_big_quiet_step ((fail)))
  refine wpQuiet_nil ?_
  intro w2 hl2
  have hb2 := laters_ext hl2
  clear hl2 lx_0 lx_1 lx_2 lx_3 lx_4 lx_5 lx_6 ly_0 ly_1 ly_2 ly_3 ly_4 ly_5 ly_6
  have hx2 : Ext w1 w2 := by repeat (first | with_reducible exact Ext.refl _ | with_reducible assumption | with_reducible refine Ext.alloc ?_ _ | with_reducible refine Ext.drew ?_ | with_reducible refine Ext.drewN ?_ _ | with_reducible refine Ext.setCell ?_ (by simp <;> omega) _ | with_reducible refine Ext.trans ?_ (by assumption))
  replace qx_0 := hx2.cell qx_0
  replace qx_1 := hx2.cell qx_1
  replace qx_2 := hx2.cell qx_2
  replace qx_3 := hx2.cell qx_3
  replace qx_4 := hx2.cell qx_4
  replace qx_5 := hx2.cell qx_5
  replace qx_6 := hx2.cell qx_6
  replace px := Nat.lt_of_lt_of_le px hx2.size
  replace rx := Nat.lt_succ_of_lt px
  replace qy_0 := hx2.cell qy_0
  replace qy_1 := hx2.cell qy_1
  replace qy_2 := hx2.cell qy_2
  replace qy_3 := hx2.cell qy_3
  replace qy_4 := hx2.cell qy_4
  replace qy_5 := hx2.cell qy_5
  replace qy_6 := hx2.cell qy_6
  replace py := Nat.lt_of_lt_of_le py hx2.size
  replace ry := Nat.lt_succ_of_lt py
  clear hx2
  have E2 := E1.trans hb2
  clear E1 hb2
  go_wp2
  go_ret
  exact ⟨rfl, E2⟩
theorem goes_D32 (t o n p c o' n' p' c' z : Int) (u v : Value) (w : World) (b : Bool) (hz : ((p + n) % 4294967296) = z) (e0 : (p' == z) = b) : Calls Try.prog 44 #[.int .i64 32, .agg #[.int .i64 5, .int .i64 t, .int .i64 o, .int .i64 n, .int .u64 p, .int .i64 c, u], .agg #[.int .i64 5, .int .i64 t, .int .i64 o', .int .i64 n', .int .u64 p', .int .i64 c', v]] w fun e w' => e = .returned (.bool b) ∧ Ext w w' := by
  have CP := Lib.hid (fun w => wPlus_32 p n w)
  rw [hz] at CP
  clear hz
  go_enter Try.func44, Try.ntmps44
  go_wp2
  refine settle_wp ?_
  intro w1 hb1
  have qx_0 : w1.cell? ⟨w.heap.size, 0, none⟩ = some (.int .i64 5) := (hb1.cells.1 _ _ (by simp <;> omega)).trans (by simp [go_sem])
  have qx_1 : w1.cell? ⟨w.heap.size, 1, none⟩ = some (.int .i64 t) := (hb1.cells.1 _ _ (by simp <;> omega)).trans (by simp [go_sem])
  have qx_2 : w1.cell? ⟨w.heap.size, 2, none⟩ = some (.int .i64 o) := (hb1.cells.1 _ _ (by simp <;> omega)).trans (by simp [go_sem])
  have qx_3 : w1.cell? ⟨w.heap.size, 3, none⟩ = some (.int .i64 n) := (hb1.cells.1 _ _ (by simp <;> omega)).trans (by simp [go_sem])
  have qx_4 : w1.cell? ⟨w.heap.size, 4, none⟩ = some (.int .u64 p) := (hb1.cells.1 _ _ (by simp <;> omega)).trans (by simp [go_sem])
  have qx_5 : w1.cell? ⟨w.heap.size, 5, none⟩ = some (.int .i64 c) := (hb1.cells.1 _ _ (by simp <;> omega)).trans (by simp [go_sem])
  have qx_6 : w1.cell? ⟨w.heap.size, 6, none⟩ = some (u) := (hb1.cells.1 _ _ (by simp <;> omega)).trans (by simp [go_sem])
  have px := World.block_lt_of_cell? _ ⟨w.heap.size, 0, none⟩ qx_0
  have rx := Nat.lt_succ_of_lt px
  have qy_0 : w1.cell? ⟨w.heap.size + 1, 0, none⟩ = some (.int .i64 5) := (hb1.cells.1 _ _ (by simp <;> omega)).trans (by simp [go_sem])
  have qy_1 : w1.cell? ⟨w.heap.size + 1, 1, none⟩ = some (.int .i64 t) := (hb1.cells.1 _ _ (by simp <;> omega)).trans (by simp [go_sem])
  have qy_2 : w1.cell? ⟨w.heap.size + 1, 2, none⟩ = some (.int .i64 o') := (hb1.cells.1 _ _ (by simp <;> omega)).trans (by simp [go_sem])
  have qy_3 : w1.cell? ⟨w.heap.size + 1, 3, none⟩ = some (.int .i64 n') := (hb1.cells.1 _ _ (by simp <;> omega)).trans (by simp [go_sem])
  have qy_4 : w1.cell? ⟨w.heap.size + 1, 4, none⟩ = some (.int .u64 p') := (hb1.cells.1 _ _ (by simp <;> omega)).trans (by simp [go_sem])
  have qy_5 : w1.cell? ⟨w.heap.size + 1, 5, none⟩ = some (.int .i64 c') := (hb1.cells.1 _ _ (by simp <;> omega)).trans (by simp [go_sem])
  have qy_6 : w1.cell? ⟨w.heap.size + 1, 6, none⟩ = some (v) := (hb1.cells.1 _ _ (by simp <;> omega)).trans (by simp [go_sem])
  have py := World.block_lt_of_cell? _ ⟨w.heap.size + 1, 0, none⟩ qy_0
  have ry := Nat.lt_succ_of_lt py
  have E1 : Ext w w1 := by repeat (first | with_reducible exact Ext.refl _ | with_reducible assumption | with_reducible refine Ext.alloc ?_ _ | with_reducible refine Ext.drew ?_ | with_reducible refine Ext.drewN ?_ _ | with_reducible refine Ext.setCell ?_ (by simp <;> omega) _ | with_reducible refine Ext.trans ?_ (by assumption))
  go_wp2
  refine wp_region_later (by kernel_rfl) (by kernel_rfl) ?_
  have lx_0 := fun (g : Later w1) => g.ok.cell qx_0
  have lx_1 := fun (g : Later w1) => g.ok.cell qx_1
  have lx_2 := fun (g : Later w1) => g.ok.cell qx_2
  have lx_3 := fun (g : Later w1) => g.ok.cell qx_3
  have lx_4 := fun (g : Later w1) => g.ok.cell qx_4
  have lx_5 := fun (g : Later w1) => g.ok.cell qx_5
  have lx_6 := fun (g : Later w1) => g.ok.cell qx_6
  have ly_0 := fun (g : Later w1) => g.ok.cell qy_0
  have ly_1 := fun (g : Later w1) => g.ok.cell qy_1
  have ly_2 := fun (g : Later w1) => g.ok.cell qy_2
  have ly_3 := fun (g : Later w1) => g.ok.cell qy_3
  have ly_4 := fun (g : Later w1) => g.ok.cell qy_4
  have ly_5 := fun (g : Later w1) => g.ok.cell qy_5
  have ly_6 := fun (g : Later w1) => g.ok.cell qy_6
  repeat (go_big_quiet_step ((fail)))
  go_big_quiet_step ((go_at_call 58; exact laterS (CP.out _)))
  repeat (go_big_quiet_step ((fail)))
  refine wpQuiet_nil ?_
  intro w2 hl2
  have hb2 := laters_ext hl2
  clear hl2 lx_0 lx_1 lx_2 lx_3 lx_4 lx_5 lx_6 ly_0 ly_1 ly_2 ly_3 ly_4 ly_5 ly_6
  have hx2 : Ext w1 w2 := by repeat (first | with_reducible exact Ext.refl _ | with_reducible assumption | with_reducible refine Ext.alloc ?_ _ | with_reducible refine Ext.drew ?_ | with_reducible refine Ext.drewN ?_ _ | with_reducible refine Ext.setCell ?_ (by simp <;> omega) _ | with_reducible refine Ext.trans ?_ (by assumption))
  replace qx_0 := hx2.cell qx_0
  replace qx_1 := hx2.cell qx_1
  replace qx_2 := hx2.cell qx_2
  replace qx_3 := hx2.cell qx_3
  replace qx_4 := hx2.cell qx_4
  replace qx_5 := hx2.cell qx_5
  replace qx_6 := hx2.cell qx_6
  replace px := Nat.lt_of_lt_of_le px hx2.size
  replace rx := Nat.lt_succ_of_lt px
  replace qy_0 := hx2.cell qy_0
  replace qy_1 := hx2.cell qy_1
  replace qy_2 := hx2.cell qy_2
  replace qy_3 := hx2.cell qy_3
  replace qy_4 := hx2.cell qy_4
  replace qy_5 := hx2.cell qy_5
  replace qy_6 := hx2.cell qy_6
  replace py := Nat.lt_of_lt_of_le py hx2.size
  replace ry := Nat.lt_succ_of_lt py
  clear hx2
  have E2 := E1.trans hb2
  clear E1 hb2
  go_wp2
  go_ret
  exact ⟨rfl, E2⟩
theorem eGoes32 (x y : Ev) (u v : Value) (w : World) : Calls Try.prog 44 #[.int .i64 32, evA x u, evA y v] w fun e w' => e = .returned (.bool (goOn 32 x y)) ∧ Ext w w' := by
  obtain ⟨k, t, o, n, p, c, d⟩ := x
  obtain ⟨k', t', o', n', p', c', d'⟩ := y
  unfold evA
  have hg : goOn 32 ⟨k, t, o, n, p, c, d⟩ ⟨k', t', o', n', p', c', d'⟩ = (decide (k = 5) && (decide (k' = 5) && (decide (t = t') && decide (p' = ((p + n) % 4294967296))))) := by
    unfold goOn plusW
    rfl
  rw [hg]
  clear hg
  by_cases h0 : k = 5
  case neg => rw [decide_eq_false h0]; exact goes_A _ _ _ _ _ _ _ _ _ _ _ _ _ u v w (by simpa using h0)
  subst h0
  by_cases h1 : k' = 5
  case neg => rw [decide_eq_false h1]; exact goes_B _ _ _ _ _ _ _ _ _ _ _ _ u v w (by simpa using h1)
  subst h1
  by_cases h2 : t = t'
  case neg => rw [decide_eq_false h2]; exact goes_C _ _ _ _ _ _ _ _ _ _ _ u v w (by simpa using h2)
  subst h2
  simp only [decide_true, Bool.true_and]
  exact goes_D32 _ _ _ _ _ _ _ _ _ _ u v w _ rfl (by simp [BEq.beq])
theorem goes_D64 (t o n p c o' n' p' c' z : Int) (u v : Value) (w : World) (b : Bool) (hz : (U64 (p + n)) = z) (e0 : (p' == z) = b) : Calls Try.prog 44 #[.int .i64 64, .agg #[.int .i64 5, .int .i64 t, .int .i64 o, .int .i64 n, .int .u64 p, .int .i64 c, u], .agg #[.int .i64 5, .int .i64 t, .int .i64 o', .int .i64 n', .int .u64 p', .int .i64 c', v]] w fun e w' => e = .returned (.bool b) ∧ Ext w w' := by
  have CP := Lib.hid (fun w => wPlus_64 p n w)
  rw [hz] at CP
  clear hz
  go_enter Try.func44, Try.ntmps44
  go_wp2
  refine settle_wp ?_
  intro w1 hb1
  have qx_0 : w1.cell? ⟨w.heap.size, 0, none⟩ = some (.int .i64 5) := (hb1.cells.1 _ _ (by simp <;> omega)).trans (by simp [go_sem])
  have qx_1 : w1.cell? ⟨w.heap.size, 1, none⟩ = some (.int .i64 t) := (hb1.cells.1 _ _ (by simp <;> omega)).trans (by simp [go_sem])
  have qx_2 : w1.cell? ⟨w.heap.size, 2, none⟩ = some (.int .i64 o) := (hb1.cells.1 _ _ (by simp <;> omega)).trans (by simp [go_sem])
  have qx_3 : w1.cell? ⟨w.heap.size, 3, none⟩ = some (.int .i64 n) := (hb1.cells.1 _ _ (by simp <;> omega)).trans (by simp [go_sem])
  have qx_4 : w1.cell? ⟨w.heap.size, 4, none⟩ = some (.int .u64 p) := (hb1.cells.1 _ _ (by simp <;> omega)).trans (by simp [go_sem])
  have qx_5 : w1.cell? ⟨w.heap.size, 5, none⟩ = some (.int .i64 c) := (hb1.cells.1 _ _ (by simp <;> omega)).trans (by simp [go_sem])
  have qx_6 : w1.cell? ⟨w.heap.size, 6, none⟩ = some (u) := (hb1.cells.1 _ _ (by simp <;> omega)).trans (by simp [go_sem])
  have px := World.block_lt_of_cell? _ ⟨w.heap.size, 0, none⟩ qx_0
  have rx := Nat.lt_succ_of_lt px
  have qy_0 : w1.cell? ⟨w.heap.size + 1, 0, none⟩ = some (.int .i64 5) := (hb1.cells.1 _ _ (by simp <;> omega)).trans (by simp [go_sem])
  have qy_1 : w1.cell? ⟨w.heap.size + 1, 1, none⟩ = some (.int .i64 t) := (hb1.cells.1 _ _ (by simp <;> omega)).trans (by simp [go_sem])
  have qy_2 : w1.cell? ⟨w.heap.size + 1, 2, none⟩ = some (.int .i64 o') := (hb1.cells.1 _ _ (by simp <;> omega)).trans (by simp [go_sem])
  have qy_3 : w1.cell? ⟨w.heap.size + 1, 3, none⟩ = some (.int .i64 n') := (hb1.cells.1 _ _ (by simp <;> omega)).trans (by simp [go_sem])
  have qy_4 : w1.cell? ⟨w.heap.size + 1, 4, none⟩ = some (.int .u64 p') := (hb1.cells.1 _ _ (by simp <;> omega)).trans (by simp [go_sem])
  have qy_5 : w1.cell? ⟨w.heap.size + 1, 5, none⟩ = some (.int .i64 c') := (hb1.cells.1 _ _ (by simp <;> omega)).trans (by simp [go_sem])
  have qy_6 : w1.cell? ⟨w.heap.size + 1, 6, none⟩ = some (v) := (hb1.cells.1 _ _ (by simp <;> omega)).trans (by simp [go_sem])
  have py := World.block_lt_of_cell? _ ⟨w.heap.size + 1, 0, none⟩ qy_0
  have ry := Nat.lt_succ_of_lt py
  have E1 : Ext w w1 := by repeat (first | with_reducible exact Ext.refl _ | with_reducible assumption | with_reducible refine Ext.alloc ?_ _ | with_reducible refine Ext.drew ?_ | with_reducible refine Ext.drewN ?_ _ | with_reducible refine Ext.setCell ?_ (by simp <;> omega) _ | with_reducible refine Ext.trans ?_ (by assumption))
  go_wp2
  refine wp_region_later (by kernel_rfl) (by kernel_rfl) ?_
  have lx_0 := fun (g : Later w1) => g.ok.cell qx_0
  have lx_1 := fun (g : Later w1) => g.ok.cell qx_1
  have lx_2 := fun (g : Later w1) => g.ok.cell qx_2
  have lx_3 := fun (g : Later w1) => g.ok.cell qx_3
  have lx_4 := fun (g : Later w1) => g.ok.cell qx_4
  have lx_5 := fun (g : Later w1) => g.ok.cell qx_5
  have lx_6 := fun (g : Later w1) => g.ok.cell qx_6
  have ly_0 := fun (g : Later w1) => g.ok.cell qy_0
  have ly_1 := fun (g : Later w1) => g.ok.cell qy_1
  have ly_2 := fun (g : Later w1) => g.ok.cell qy_2
  have ly_3 := fun (g : Later w1) => g.ok.cell qy_3
  have ly_4 := fun (g : Later w1) => g.ok.cell qy_4
  have ly_5 := fun (g : Later w1) => g.ok.cell qy_5
  have ly_6 := fun (g : Later w1) => g.ok.cell qy_6
  repeat (go_big_quiet_step ((fail)))
  go_big_quiet_step ((go_at_call 58; exact laterS (CP.out _)))
  repeat (go_big_quiet_step ((fail)))
  refine wpQuiet_nil ?_
  intro w2 hl2
  have hb2 := laters_ext hl2
  clear hl2 lx_0 lx_1 lx_2 lx_3 lx_4 lx_5 lx_6 ly_0 ly_1 ly_2 ly_3 ly_4 ly_5 ly_6
  have hx2 : Ext w1 w2 := by repeat (first | with_reducible exact Ext.refl _ | with_reducible assumption | with_reducible refine Ext.alloc ?_ _ | with_reducible refine Ext.drew ?_ | with_reducible refine Ext.drewN ?_ _ | with_reducible refine Ext.setCell ?_ (by simp <;> omega) _ | with_reducible refine Ext.trans ?_ (by assumption))
  replace qx_0 := hx2.cell qx_0
  replace qx_1 := hx2.cell qx_1
  replace qx_2 := hx2.cell qx_2
  replace qx_3 := hx2.cell qx_3
  replace qx_4 := hx2.cell qx_4
  replace qx_5 := hx2.cell qx_5
  replace qx_6 := hx2.cell qx_6
  replace px := Nat.lt_of_lt_of_le px hx2.size
  replace rx := Nat.lt_succ_of_lt px
  replace qy_0 := hx2.cell qy_0
  replace qy_1 := hx2.cell qy_1
  replace qy_2 := hx2.cell qy_2
  replace qy_3 := hx2.cell qy_3
  replace qy_4 := hx2.cell qy_4
  replace qy_5 := hx2.cell qy_5
  replace qy_6 := hx2.cell qy_6
  replace py := Nat.lt_of_lt_of_le py hx2.size
  replace ry := Nat.lt_succ_of_lt py
  clear hx2
  have E2 := E1.trans hb2
  clear E1 hb2
  go_wp2
  go_ret
  exact ⟨rfl, E2⟩
theorem eGoes64 (x y : Ev) (u v : Value) (w : World) : Calls Try.prog 44 #[.int .i64 64, evA x u, evA y v] w fun e w' => e = .returned (.bool (goOn 64 x y)) ∧ Ext w w' := by
  obtain ⟨k, t, o, n, p, c, d⟩ := x
  obtain ⟨k', t', o', n', p', c', d'⟩ := y
  unfold evA
  have hg : goOn 64 ⟨k, t, o, n, p, c, d⟩ ⟨k', t', o', n', p', c', d'⟩ = (decide (k = 5) && (decide (k' = 5) && (decide (t = t') && decide (p' = (U64 (p + n)))))) := by
    unfold goOn plusW
    rfl
  rw [hg]
  clear hg
  by_cases h0 : k = 5
  case neg => rw [decide_eq_false h0]; exact goes_A _ _ _ _ _ _ _ _ _ _ _ _ _ u v w (by simpa using h0)
  subst h0
  by_cases h1 : k' = 5
  case neg => rw [decide_eq_false h1]; exact goes_B _ _ _ _ _ _ _ _ _ _ _ _ u v w (by simpa using h1)
  subst h1
  by_cases h2 : t = t'
  case neg => rw [decide_eq_false h2]; exact goes_C _ _ _ _ _ _ _ _ _ _ _ u v w (by simpa using h2)
  subst h2
  simp only [decide_true, Bool.true_and]
  exact goes_D64 _ _ _ _ _ _ _ _ _ _ u v w _ rfl (by simp [BEq.beq])
end Go.Proofs.Ytkbbneknblnbnaa

/- span.Join -/
import Derived.Test.YtclhbdedibcgjaaSpan
namespace Go.Proofs.Ytclhbdedibcgjaa
open Go.RowKit
set_option linter.unusedVariables false
set_option maxHeartbeats 400000
attribute [local go_sem] later_cell later_frozen later_const
theorem sJoin32_bad (f n g m : Int) (w : World) (hn : okN n = false) : Calls Try.prog 28 #[.agg #[.int .u32 f, .int .i64 n], .agg #[.int .u32 g, .int .i64 m]] w fun e w' => e = .returned (.tuple #[.agg #[.int .u32 0, .int .i64 0], .bool false]) ∧ Ext w w' := by
  go_enter Try.func28, Try.ntmps28
  go_wp2_with fail
  refine settle_wp ?_
  intro w1 hb1
  have qa_0 : w1.cell? ⟨w.heap.size, 0, none⟩ = some (.int .u32 f) := (hb1.cells.1 _ _ (by simp <;> omega)).trans (by simp [go_sem])
  have qa_1 : w1.cell? ⟨w.heap.size, 1, none⟩ = some (.int .i64 n) := (hb1.cells.1 _ _ (by simp <;> omega)).trans (by simp [go_sem])
  have pa := World.block_lt_of_cell? _ ⟨w.heap.size, 0, none⟩ qa_0
  have ra := Nat.lt_succ_of_lt pa
  have qr_0 : w1.cell? ⟨w.heap.size + 1 + 1, 0, none⟩ = some (.int .u32 0) := (hb1.cells.1 _ _ (by simp <;> omega)).trans (by simp [go_sem])
  have zr_0 : w1.frozen? ⟨w.heap.size + 1 + 1, 0, none⟩ = false := (hb1.cells.2 _ _ (by simp <;> omega)).trans (by simp [go_sem])
  have qr_1 : w1.cell? ⟨w.heap.size + 1 + 1, 1, none⟩ = some (.int .i64 0) := (hb1.cells.1 _ _ (by simp <;> omega)).trans (by simp [go_sem])
  have zr_1 : w1.frozen? ⟨w.heap.size + 1 + 1, 1, none⟩ = false := (hb1.cells.2 _ _ (by simp <;> omega)).trans (by simp [go_sem])
  have pr := World.block_lt_of_cell? _ ⟨w.heap.size + 1 + 1, 0, none⟩ qr_0
  have rr := Nat.lt_succ_of_lt pr
  refine wp_region_later (by kernel_rfl) (by kernel_rfl) ?_
  have la_0 := fun (g : Later w1) => g.ok.cell qa_0
  have la_1 := fun (g : Later w1) => g.ok.cell qa_1
  have lr_0 := fun (g : Later w1) => g.ok.cell qr_0
  have lr_1 := fun (g : Later w1) => g.ok.cell qr_1
  repeat (go_big_quiet_step ((fail)))
  go_big_quiet_step ((go_at_call 17; exact laterC (sRight32_no _ _ _ hn)))
  repeat (go_big_quiet_step ((fail)))
  refine wpQuiet_nil ?_
  intro w2 hl2
  have hb2 := laters_ext hl2
  clear hl2 la_0 la_1 lr_0 lr_1
  have hx2 : Ext w1 w2 := by repeat (first | with_reducible exact Ext.refl _ | with_reducible assumption | with_reducible refine Ext.alloc ?_ _ | with_reducible refine Ext.drew ?_ | with_reducible refine Ext.drewN ?_ _ | with_reducible refine Ext.setCell ?_ (by simp <;> omega) _ | with_reducible refine Ext.trans ?_ (by assumption))
  replace qa_0 := hx2.cell qa_0
  replace qa_1 := hx2.cell qa_1
  replace pa := Nat.lt_of_lt_of_le pa hx2.size
  replace ra := Nat.lt_succ_of_lt pa
  replace zr_0 := hx2.frozen qr_0 zr_0
  replace qr_0 := hx2.cell qr_0
  replace zr_1 := hx2.frozen qr_1 zr_1
  replace qr_1 := hx2.cell qr_1
  replace pr := Nat.lt_of_lt_of_le pr hx2.size
  replace rr := Nat.lt_succ_of_lt pr
  clear hx2
  go_wp2
  refine bodyPost_ret (v := .tuple #[.agg #[.int .u32 0, .int .i64 0], .bool false]) (by simp [results, Try.results28, go_sem, qr_0, qr_1]) rfl ⟨rfl, ?_⟩
  repeat (first | with_reducible exact Ext.refl _ | with_reducible assumption | with_reducible refine Ext.alloc ?_ _ | with_reducible refine Ext.drew ?_ | with_reducible refine Ext.drewN ?_ _ | with_reducible refine Ext.setCell ?_ (by simp <;> omega) _ | with_reducible refine Ext.trans ?_ (by assumption))
theorem sJoin32_apart (f n g m : Int) (w : World) (hn : okN n = true) (hm : okN m = true) (hd : (g != ((f + n) % 4294967296)) = true) : Calls Try.prog 28 #[.agg #[.int .u32 f, .int .i64 n], .agg #[.int .u32 g, .int .i64 m]] w fun e w' => e = .returned (.tuple #[.agg #[.int .u32 0, .int .i64 0], .bool false]) ∧ Ext w w' := by
  go_enter Try.func28, Try.ntmps28
  go_wp2_with fail
  refine settle_wp ?_
  intro w1 hb1
  have qa_0 : w1.cell? ⟨w.heap.size, 0, none⟩ = some (.int .u32 f) := (hb1.cells.1 _ _ (by simp <;> omega)).trans (by simp [go_sem])
  have qa_1 : w1.cell? ⟨w.heap.size, 1, none⟩ = some (.int .i64 n) := (hb1.cells.1 _ _ (by simp <;> omega)).trans (by simp [go_sem])
  have pa := World.block_lt_of_cell? _ ⟨w.heap.size, 0, none⟩ qa_0
  have ra := Nat.lt_succ_of_lt pa
  have qb_0 : w1.cell? ⟨w.heap.size + 1, 0, none⟩ = some (.int .u32 g) := (hb1.cells.1 _ _ (by simp <;> omega)).trans (by simp [go_sem])
  have qb_1 : w1.cell? ⟨w.heap.size + 1, 1, none⟩ = some (.int .i64 m) := (hb1.cells.1 _ _ (by simp <;> omega)).trans (by simp [go_sem])
  have pb := World.block_lt_of_cell? _ ⟨w.heap.size + 1, 0, none⟩ qb_0
  have rb := Nat.lt_succ_of_lt pb
  have qr_0 : w1.cell? ⟨w.heap.size + 1 + 1, 0, none⟩ = some (.int .u32 0) := (hb1.cells.1 _ _ (by simp <;> omega)).trans (by simp [go_sem])
  have zr_0 : w1.frozen? ⟨w.heap.size + 1 + 1, 0, none⟩ = false := (hb1.cells.2 _ _ (by simp <;> omega)).trans (by simp [go_sem])
  have qr_1 : w1.cell? ⟨w.heap.size + 1 + 1, 1, none⟩ = some (.int .i64 0) := (hb1.cells.1 _ _ (by simp <;> omega)).trans (by simp [go_sem])
  have zr_1 : w1.frozen? ⟨w.heap.size + 1 + 1, 1, none⟩ = false := (hb1.cells.2 _ _ (by simp <;> omega)).trans (by simp [go_sem])
  have pr := World.block_lt_of_cell? _ ⟨w.heap.size + 1 + 1, 0, none⟩ qr_0
  have rr := Nat.lt_succ_of_lt pr
  refine wp_region_later (by kernel_rfl) (by kernel_rfl) ?_
  have la_0 := fun (g : Later w1) => g.ok.cell qa_0
  have la_1 := fun (g : Later w1) => g.ok.cell qa_1
  have lb_0 := fun (g : Later w1) => g.ok.cell qb_0
  have lb_1 := fun (g : Later w1) => g.ok.cell qb_1
  have lr_0 := fun (g : Later w1) => g.ok.cell qr_0
  have lr_1 := fun (g : Later w1) => g.ok.cell qr_1
  repeat (go_big_quiet_step ((fail)))
  go_big_quiet_step ((go_at_call 17; exact laterC (sRight32_yes _ _ _ hn)))
  repeat (go_big_quiet_step ((fail)))
  go_big_quiet_step ((go_at_call 17; exact laterC (sRight32_yes _ _ _ hm)))
  repeat (go_big_quiet_step ((fail)))
  go_big_quiet_step ((go_at_call 23; exact laterC (sEnd32 _ _ _ hn)))
  repeat (go_big_quiet_step ((fail)))
  refine wpQuiet_nil ?_
  intro w2 hl2
  have hb2 := laters_ext hl2
  clear hl2 la_0 la_1 lb_0 lb_1 lr_0 lr_1
  have hx2 : Ext w1 w2 := by repeat (first | with_reducible exact Ext.refl _ | with_reducible assumption | with_reducible refine Ext.alloc ?_ _ | with_reducible refine Ext.drew ?_ | with_reducible refine Ext.drewN ?_ _ | with_reducible refine Ext.setCell ?_ (by simp <;> omega) _ | with_reducible refine Ext.trans ?_ (by assumption))
  replace qa_0 := hx2.cell qa_0
  replace qa_1 := hx2.cell qa_1
  replace pa := Nat.lt_of_lt_of_le pa hx2.size
  replace ra := Nat.lt_succ_of_lt pa
  replace qb_0 := hx2.cell qb_0
  replace qb_1 := hx2.cell qb_1
  replace pb := Nat.lt_of_lt_of_le pb hx2.size
  replace rb := Nat.lt_succ_of_lt pb
  replace zr_0 := hx2.frozen qr_0 zr_0
  replace qr_0 := hx2.cell qr_0
  replace zr_1 := hx2.frozen qr_1 zr_1
  replace qr_1 := hx2.cell qr_1
  replace pr := Nat.lt_of_lt_of_le pr hx2.size
  replace rr := Nat.lt_succ_of_lt pr
  clear hx2
  go_wp2
  refine bodyPost_ret (v := .tuple #[.agg #[.int .u32 0, .int .i64 0], .bool false]) (by simp [results, Try.results28, go_sem, qr_0, qr_1]) rfl ⟨rfl, ?_⟩
  repeat (first | with_reducible exact Ext.refl _ | with_reducible assumption | with_reducible refine Ext.alloc ?_ _ | with_reducible refine Ext.drew ?_ | with_reducible refine Ext.drewN ?_ _ | with_reducible refine Ext.setCell ?_ (by simp <;> omega) _ | with_reducible refine Ext.trans ?_ (by assumption))
theorem sJoin32_yes (f n g m : Int) (w : World) (hn : okN n = true) (hm : okN m = true) (hd : (g != ((f + n) % 4294967296)) = false) (hs : okN (n + m) = true) : Calls Try.prog 28 #[.agg #[.int .u32 f, .int .i64 n], .agg #[.int .u32 g, .int .i64 m]] w fun e w' => e = .returned (.tuple #[.agg #[.int .u32 f, .int .i64 (n + m)], .bool true]) ∧ Ext w w' := by
  have rs := okN_true hs
  go_enter Try.func28, Try.ntmps28
  go_wp2_with fail
  refine settle_wp ?_
  intro w1 hb1
  have qa_0 : w1.cell? ⟨w.heap.size, 0, none⟩ = some (.int .u32 f) := (hb1.cells.1 _ _ (by simp <;> omega)).trans (by simp [go_sem])
  have qa_1 : w1.cell? ⟨w.heap.size, 1, none⟩ = some (.int .i64 n) := (hb1.cells.1 _ _ (by simp <;> omega)).trans (by simp [go_sem])
  have pa := World.block_lt_of_cell? _ ⟨w.heap.size, 0, none⟩ qa_0
  have ra := Nat.lt_succ_of_lt pa
  have qb_0 : w1.cell? ⟨w.heap.size + 1, 0, none⟩ = some (.int .u32 g) := (hb1.cells.1 _ _ (by simp <;> omega)).trans (by simp [go_sem])
  have qb_1 : w1.cell? ⟨w.heap.size + 1, 1, none⟩ = some (.int .i64 m) := (hb1.cells.1 _ _ (by simp <;> omega)).trans (by simp [go_sem])
  have pb := World.block_lt_of_cell? _ ⟨w.heap.size + 1, 0, none⟩ qb_0
  have rb := Nat.lt_succ_of_lt pb
  have qr_0 : w1.cell? ⟨w.heap.size + 1 + 1, 0, none⟩ = some (.int .u32 0) := (hb1.cells.1 _ _ (by simp <;> omega)).trans (by simp [go_sem])
  have zr_0 : w1.frozen? ⟨w.heap.size + 1 + 1, 0, none⟩ = false := (hb1.cells.2 _ _ (by simp <;> omega)).trans (by simp [go_sem])
  have qr_1 : w1.cell? ⟨w.heap.size + 1 + 1, 1, none⟩ = some (.int .i64 0) := (hb1.cells.1 _ _ (by simp <;> omega)).trans (by simp [go_sem])
  have zr_1 : w1.frozen? ⟨w.heap.size + 1 + 1, 1, none⟩ = false := (hb1.cells.2 _ _ (by simp <;> omega)).trans (by simp [go_sem])
  have pr := World.block_lt_of_cell? _ ⟨w.heap.size + 1 + 1, 0, none⟩ qr_0
  have rr := Nat.lt_succ_of_lt pr
  refine wp_region_later (by kernel_rfl) (by kernel_rfl) ?_
  have la_0 := fun (g : Later w1) => g.ok.cell qa_0
  have la_1 := fun (g : Later w1) => g.ok.cell qa_1
  have lb_0 := fun (g : Later w1) => g.ok.cell qb_0
  have lb_1 := fun (g : Later w1) => g.ok.cell qb_1
  have lr_0 := fun (g : Later w1) => g.ok.cell qr_0
  have lr_1 := fun (g : Later w1) => g.ok.cell qr_1
  repeat (go_big_quiet_step ((fail)))
  go_big_quiet_step ((go_at_call 17; exact laterC (sRight32_yes _ _ _ hn)))
  repeat (go_big_quiet_step ((fail)))
  go_big_quiet_step ((go_at_call 17; exact laterC (sRight32_yes _ _ _ hm)))
  repeat (go_big_quiet_step ((fail)))
  go_big_quiet_step ((go_at_call 23; exact laterC (sEnd32 _ _ _ hn)))
  repeat (go_big_quiet_step ((fail)))
  refine wpQuiet_nil ?_
  intro w2 hl2
  have hb2 := laters_ext hl2
  clear hl2 la_0 la_1 lb_0 lb_1 lr_0 lr_1
  have hx2 : Ext w1 w2 := by repeat (first | with_reducible exact Ext.refl _ | with_reducible assumption | with_reducible refine Ext.alloc ?_ _ | with_reducible refine Ext.drew ?_ | with_reducible refine Ext.drewN ?_ _ | with_reducible refine Ext.setCell ?_ (by simp <;> omega) _ | with_reducible refine Ext.trans ?_ (by assumption))
  replace qa_0 := hx2.cell qa_0
  replace qa_1 := hx2.cell qa_1
  replace pa := Nat.lt_of_lt_of_le pa hx2.size
  replace ra := Nat.lt_succ_of_lt pa
  replace qb_0 := hx2.cell qb_0
  replace qb_1 := hx2.cell qb_1
  replace pb := Nat.lt_of_lt_of_le pb hx2.size
  replace rb := Nat.lt_succ_of_lt pb
  replace zr_0 := hx2.frozen qr_0 zr_0
  replace qr_0 := hx2.cell qr_0
  replace zr_1 := hx2.frozen qr_1 zr_1
  replace qr_1 := hx2.cell qr_1
  replace pr := Nat.lt_of_lt_of_le pr hx2.size
  replace rr := Nat.lt_succ_of_lt pr
  clear hx2
  go_wp2_with fail
  refine (sRight32_yes _ _ _ hs).mono ?_
  rintro e w3 ⟨rfl, hb3⟩
  have hx3 : Ext w2 w3 := by repeat (first | with_reducible exact Ext.refl _ | with_reducible assumption | with_reducible refine Ext.alloc ?_ _ | with_reducible refine Ext.drew ?_ | with_reducible refine Ext.drewN ?_ _ | with_reducible refine Ext.setCell ?_ (by simp <;> omega) _ | with_reducible refine Ext.trans ?_ (by assumption))
  replace qa_0 := hx3.cell qa_0
  replace qa_1 := hx3.cell qa_1
  replace pa := Nat.lt_of_lt_of_le pa hx3.size
  replace ra := Nat.lt_succ_of_lt pa
  replace qb_0 := hx3.cell qb_0
  replace qb_1 := hx3.cell qb_1
  replace pb := Nat.lt_of_lt_of_le pb hx3.size
  replace rb := Nat.lt_succ_of_lt pb
  replace zr_0 := hx3.frozen qr_0 zr_0
  replace qr_0 := hx3.cell qr_0
  replace zr_1 := hx3.frozen qr_1 zr_1
  replace qr_1 := hx3.cell qr_1
  replace pr := Nat.lt_of_lt_of_le pr hx3.size
  replace rr := Nat.lt_succ_of_lt pr
  clear hx3
  have qs_0 : w3.cell? ⟨w2.heap.size, 0, none⟩ = some (.int .u32 f) := (hb3.cells.1 _ _ (by simp <;> omega)).trans (by simp [go_sem])
  have qs_1 : w3.cell? ⟨w2.heap.size, 1, none⟩ = some (.int .i64 (n + m)) := (hb3.cells.1 _ _ (by simp <;> omega)).trans (by simp [go_sem])
  have ps := World.block_lt_of_cell? _ ⟨w2.heap.size, 0, none⟩ qs_0
  have rs := Nat.lt_succ_of_lt ps
  go_wp2
  refine bodyPost_ret (v := .tuple #[.agg #[.int .u32 f, .int .i64 (n + m)], .bool true]) (by simp [results, Try.results28, go_sem, qr_0, qr_1]) rfl ⟨rfl, ?_⟩
  repeat (first | with_reducible exact Ext.refl _ | with_reducible assumption | with_reducible refine Ext.alloc ?_ _ | with_reducible refine Ext.drew ?_ | with_reducible refine Ext.drewN ?_ _ | with_reducible refine Ext.setCell ?_ (by simp <;> omega) _ | with_reducible refine Ext.trans ?_ (by assumption))
theorem sJoin64_bad (f n g m : Int) (w : World) (hn : okN n = false) : Calls Try.prog 31 #[.agg #[.int .u64 f, .int .i64 n], .agg #[.int .u64 g, .int .i64 m]] w fun e w' => e = .returned (.tuple #[.agg #[.int .u64 0, .int .i64 0], .bool false]) ∧ Ext w w' := by
  go_enter Try.func31, Try.ntmps31
  go_wp2_with fail
  refine settle_wp ?_
  intro w1 hb1
  have qa_0 : w1.cell? ⟨w.heap.size, 0, none⟩ = some (.int .u64 f) := (hb1.cells.1 _ _ (by simp <;> omega)).trans (by simp [go_sem])
  have qa_1 : w1.cell? ⟨w.heap.size, 1, none⟩ = some (.int .i64 n) := (hb1.cells.1 _ _ (by simp <;> omega)).trans (by simp [go_sem])
  have pa := World.block_lt_of_cell? _ ⟨w.heap.size, 0, none⟩ qa_0
  have ra := Nat.lt_succ_of_lt pa
  have qr_0 : w1.cell? ⟨w.heap.size + 1 + 1, 0, none⟩ = some (.int .u64 0) := (hb1.cells.1 _ _ (by simp <;> omega)).trans (by simp [go_sem])
  have zr_0 : w1.frozen? ⟨w.heap.size + 1 + 1, 0, none⟩ = false := (hb1.cells.2 _ _ (by simp <;> omega)).trans (by simp [go_sem])
  have qr_1 : w1.cell? ⟨w.heap.size + 1 + 1, 1, none⟩ = some (.int .i64 0) := (hb1.cells.1 _ _ (by simp <;> omega)).trans (by simp [go_sem])
  have zr_1 : w1.frozen? ⟨w.heap.size + 1 + 1, 1, none⟩ = false := (hb1.cells.2 _ _ (by simp <;> omega)).trans (by simp [go_sem])
  have pr := World.block_lt_of_cell? _ ⟨w.heap.size + 1 + 1, 0, none⟩ qr_0
  have rr := Nat.lt_succ_of_lt pr
  refine wp_region_later (by kernel_rfl) (by kernel_rfl) ?_
  have la_0 := fun (g : Later w1) => g.ok.cell qa_0
  have la_1 := fun (g : Later w1) => g.ok.cell qa_1
  have lr_0 := fun (g : Later w1) => g.ok.cell qr_0
  have lr_1 := fun (g : Later w1) => g.ok.cell qr_1
  repeat (go_big_quiet_step ((fail)))
  go_big_quiet_step ((go_at_call 40; exact laterC (sRight64_no _ _ _ hn)))
  repeat (go_big_quiet_step ((fail)))
  refine wpQuiet_nil ?_
  intro w2 hl2
  have hb2 := laters_ext hl2
  clear hl2 la_0 la_1 lr_0 lr_1
  have hx2 : Ext w1 w2 := by repeat (first | with_reducible exact Ext.refl _ | with_reducible assumption | with_reducible refine Ext.alloc ?_ _ | with_reducible refine Ext.drew ?_ | with_reducible refine Ext.drewN ?_ _ | with_reducible refine Ext.setCell ?_ (by simp <;> omega) _ | with_reducible refine Ext.trans ?_ (by assumption))
  replace qa_0 := hx2.cell qa_0
  replace qa_1 := hx2.cell qa_1
  replace pa := Nat.lt_of_lt_of_le pa hx2.size
  replace ra := Nat.lt_succ_of_lt pa
  replace zr_0 := hx2.frozen qr_0 zr_0
  replace qr_0 := hx2.cell qr_0
  replace zr_1 := hx2.frozen qr_1 zr_1
  replace qr_1 := hx2.cell qr_1
  replace pr := Nat.lt_of_lt_of_le pr hx2.size
  replace rr := Nat.lt_succ_of_lt pr
  clear hx2
  go_wp2
  refine bodyPost_ret (v := .tuple #[.agg #[.int .u64 0, .int .i64 0], .bool false]) (by simp [results, Try.results31, go_sem, qr_0, qr_1]) rfl ⟨rfl, ?_⟩
  repeat (first | with_reducible exact Ext.refl _ | with_reducible assumption | with_reducible refine Ext.alloc ?_ _ | with_reducible refine Ext.drew ?_ | with_reducible refine Ext.drewN ?_ _ | with_reducible refine Ext.setCell ?_ (by simp <;> omega) _ | with_reducible refine Ext.trans ?_ (by assumption))
theorem sJoin64_apart (f n g m : Int) (w : World) (hn : okN n = true) (hm : okN m = true) (hd : (g != (U64 (f + n))) = true) : Calls Try.prog 31 #[.agg #[.int .u64 f, .int .i64 n], .agg #[.int .u64 g, .int .i64 m]] w fun e w' => e = .returned (.tuple #[.agg #[.int .u64 0, .int .i64 0], .bool false]) ∧ Ext w w' := by
  go_enter Try.func31, Try.ntmps31
  go_wp2_with fail
  refine settle_wp ?_
  intro w1 hb1
  have qa_0 : w1.cell? ⟨w.heap.size, 0, none⟩ = some (.int .u64 f) := (hb1.cells.1 _ _ (by simp <;> omega)).trans (by simp [go_sem])
  have qa_1 : w1.cell? ⟨w.heap.size, 1, none⟩ = some (.int .i64 n) := (hb1.cells.1 _ _ (by simp <;> omega)).trans (by simp [go_sem])
  have pa := World.block_lt_of_cell? _ ⟨w.heap.size, 0, none⟩ qa_0
  have ra := Nat.lt_succ_of_lt pa
  have qb_0 : w1.cell? ⟨w.heap.size + 1, 0, none⟩ = some (.int .u64 g) := (hb1.cells.1 _ _ (by simp <;> omega)).trans (by simp [go_sem])
  have qb_1 : w1.cell? ⟨w.heap.size + 1, 1, none⟩ = some (.int .i64 m) := (hb1.cells.1 _ _ (by simp <;> omega)).trans (by simp [go_sem])
  have pb := World.block_lt_of_cell? _ ⟨w.heap.size + 1, 0, none⟩ qb_0
  have rb := Nat.lt_succ_of_lt pb
  have qr_0 : w1.cell? ⟨w.heap.size + 1 + 1, 0, none⟩ = some (.int .u64 0) := (hb1.cells.1 _ _ (by simp <;> omega)).trans (by simp [go_sem])
  have zr_0 : w1.frozen? ⟨w.heap.size + 1 + 1, 0, none⟩ = false := (hb1.cells.2 _ _ (by simp <;> omega)).trans (by simp [go_sem])
  have qr_1 : w1.cell? ⟨w.heap.size + 1 + 1, 1, none⟩ = some (.int .i64 0) := (hb1.cells.1 _ _ (by simp <;> omega)).trans (by simp [go_sem])
  have zr_1 : w1.frozen? ⟨w.heap.size + 1 + 1, 1, none⟩ = false := (hb1.cells.2 _ _ (by simp <;> omega)).trans (by simp [go_sem])
  have pr := World.block_lt_of_cell? _ ⟨w.heap.size + 1 + 1, 0, none⟩ qr_0
  have rr := Nat.lt_succ_of_lt pr
  refine wp_region_later (by kernel_rfl) (by kernel_rfl) ?_
  have la_0 := fun (g : Later w1) => g.ok.cell qa_0
  have la_1 := fun (g : Later w1) => g.ok.cell qa_1
  have lb_0 := fun (g : Later w1) => g.ok.cell qb_0
  have lb_1 := fun (g : Later w1) => g.ok.cell qb_1
  have lr_0 := fun (g : Later w1) => g.ok.cell qr_0
  have lr_1 := fun (g : Later w1) => g.ok.cell qr_1
  repeat (go_big_quiet_step ((fail)))
  go_big_quiet_step ((go_at_call 40; exact laterC (sRight64_yes _ _ _ hn)))
  repeat (go_big_quiet_step ((fail)))
  go_big_quiet_step ((go_at_call 40; exact laterC (sRight64_yes _ _ _ hm)))
  repeat (go_big_quiet_step ((fail)))
  go_big_quiet_step ((go_at_call 24; exact laterC (sEnd64 _ _ _ hn)))
  repeat (go_big_quiet_step ((fail)))
  refine wpQuiet_nil ?_
  intro w2 hl2
  have hb2 := laters_ext hl2
  clear hl2 la_0 la_1 lb_0 lb_1 lr_0 lr_1
  have hx2 : Ext w1 w2 := by repeat (first | with_reducible exact Ext.refl _ | with_reducible assumption | with_reducible refine Ext.alloc ?_ _ | with_reducible refine Ext.drew ?_ | with_reducible refine Ext.drewN ?_ _ | with_reducible refine Ext.setCell ?_ (by simp <;> omega) _ | with_reducible refine Ext.trans ?_ (by assumption))
  replace qa_0 := hx2.cell qa_0
  replace qa_1 := hx2.cell qa_1
  replace pa := Nat.lt_of_lt_of_le pa hx2.size
  replace ra := Nat.lt_succ_of_lt pa
  replace qb_0 := hx2.cell qb_0
  replace qb_1 := hx2.cell qb_1
  replace pb := Nat.lt_of_lt_of_le pb hx2.size
  replace rb := Nat.lt_succ_of_lt pb
  replace zr_0 := hx2.frozen qr_0 zr_0
  replace qr_0 := hx2.cell qr_0
  replace zr_1 := hx2.frozen qr_1 zr_1
  replace qr_1 := hx2.cell qr_1
  replace pr := Nat.lt_of_lt_of_le pr hx2.size
  replace rr := Nat.lt_succ_of_lt pr
  clear hx2
  go_wp2
  refine bodyPost_ret (v := .tuple #[.agg #[.int .u64 0, .int .i64 0], .bool false]) (by simp [results, Try.results31, go_sem, qr_0, qr_1]) rfl ⟨rfl, ?_⟩
  repeat (first | with_reducible exact Ext.refl _ | with_reducible assumption | with_reducible refine Ext.alloc ?_ _ | with_reducible refine Ext.drew ?_ | with_reducible refine Ext.drewN ?_ _ | with_reducible refine Ext.setCell ?_ (by simp <;> omega) _ | with_reducible refine Ext.trans ?_ (by assumption))
theorem sJoin64_yes (f n g m : Int) (w : World) (hn : okN n = true) (hm : okN m = true) (hd : (g != (U64 (f + n))) = false) (hs : okN (n + m) = true) : Calls Try.prog 31 #[.agg #[.int .u64 f, .int .i64 n], .agg #[.int .u64 g, .int .i64 m]] w fun e w' => e = .returned (.tuple #[.agg #[.int .u64 f, .int .i64 (n + m)], .bool true]) ∧ Ext w w' := by
  have rs := okN_true hs
  go_enter Try.func31, Try.ntmps31
  go_wp2_with fail
  refine settle_wp ?_
  intro w1 hb1
  have qa_0 : w1.cell? ⟨w.heap.size, 0, none⟩ = some (.int .u64 f) := (hb1.cells.1 _ _ (by simp <;> omega)).trans (by simp [go_sem])
  have qa_1 : w1.cell? ⟨w.heap.size, 1, none⟩ = some (.int .i64 n) := (hb1.cells.1 _ _ (by simp <;> omega)).trans (by simp [go_sem])
  have pa := World.block_lt_of_cell? _ ⟨w.heap.size, 0, none⟩ qa_0
  have ra := Nat.lt_succ_of_lt pa
  have qb_0 : w1.cell? ⟨w.heap.size + 1, 0, none⟩ = some (.int .u64 g) := (hb1.cells.1 _ _ (by simp <;> omega)).trans (by simp [go_sem])
  have qb_1 : w1.cell? ⟨w.heap.size + 1, 1, none⟩ = some (.int .i64 m) := (hb1.cells.1 _ _ (by simp <;> omega)).trans (by simp [go_sem])
  have pb := World.block_lt_of_cell? _ ⟨w.heap.size + 1, 0, none⟩ qb_0
  have rb := Nat.lt_succ_of_lt pb
  have qr_0 : w1.cell? ⟨w.heap.size + 1 + 1, 0, none⟩ = some (.int .u64 0) := (hb1.cells.1 _ _ (by simp <;> omega)).trans (by simp [go_sem])
  have zr_0 : w1.frozen? ⟨w.heap.size + 1 + 1, 0, none⟩ = false := (hb1.cells.2 _ _ (by simp <;> omega)).trans (by simp [go_sem])
  have qr_1 : w1.cell? ⟨w.heap.size + 1 + 1, 1, none⟩ = some (.int .i64 0) := (hb1.cells.1 _ _ (by simp <;> omega)).trans (by simp [go_sem])
  have zr_1 : w1.frozen? ⟨w.heap.size + 1 + 1, 1, none⟩ = false := (hb1.cells.2 _ _ (by simp <;> omega)).trans (by simp [go_sem])
  have pr := World.block_lt_of_cell? _ ⟨w.heap.size + 1 + 1, 0, none⟩ qr_0
  have rr := Nat.lt_succ_of_lt pr
  refine wp_region_later (by kernel_rfl) (by kernel_rfl) ?_
  have la_0 := fun (g : Later w1) => g.ok.cell qa_0
  have la_1 := fun (g : Later w1) => g.ok.cell qa_1
  have lb_0 := fun (g : Later w1) => g.ok.cell qb_0
  have lb_1 := fun (g : Later w1) => g.ok.cell qb_1
  have lr_0 := fun (g : Later w1) => g.ok.cell qr_0
  have lr_1 := fun (g : Later w1) => g.ok.cell qr_1
  repeat (go_big_quiet_step ((fail)))
  go_big_quiet_step ((go_at_call 40; exact laterC (sRight64_yes _ _ _ hn)))
  repeat (go_big_quiet_step ((fail)))
  go_big_quiet_step ((go_at_call 40; exact laterC (sRight64_yes _ _ _ hm)))
  repeat (go_big_quiet_step ((fail)))
  go_big_quiet_step ((go_at_call 24; exact laterC (sEnd64 _ _ _ hn)))
  repeat (go_big_quiet_step ((fail)))
  refine wpQuiet_nil ?_
  intro w2 hl2
  have hb2 := laters_ext hl2
  clear hl2 la_0 la_1 lb_0 lb_1 lr_0 lr_1
  have hx2 : Ext w1 w2 := by repeat (first | with_reducible exact Ext.refl _ | with_reducible assumption | with_reducible refine Ext.alloc ?_ _ | with_reducible refine Ext.drew ?_ | with_reducible refine Ext.drewN ?_ _ | with_reducible refine Ext.setCell ?_ (by simp <;> omega) _ | with_reducible refine Ext.trans ?_ (by assumption))
  replace qa_0 := hx2.cell qa_0
  replace qa_1 := hx2.cell qa_1
  replace pa := Nat.lt_of_lt_of_le pa hx2.size
  replace ra := Nat.lt_succ_of_lt pa
  replace qb_0 := hx2.cell qb_0
  replace qb_1 := hx2.cell qb_1
  replace pb := Nat.lt_of_lt_of_le pb hx2.size
  replace rb := Nat.lt_succ_of_lt pb
  replace zr_0 := hx2.frozen qr_0 zr_0
  replace qr_0 := hx2.cell qr_0
  replace zr_1 := hx2.frozen qr_1 zr_1
  replace qr_1 := hx2.cell qr_1
  replace pr := Nat.lt_of_lt_of_le pr hx2.size
  replace rr := Nat.lt_succ_of_lt pr
  clear hx2
  go_wp2_with fail
  refine (sRight64_yes _ _ _ hs).mono ?_
  rintro e w3 ⟨rfl, hb3⟩
  have hx3 : Ext w2 w3 := by repeat (first | with_reducible exact Ext.refl _ | with_reducible assumption | with_reducible refine Ext.alloc ?_ _ | with_reducible refine Ext.drew ?_ | with_reducible refine Ext.drewN ?_ _ | with_reducible refine Ext.setCell ?_ (by simp <;> omega) _ | with_reducible refine Ext.trans ?_ (by assumption))
  replace qa_0 := hx3.cell qa_0
  replace qa_1 := hx3.cell qa_1
  replace pa := Nat.lt_of_lt_of_le pa hx3.size
  replace ra := Nat.lt_succ_of_lt pa
  replace qb_0 := hx3.cell qb_0
  replace qb_1 := hx3.cell qb_1
  replace pb := Nat.lt_of_lt_of_le pb hx3.size
  replace rb := Nat.lt_succ_of_lt pb
  replace zr_0 := hx3.frozen qr_0 zr_0
  replace qr_0 := hx3.cell qr_0
  replace zr_1 := hx3.frozen qr_1 zr_1
  replace qr_1 := hx3.cell qr_1
  replace pr := Nat.lt_of_lt_of_le pr hx3.size
  replace rr := Nat.lt_succ_of_lt pr
  clear hx3
  have qs_0 : w3.cell? ⟨w2.heap.size, 0, none⟩ = some (.int .u64 f) := (hb3.cells.1 _ _ (by simp <;> omega)).trans (by simp [go_sem])
  have qs_1 : w3.cell? ⟨w2.heap.size, 1, none⟩ = some (.int .i64 (n + m)) := (hb3.cells.1 _ _ (by simp <;> omega)).trans (by simp [go_sem])
  have ps := World.block_lt_of_cell? _ ⟨w2.heap.size, 0, none⟩ qs_0
  have rs := Nat.lt_succ_of_lt ps
  go_wp2
  refine bodyPost_ret (v := .tuple #[.agg #[.int .u64 f, .int .i64 (n + m)], .bool true]) (by simp [results, Try.results31, go_sem, qr_0, qr_1]) rfl ⟨rfl, ?_⟩
  repeat (first | with_reducible exact Ext.refl _ | with_reducible assumption | with_reducible refine Ext.alloc ?_ _ | with_reducible refine Ext.drew ?_ | with_reducible refine Ext.drewN ?_ _ | with_reducible refine Ext.setCell ?_ (by simp <;> omega) _ | with_reducible refine Ext.trans ?_ (by assumption))
end Go.Proofs.Ytclhbdedibcgjaa

/- SpanTells, the ordinary way. -/
import Derived.Test.YtclhbdedibcgjaaLawTells3
namespace Go.Proofs.Ytclhbdedibcgjaa
open Go.RowKit Go.Shelf
set_option linter.unusedVariables false
set_option maxHeartbeats 4000000
attribute [local go_sem] later_cell later_frozen later_const
set_option maxRecDepth 100000 in
theorem spanTells_bad (n i f p : Int) (w : World) (hk : okN n = false) : Calls Try.prog 3 #[.int .i64 n, .int .i64 i, .agg #[.int .u64 f, .int .u64 p]] w fun e w' => e = .returned (.bool true) ∧ Below w.heap.size w w' := by
  go_enter Try.func3, Try.ntmps3
  go_wp2
  refine settle_wp ?_
  intro w1 hb1
  have qt_0 : w1.cell? ⟨w.heap.size, 0, none⟩ = some (.int .u64 f) := (hb1.cells.1 _ _ (by simp <;> omega)).trans (by simp [go_sem])
  have qt_1 : w1.cell? ⟨w.heap.size, 1, none⟩ = some (.int .u64 p) := (hb1.cells.1 _ _ (by simp <;> omega)).trans (by simp [go_sem])
  have pt := World.block_lt_of_cell? _ ⟨w.heap.size, 0, none⟩ qt_0
  have rt := Nat.lt_succ_of_lt pt
  refine wp_region_later (by kernel_rfl) (by kernel_rfl) ?_
  have lt_0 := fun (g : Later w1) => g.ok.cell qt_0
  have lt_1 := fun (g : Later w1) => g.ok.cell qt_1
  repeat (go_big_quiet_step ((fail)))
  refine wpQuiet_nil ?_
  intro w2 hl2
  have hb2 := laters_ext hl2
  clear hl2 lt_0 lt_1
  have hx2 : Ext w1 w2 := by repeat (first | with_reducible exact Ext.refl _ | with_reducible assumption | with_reducible refine Ext.alloc ?_ _ | with_reducible refine Ext.drew ?_ | with_reducible refine Ext.drewN ?_ _ | with_reducible refine Ext.setCell ?_ (by simp <;> omega) _ | with_reducible refine Ext.trans ?_ (by assumption))
  replace qt_0 := hx2.cell qt_0
  replace qt_1 := hx2.cell qt_1
  replace pt := Nat.lt_of_lt_of_le pt hx2.size
  replace rt := Nat.lt_succ_of_lt pt
  clear hx2
  go_wp2_with fail
  refine (r3Right _ _).mono ?_
  rintro e w' ⟨rfl, rfl⟩
  rw [hk]
  go_wp2_with fail
  with_reducible refine (none03 _ _ _ _ _ hk).mono ?_
  rintro e w3 ⟨rfl, hb3⟩
  have hx3 : Ext w2 w3 := by repeat (first | with_reducible exact Ext.refl _ | with_reducible assumption | with_reducible refine Ext.alloc ?_ _ | with_reducible refine Ext.drew ?_ | with_reducible refine Ext.drewN ?_ _ | with_reducible refine Ext.setCell ?_ (by simp <;> omega) _ | with_reducible refine Ext.trans ?_ (by assumption))
  replace qt_0 := hx3.cell qt_0
  replace qt_1 := hx3.cell qt_1
  replace pt := Nat.lt_of_lt_of_le pt hx3.size
  replace rt := Nat.lt_succ_of_lt pt
  clear hx3
  go_wp2_with fail
  with_reducible refine (live03 _).mono ?_
  rintro e w4 ⟨rfl, hb4⟩
  have hx4 : Ext w3 w4 := by repeat (first | with_reducible exact Ext.refl _ | with_reducible assumption | with_reducible refine Ext.alloc ?_ _ | with_reducible refine Ext.drew ?_ | with_reducible refine Ext.drewN ?_ _ | with_reducible refine Ext.setCell ?_ (by simp <;> omega) _ | with_reducible refine Ext.trans ?_ (by assumption))
  replace qt_0 := hx4.cell qt_0
  replace qt_1 := hx4.cell qt_1
  replace pt := Nat.lt_of_lt_of_le pt hx4.size
  replace rt := Nat.lt_succ_of_lt pt
  clear hx4
  go_wp2
  go_ret
  refine ⟨rfl, Ext.below ?_⟩
  repeat (first | with_reducible exact Ext.refl _ | with_reducible assumption | with_reducible refine Ext.alloc ?_ _ | with_reducible refine Ext.drew ?_ | with_reducible refine Ext.drewN ?_ _ | with_reducible refine Ext.setCell ?_ (by simp <;> omega) _ | with_reducible refine Ext.trans ?_ (by assumption))
set_option maxRecDepth 100000 in
theorem spanTells_many (n i f p : Int) (w : World) (hk : okN n = true) (hn : 200 < n) : Calls Try.prog 3 #[.int .i64 n, .int .i64 i, .agg #[.int .u64 f, .int .u64 p]] w fun e w' => e = .returned (.bool true) ∧ Below w.heap.size w w' := by
  have d : decide (200 < n) = true := by simpa using hn
  go_enter Try.func3, Try.ntmps3
  go_wp2
  refine settle_wp ?_
  intro w1 hb1
  have qt_0 : w1.cell? ⟨w.heap.size, 0, none⟩ = some (.int .u64 f) := (hb1.cells.1 _ _ (by simp <;> omega)).trans (by simp [go_sem])
  have qt_1 : w1.cell? ⟨w.heap.size, 1, none⟩ = some (.int .u64 p) := (hb1.cells.1 _ _ (by simp <;> omega)).trans (by simp [go_sem])
  have pt := World.block_lt_of_cell? _ ⟨w.heap.size, 0, none⟩ qt_0
  have rt := Nat.lt_succ_of_lt pt
  refine wp_region_later (by kernel_rfl) (by kernel_rfl) ?_
  have lt_0 := fun (g : Later w1) => g.ok.cell qt_0
  have lt_1 := fun (g : Later w1) => g.ok.cell qt_1
  repeat (go_big_quiet_step ((fail)))
  refine wpQuiet_nil ?_
  intro w2 hl2
  have hb2 := laters_ext hl2
  clear hl2 lt_0 lt_1
  have hx2 : Ext w1 w2 := by repeat (first | with_reducible exact Ext.refl _ | with_reducible assumption | with_reducible refine Ext.alloc ?_ _ | with_reducible refine Ext.drew ?_ | with_reducible refine Ext.drewN ?_ _ | with_reducible refine Ext.setCell ?_ (by simp <;> omega) _ | with_reducible refine Ext.trans ?_ (by assumption))
  replace qt_0 := hx2.cell qt_0
  replace qt_1 := hx2.cell qt_1
  replace pt := Nat.lt_of_lt_of_le pt hx2.size
  replace rt := Nat.lt_succ_of_lt pt
  clear hx2
  go_wp2_with fail
  refine (r3Right _ _).mono ?_
  rintro e w' ⟨rfl, rfl⟩
  rw [hk]
  go_wp2_with fail
  with_reducible refine (live03 _).mono ?_
  rintro e w3 ⟨rfl, hb3⟩
  have hx3 : Ext w2 w3 := by repeat (first | with_reducible exact Ext.refl _ | with_reducible assumption | with_reducible refine Ext.alloc ?_ _ | with_reducible refine Ext.drew ?_ | with_reducible refine Ext.drewN ?_ _ | with_reducible refine Ext.setCell ?_ (by simp <;> omega) _ | with_reducible refine Ext.trans ?_ (by assumption))
  replace qt_0 := hx3.cell qt_0
  replace qt_1 := hx3.cell qt_1
  replace pt := Nat.lt_of_lt_of_le pt hx3.size
  replace rt := Nat.lt_succ_of_lt pt
  clear hx3
  go_wp2
  go_ret
  refine ⟨rfl, Ext.below ?_⟩
  repeat (first | with_reducible exact Ext.refl _ | with_reducible assumption | with_reducible refine Ext.alloc ?_ _ | with_reducible refine Ext.drew ?_ | with_reducible refine Ext.drewN ?_ _ | with_reducible refine Ext.setCell ?_ (by simp <;> omega) _ | with_reducible refine Ext.trans ?_ (by assumption))
set_option maxRecDepth 100000 in
theorem spanTells_yes (n : Nat) (i f p : Int) (w : World) (hn : n ≤ 200) (hf : 0 ≤ f ∧ f < 18446744073709551616) (hp : 0 ≤ p ∧ p < 18446744073709551616) (h0 : 0 ≤ i) (h1 : i < n) :
    Calls Try.prog 3 #[.int .i64 n, .int .i64 i, .agg #[.int .u64 f, .int .u64 p]] w fun e w' => e = .returned (.bool true) ∧ Below w.heap.size w w' := by
  have hk : okN n = true := okN_of (by omega) (by omega)
  have d : decide (200 < (n : Int)) = false := by simp; omega
  have d0 : decide (0 ≤ i) = true := by simpa using h0
  have d1 : decide (i < (n : Int)) = true := by simpa using h1
  have c1 := fun w => sPlace32_k (p % 4294967296) (f % 4294967296) n w (by omega)
  have c2 := fun w => sPlace64_k p f n w (by omega)
  have c3 := fun w => rPlace32 (f % 4294967296) (p % 4294967296) n w (by omega) (by omega) (by omega)
  have c4 := fun w => rPlace64 f p n w (by omega) hp.1 hp.2
  have c5 := fun w => sHas32_k (p % 4294967296) (f % 4294967296) n w (by omega)
  have c6 := fun w => sHas64_k p f n w (by omega)
  generalize placeOf ((p % 4294967296 - f % 4294967296) % 4294967296) n = k32 at c1 c3 c5
  generalize placeOf (U64 (p - f)) n = k64 at c2 c4 c6
  obtain ⟨b32, e32⟩ : ∃ b, decide (0 ≤ k32) = b := ⟨_, rfl⟩
  obtain ⟨b64, e64⟩ : ∃ b, decide (0 ≤ k64) = b := ⟨_, rfl⟩
  obtain ⟨q32, m32⟩ : ∃ q, (if k32 < 0 then (0 : Int) else k32) = q := ⟨_, rfl⟩
  obtain ⟨q64, m64⟩ : ∃ q, (if k64 < 0 then (0 : Int) else k64) = q := ⟨_, rfl⟩
  rw [e32] at c1 c5
  rw [e64] at c2 c6
  rw [m32] at c1
  rw [m64] at c2
  have C1 := Lib.hid c1
  have C2 := Lib.hid c2
  have C3 := Lib.hid c3
  have C4 := Lib.hid c4
  have C5 := Lib.hid c5
  have C6 := Lib.hid c6
  have HF := Lib.hid hf
  have HP := Lib.hid hp
  clear c1 c2 c3 c4 c5 c6 hf hp
  go_enter Try.func3, Try.ntmps3
  go_wp2
  refine settle_wp ?_
  intro w1 hb1
  have qt_0 : w1.cell? ⟨w.heap.size, 0, none⟩ = some (.int .u64 f) := (hb1.cells.1 _ _ (by simp <;> omega)).trans (by simp [go_sem])
  have qt_1 : w1.cell? ⟨w.heap.size, 1, none⟩ = some (.int .u64 p) := (hb1.cells.1 _ _ (by simp <;> omega)).trans (by simp [go_sem])
  have pt := World.block_lt_of_cell? _ ⟨w.heap.size, 0, none⟩ qt_0
  have rt := Nat.lt_succ_of_lt pt
  refine wp_region_later (by kernel_rfl) (by kernel_rfl) ?_
  have lt_0 := fun (g : Later w1) => g.ok.cell qt_0
  have lt_1 := fun (g : Later w1) => g.ok.cell qt_1
  repeat (go_big_quiet_step ((fail)))
  refine wpQuiet_nil ?_
  intro w2 hl2
  have hb2 := laters_ext hl2
  clear hl2 lt_0 lt_1
  have hx2 : Ext w1 w2 := by repeat (first | with_reducible exact Ext.refl _ | with_reducible assumption | with_reducible refine Ext.alloc ?_ _ | with_reducible refine Ext.drew ?_ | with_reducible refine Ext.drewN ?_ _ | with_reducible refine Ext.setCell ?_ (by simp <;> omega) _ | with_reducible refine Ext.trans ?_ (by assumption))
  replace qt_0 := hx2.cell qt_0
  replace qt_1 := hx2.cell qt_1
  replace pt := Nat.lt_of_lt_of_le pt hx2.size
  replace rt := Nat.lt_succ_of_lt pt
  clear hx2
  go_wp2_with fail
  refine (r3Right _ _).mono ?_
  rintro e w' ⟨rfl, rfl⟩
  rw [hk]
  go_wp2_with fail
  with_reducible refine (small03 _ _ _).mono ?_
  rintro e w3 ⟨rfl, hb3⟩
  have hx3 : Ext w2 w3 := by repeat (first | with_reducible exact Ext.refl _ | with_reducible assumption | with_reducible refine Ext.alloc ?_ _ | with_reducible refine Ext.drew ?_ | with_reducible refine Ext.drewN ?_ _ | with_reducible refine Ext.setCell ?_ (by simp <;> omega) _ | with_reducible refine Ext.trans ?_ (by assumption))
  replace qt_0 := hx3.cell qt_0
  replace qt_1 := hx3.cell qt_1
  replace pt := Nat.lt_of_lt_of_le pt hx3.size
  replace rt := Nat.lt_succ_of_lt pt
  clear hx3
  go_wp2_with fail
  with_reducible refine (great03 _ _ _).mono ?_
  rintro e w4 ⟨rfl, hb4⟩
  have hx4 : Ext w3 w4 := by repeat (first | with_reducible exact Ext.refl _ | with_reducible assumption | with_reducible refine Ext.alloc ?_ _ | with_reducible refine Ext.drew ?_ | with_reducible refine Ext.drewN ?_ _ | with_reducible refine Ext.setCell ?_ (by simp <;> omega) _ | with_reducible refine Ext.trans ?_ (by assumption))
  replace qt_0 := hx4.cell qt_0
  replace qt_1 := hx4.cell qt_1
  replace pt := Nat.lt_of_lt_of_le pt hx4.size
  replace rt := Nat.lt_succ_of_lt pt
  clear hx4
  go_wp2_with fail
  refine (rCut_32 _ _ HF.out.1).mono ?_
  rintro e w' ⟨rfl, rfl⟩
  go_wp2
  refine settle_wp ?_
  intro w5 hb5
  have hx5 : Ext w4 w5 := by repeat (first | with_reducible exact Ext.refl _ | with_reducible assumption | with_reducible refine Ext.alloc ?_ _ | with_reducible refine Ext.drew ?_ | with_reducible refine Ext.drewN ?_ _ | with_reducible refine Ext.setCell ?_ (by simp <;> omega) _ | with_reducible refine Ext.trans ?_ (by assumption))
  replace qt_0 := hx5.cell qt_0
  replace qt_1 := hx5.cell qt_1
  replace pt := Nat.lt_of_lt_of_le pt hx5.size
  replace rt := Nat.lt_succ_of_lt pt
  clear hx5
  have qa_0 : w5.cell? ⟨w4.heap.size, 0, none⟩ = some (.int .u32 (f % 4294967296)) := (hb5.cells.1 _ _ (by simp <;> omega)).trans (by simp [go_sem])
  have qa_1 : w5.cell? ⟨w4.heap.size, 1, none⟩ = some (.int .i64 n) := (hb5.cells.1 _ _ (by simp <;> omega)).trans (by simp [go_sem])
  have pa := World.block_lt_of_cell? _ ⟨w4.heap.size, 0, none⟩ qa_0
  have ra := Nat.lt_succ_of_lt pa
  have qb_0 : w5.cell? ⟨w4.heap.size + 1, 0, none⟩ = some (.int .u64 f) := (hb5.cells.1 _ _ (by simp <;> omega)).trans (by simp [go_sem])
  have qb_1 : w5.cell? ⟨w4.heap.size + 1, 1, none⟩ = some (.int .i64 n) := (hb5.cells.1 _ _ (by simp <;> omega)).trans (by simp [go_sem])
  have pb := World.block_lt_of_cell? _ ⟨w4.heap.size + 1, 0, none⟩ qb_0
  have rb := Nat.lt_succ_of_lt pb
  have qx_0 : w5.cell? ⟨w4.heap.size + 1 + 1, 0, none⟩ = some (.int .i64 32) := (hb5.cells.1 _ _ (by simp <;> omega)).trans (by simp [go_sem])
  have qx_1 : w5.cell? ⟨w4.heap.size + 1 + 1, 1, none⟩ = some (.int .u64 (f % 4294967296)) := (hb5.cells.1 _ _ (by simp <;> omega)).trans (by simp [go_sem])
  have qx_2 : w5.cell? ⟨w4.heap.size + 1 + 1, 2, none⟩ = some (.int .i64 n) := (hb5.cells.1 _ _ (by simp <;> omega)).trans (by simp [go_sem])
  have px := World.block_lt_of_cell? _ ⟨w4.heap.size + 1 + 1, 0, none⟩ qx_0
  have rx := Nat.lt_succ_of_lt px
  have qy_0 : w5.cell? ⟨w4.heap.size + 1 + 1 + 1, 0, none⟩ = some (.int .i64 64) := (hb5.cells.1 _ _ (by simp <;> omega)).trans (by simp [go_sem])
  have qy_1 : w5.cell? ⟨w4.heap.size + 1 + 1 + 1, 1, none⟩ = some (.int .u64 f) := (hb5.cells.1 _ _ (by simp <;> omega)).trans (by simp [go_sem])
  have qy_2 : w5.cell? ⟨w4.heap.size + 1 + 1 + 1, 2, none⟩ = some (.int .i64 n) := (hb5.cells.1 _ _ (by simp <;> omega)).trans (by simp [go_sem])
  have py := World.block_lt_of_cell? _ ⟨w4.heap.size + 1 + 1 + 1, 0, none⟩ qy_0
  have ry := Nat.lt_succ_of_lt py
  refine wp_region_later (by kernel_rfl) (by kernel_rfl) ?_
  have lt_0 := fun (g : Later w5) => g.ok.cell qt_0
  have lt_1 := fun (g : Later w5) => g.ok.cell qt_1
  have la_0 := fun (g : Later w5) => g.ok.cell qa_0
  have la_1 := fun (g : Later w5) => g.ok.cell qa_1
  have lb_0 := fun (g : Later w5) => g.ok.cell qb_0
  have lb_1 := fun (g : Later w5) => g.ok.cell qb_1
  have lx_0 := fun (g : Later w5) => g.ok.cell qx_0
  have lx_1 := fun (g : Later w5) => g.ok.cell qx_1
  have lx_2 := fun (g : Later w5) => g.ok.cell qx_2
  have ly_0 := fun (g : Later w5) => g.ok.cell qy_0
  have ly_1 := fun (g : Later w5) => g.ok.cell qy_1
  have ly_2 := fun (g : Later w5) => g.ok.cell qy_2
  repeat (go_big_quiet_step ((fail)))
  go_big_quiet_step ((go_at_call 14; exact laterS (ofU32 _ _)))
  repeat (go_big_quiet_step ((fail)))
  go_big_quiet_step ((go_at_call 13; exact laterC (C1.out _)))
  repeat (go_big_quiet_step ((fail)))
  refine wpQuiet_nil ?_
  intro w6 hl6
  have hb6 := laters_ext hl6
  clear hl6 lt_0 lt_1 la_0 la_1 lb_0 lb_1 lx_0 lx_1 lx_2 ly_0 ly_1 ly_2
  have hx6 : Ext w5 w6 := by repeat (first | with_reducible exact Ext.refl _ | with_reducible assumption | with_reducible refine Ext.alloc ?_ _ | with_reducible refine Ext.drew ?_ | with_reducible refine Ext.drewN ?_ _ | with_reducible refine Ext.setCell ?_ (by simp <;> omega) _ | with_reducible refine Ext.trans ?_ (by assumption))
  replace qt_0 := hx6.cell qt_0
  replace qt_1 := hx6.cell qt_1
  replace pt := Nat.lt_of_lt_of_le pt hx6.size
  replace rt := Nat.lt_succ_of_lt pt
  replace qa_0 := hx6.cell qa_0
  replace qa_1 := hx6.cell qa_1
  replace pa := Nat.lt_of_lt_of_le pa hx6.size
  replace ra := Nat.lt_succ_of_lt pa
  replace qb_0 := hx6.cell qb_0
  replace qb_1 := hx6.cell qb_1
  replace pb := Nat.lt_of_lt_of_le pb hx6.size
  replace rb := Nat.lt_succ_of_lt pb
  replace qx_0 := hx6.cell qx_0
  replace qx_1 := hx6.cell qx_1
  replace qx_2 := hx6.cell qx_2
  replace px := Nat.lt_of_lt_of_le px hx6.size
  replace rx := Nat.lt_succ_of_lt px
  replace qy_0 := hx6.cell qy_0
  replace qy_1 := hx6.cell qy_1
  replace qy_2 := hx6.cell qy_2
  replace py := Nat.lt_of_lt_of_le py hx6.size
  replace ry := Nat.lt_succ_of_lt py
  clear hx6
  go_wp2_with fail
  with_reducible refine (C2.out _).mono ?_
  rintro e w7 ⟨rfl, hb7⟩
  have hx7 : Ext w6 w7 := by repeat (first | with_reducible exact Ext.refl _ | with_reducible assumption | with_reducible refine Ext.alloc ?_ _ | with_reducible refine Ext.drew ?_ | with_reducible refine Ext.drewN ?_ _ | with_reducible refine Ext.setCell ?_ (by simp <;> omega) _ | with_reducible refine Ext.trans ?_ (by assumption))
  replace qt_0 := hx7.cell qt_0
  replace qt_1 := hx7.cell qt_1
  replace pt := Nat.lt_of_lt_of_le pt hx7.size
  replace rt := Nat.lt_succ_of_lt pt
  replace qa_0 := hx7.cell qa_0
  replace qa_1 := hx7.cell qa_1
  replace pa := Nat.lt_of_lt_of_le pa hx7.size
  replace ra := Nat.lt_succ_of_lt pa
  replace qb_0 := hx7.cell qb_0
  replace qb_1 := hx7.cell qb_1
  replace pb := Nat.lt_of_lt_of_le pb hx7.size
  replace rb := Nat.lt_succ_of_lt pb
  replace qx_0 := hx7.cell qx_0
  replace qx_1 := hx7.cell qx_1
  replace qx_2 := hx7.cell qx_2
  replace px := Nat.lt_of_lt_of_le px hx7.size
  replace rx := Nat.lt_succ_of_lt px
  replace qy_0 := hx7.cell qy_0
  replace qy_1 := hx7.cell qy_1
  replace qy_2 := hx7.cell qy_2
  replace py := Nat.lt_of_lt_of_le py hx7.size
  replace ry := Nat.lt_succ_of_lt py
  clear hx7
  go_wp2
  refine wp_region_later (by kernel_rfl) (by kernel_rfl) ?_
  have lt_0 := fun (g : Later w7) => g.ok.cell qt_0
  have lt_1 := fun (g : Later w7) => g.ok.cell qt_1
  have la_0 := fun (g : Later w7) => g.ok.cell qa_0
  have la_1 := fun (g : Later w7) => g.ok.cell qa_1
  have lb_0 := fun (g : Later w7) => g.ok.cell qb_0
  have lb_1 := fun (g : Later w7) => g.ok.cell qb_1
  have lx_0 := fun (g : Later w7) => g.ok.cell qx_0
  have lx_1 := fun (g : Later w7) => g.ok.cell qx_1
  have lx_2 := fun (g : Later w7) => g.ok.cell qx_2
  have ly_0 := fun (g : Later w7) => g.ok.cell qy_0
  have ly_1 := fun (g : Later w7) => g.ok.cell qy_1
  have ly_2 := fun (g : Later w7) => g.ok.cell qy_2
  repeat (go_big_quiet_step ((fail)))
  go_big_quiet_step ((go_at_call 12; exact laterS (rCut_32 _ _ HP.out.1)))
  repeat (go_big_quiet_step ((fail)))
  go_big_quiet_step ((go_at_call 16; exact laterC (C3.out _)))
  repeat (go_big_quiet_step ((fail)))
  go_big_quiet_step ((go_at_call 16; exact laterC (C4.out _)))
  repeat (go_big_quiet_step ((fail)))
  refine wpQuiet_nil ?_
  intro w8 hl8
  have hb8 := laters_ext hl8
  clear hl8 lt_0 lt_1 la_0 la_1 lb_0 lb_1 lx_0 lx_1 lx_2 ly_0 ly_1 ly_2
  have hx8 : Ext w7 w8 := by repeat (first | with_reducible exact Ext.refl _ | with_reducible assumption | with_reducible refine Ext.alloc ?_ _ | with_reducible refine Ext.drew ?_ | with_reducible refine Ext.drewN ?_ _ | with_reducible refine Ext.setCell ?_ (by simp <;> omega) _ | with_reducible refine Ext.trans ?_ (by assumption))
  replace qt_0 := hx8.cell qt_0
  replace qt_1 := hx8.cell qt_1
  replace pt := Nat.lt_of_lt_of_le pt hx8.size
  replace rt := Nat.lt_succ_of_lt pt
  replace qa_0 := hx8.cell qa_0
  replace qa_1 := hx8.cell qa_1
  replace pa := Nat.lt_of_lt_of_le pa hx8.size
  replace ra := Nat.lt_succ_of_lt pa
  replace qb_0 := hx8.cell qb_0
  replace qb_1 := hx8.cell qb_1
  replace pb := Nat.lt_of_lt_of_le pb hx8.size
  replace rb := Nat.lt_succ_of_lt pb
  replace qx_0 := hx8.cell qx_0
  replace qx_1 := hx8.cell qx_1
  replace qx_2 := hx8.cell qx_2
  replace px := Nat.lt_of_lt_of_le px hx8.size
  replace rx := Nat.lt_succ_of_lt px
  replace qy_0 := hx8.cell qy_0
  replace qy_1 := hx8.cell qy_1
  replace qy_2 := hx8.cell qy_2
  replace py := Nat.lt_of_lt_of_le py hx8.size
  replace ry := Nat.lt_succ_of_lt py
  clear hx8
  go_wp2
  refine wp_region_later (by kernel_rfl) (by kernel_rfl) ?_
  have lt_0 := fun (g : Later w8) => g.ok.cell qt_0
  have lt_1 := fun (g : Later w8) => g.ok.cell qt_1
  have la_0 := fun (g : Later w8) => g.ok.cell qa_0
  have la_1 := fun (g : Later w8) => g.ok.cell qa_1
  have lb_0 := fun (g : Later w8) => g.ok.cell qb_0
  have lb_1 := fun (g : Later w8) => g.ok.cell qb_1
  have lx_0 := fun (g : Later w8) => g.ok.cell qx_0
  have lx_1 := fun (g : Later w8) => g.ok.cell qx_1
  have lx_2 := fun (g : Later w8) => g.ok.cell qx_2
  have ly_0 := fun (g : Later w8) => g.ok.cell qy_0
  have ly_1 := fun (g : Later w8) => g.ok.cell qy_1
  have ly_2 := fun (g : Later w8) => g.ok.cell qy_2
  repeat (go_big_quiet_step ((fail)))
  go_big_quiet_step ((go_at_call 17; exact laterC (sRight32_yes _ _ _ hk)))
  repeat (go_big_quiet_step ((fail)))
  go_big_quiet_step ((go_at_call 14; exact laterS (ofU32 _ _)))
  repeat (go_big_quiet_step ((fail)))
  go_big_quiet_step ((go_at_call 18; exact laterC (C5.out _)))
  repeat (go_big_quiet_step ((fail)))
  go_big_quiet_step ((go_at_call 19; exact laterC (C6.out _)))
  repeat (go_big_quiet_step ((fail)))
  refine wpQuiet_nil ?_
  intro w9 hl9
  have hb9 := laters_ext hl9
  clear hl9 lt_0 lt_1 la_0 la_1 lb_0 lb_1 lx_0 lx_1 lx_2 ly_0 ly_1 ly_2
  have hx9 : Ext w8 w9 := by repeat (first | with_reducible exact Ext.refl _ | with_reducible assumption | with_reducible refine Ext.alloc ?_ _ | with_reducible refine Ext.drew ?_ | with_reducible refine Ext.drewN ?_ _ | with_reducible refine Ext.setCell ?_ (by simp <;> omega) _ | with_reducible refine Ext.trans ?_ (by assumption))
  replace qt_0 := hx9.cell qt_0
  replace qt_1 := hx9.cell qt_1
  replace pt := Nat.lt_of_lt_of_le pt hx9.size
  replace rt := Nat.lt_succ_of_lt pt
  replace qa_0 := hx9.cell qa_0
  replace qa_1 := hx9.cell qa_1
  replace pa := Nat.lt_of_lt_of_le pa hx9.size
  replace ra := Nat.lt_succ_of_lt pa
  replace qb_0 := hx9.cell qb_0
  replace qb_1 := hx9.cell qb_1
  replace pb := Nat.lt_of_lt_of_le pb hx9.size
  replace rb := Nat.lt_succ_of_lt pb
  replace qx_0 := hx9.cell qx_0
  replace qx_1 := hx9.cell qx_1
  replace qx_2 := hx9.cell qx_2
  replace px := Nat.lt_of_lt_of_le px hx9.size
  replace rx := Nat.lt_succ_of_lt px
  replace qy_0 := hx9.cell qy_0
  replace qy_1 := hx9.cell qy_1
  replace qy_2 := hx9.cell qy_2
  replace py := Nat.lt_of_lt_of_le py hx9.size
  replace ry := Nat.lt_succ_of_lt py
  clear hx9
  clear e32 e64 m32 m64
  go_wp2_with fail
  with_reducible refine (sAt32_yes _ _ _ _ hk h0 h1).mono ?_
  rintro e w10 ⟨rfl, hb10⟩
  have hx10 : Ext w9 w10 := by repeat (first | with_reducible exact Ext.refl _ | with_reducible assumption | with_reducible refine Ext.alloc ?_ _ | with_reducible refine Ext.drew ?_ | with_reducible refine Ext.drewN ?_ _ | with_reducible refine Ext.setCell ?_ (by simp <;> omega) _ | with_reducible refine Ext.trans ?_ (by assumption))
  replace qt_0 := hx10.cell qt_0
  replace qt_1 := hx10.cell qt_1
  replace pt := Nat.lt_of_lt_of_le pt hx10.size
  replace rt := Nat.lt_succ_of_lt pt
  replace qa_0 := hx10.cell qa_0
  replace qa_1 := hx10.cell qa_1
  replace pa := Nat.lt_of_lt_of_le pa hx10.size
  replace ra := Nat.lt_succ_of_lt pa
  replace qb_0 := hx10.cell qb_0
  replace qb_1 := hx10.cell qb_1
  replace pb := Nat.lt_of_lt_of_le pb hx10.size
  replace rb := Nat.lt_succ_of_lt pb
  replace qx_0 := hx10.cell qx_0
  replace qx_1 := hx10.cell qx_1
  replace qx_2 := hx10.cell qx_2
  replace px := Nat.lt_of_lt_of_le px hx10.size
  replace rx := Nat.lt_succ_of_lt px
  replace qy_0 := hx10.cell qy_0
  replace qy_1 := hx10.cell qy_1
  replace qy_2 := hx10.cell qy_2
  replace py := Nat.lt_of_lt_of_le py hx10.size
  replace ry := Nat.lt_succ_of_lt py
  clear hx10
  go_wp2_with fail
  with_reducible refine (sAt64_yes _ _ _ _ hk h0 h1).mono ?_
  rintro e w11 ⟨rfl, hb11⟩
  have hx11 : Ext w10 w11 := by repeat (first | with_reducible exact Ext.refl _ | with_reducible assumption | with_reducible refine Ext.alloc ?_ _ | with_reducible refine Ext.drew ?_ | with_reducible refine Ext.drewN ?_ _ | with_reducible refine Ext.setCell ?_ (by simp <;> omega) _ | with_reducible refine Ext.trans ?_ (by assumption))
  replace qt_0 := hx11.cell qt_0
  replace qt_1 := hx11.cell qt_1
  replace pt := Nat.lt_of_lt_of_le pt hx11.size
  replace rt := Nat.lt_succ_of_lt pt
  replace qa_0 := hx11.cell qa_0
  replace qa_1 := hx11.cell qa_1
  replace pa := Nat.lt_of_lt_of_le pa hx11.size
  replace ra := Nat.lt_succ_of_lt pa
  replace qb_0 := hx11.cell qb_0
  replace qb_1 := hx11.cell qb_1
  replace pb := Nat.lt_of_lt_of_le pb hx11.size
  replace rb := Nat.lt_succ_of_lt pb
  replace qx_0 := hx11.cell qx_0
  replace qx_1 := hx11.cell qx_1
  replace qx_2 := hx11.cell qx_2
  replace px := Nat.lt_of_lt_of_le px hx11.size
  replace rx := Nat.lt_succ_of_lt px
  replace qy_0 := hx11.cell qy_0
  replace qy_1 := hx11.cell qy_1
  replace qy_2 := hx11.cell qy_2
  replace py := Nat.lt_of_lt_of_le py hx11.size
  replace ry := Nat.lt_succ_of_lt py
  clear hx11
  go_wp2_with fail
  refine (rPlus_32 _ _ _).mono ?_
  rintro e w' ⟨rfl, rfl⟩
  go_wp2_with fail
  refine (rPlus_64 _ _ _).mono ?_
  rintro e w' ⟨rfl, rfl⟩
  go_wp2_with fail
  with_reducible refine (sEnd32 _ _ _ hk).mono ?_
  rintro e w12 ⟨rfl, hb12⟩
  have hx12 : Ext w11 w12 := by repeat (first | with_reducible exact Ext.refl _ | with_reducible assumption | with_reducible refine Ext.alloc ?_ _ | with_reducible refine Ext.drew ?_ | with_reducible refine Ext.drewN ?_ _ | with_reducible refine Ext.setCell ?_ (by simp <;> omega) _ | with_reducible refine Ext.trans ?_ (by assumption))
  replace qt_0 := hx12.cell qt_0
  replace qt_1 := hx12.cell qt_1
  replace pt := Nat.lt_of_lt_of_le pt hx12.size
  replace rt := Nat.lt_succ_of_lt pt
  replace qa_0 := hx12.cell qa_0
  replace qa_1 := hx12.cell qa_1
  replace pa := Nat.lt_of_lt_of_le pa hx12.size
  replace ra := Nat.lt_succ_of_lt pa
  replace qb_0 := hx12.cell qb_0
  replace qb_1 := hx12.cell qb_1
  replace pb := Nat.lt_of_lt_of_le pb hx12.size
  replace rb := Nat.lt_succ_of_lt pb
  replace qx_0 := hx12.cell qx_0
  replace qx_1 := hx12.cell qx_1
  replace qx_2 := hx12.cell qx_2
  replace px := Nat.lt_of_lt_of_le px hx12.size
  replace rx := Nat.lt_succ_of_lt px
  replace qy_0 := hx12.cell qy_0
  replace qy_1 := hx12.cell qy_1
  replace qy_2 := hx12.cell qy_2
  replace py := Nat.lt_of_lt_of_le py hx12.size
  replace ry := Nat.lt_succ_of_lt py
  clear hx12
  go_wp2_with fail
  refine (rPlus_32 _ _ _).mono ?_
  rintro e w' ⟨rfl, rfl⟩
  go_wp2_with fail
  with_reducible refine (sEnd64 _ _ _ hk).mono ?_
  rintro e w13 ⟨rfl, hb13⟩
  have hx13 : Ext w12 w13 := by repeat (first | with_reducible exact Ext.refl _ | with_reducible assumption | with_reducible refine Ext.alloc ?_ _ | with_reducible refine Ext.drew ?_ | with_reducible refine Ext.drewN ?_ _ | with_reducible refine Ext.setCell ?_ (by simp <;> omega) _ | with_reducible refine Ext.trans ?_ (by assumption))
  replace qt_0 := hx13.cell qt_0
  replace qt_1 := hx13.cell qt_1
  replace pt := Nat.lt_of_lt_of_le pt hx13.size
  replace rt := Nat.lt_succ_of_lt pt
  replace qa_0 := hx13.cell qa_0
  replace qa_1 := hx13.cell qa_1
  replace pa := Nat.lt_of_lt_of_le pa hx13.size
  replace ra := Nat.lt_succ_of_lt pa
  replace qb_0 := hx13.cell qb_0
  replace qb_1 := hx13.cell qb_1
  replace pb := Nat.lt_of_lt_of_le pb hx13.size
  replace rb := Nat.lt_succ_of_lt pb
  replace qx_0 := hx13.cell qx_0
  replace qx_1 := hx13.cell qx_1
  replace qx_2 := hx13.cell qx_2
  replace px := Nat.lt_of_lt_of_le px hx13.size
  replace rx := Nat.lt_succ_of_lt px
  replace qy_0 := hx13.cell qy_0
  replace qy_1 := hx13.cell qy_1
  replace qy_2 := hx13.cell qy_2
  replace py := Nat.lt_of_lt_of_le py hx13.size
  replace ry := Nat.lt_succ_of_lt py
  clear hx13
  go_wp2_with fail
  refine (rPlus_64 _ _ _).mono ?_
  rintro e w' ⟨rfl, rfl⟩
  go_wp2_with fail
  with_reducible refine (live03 _).mono ?_
  rintro e w14 ⟨rfl, hb14⟩
  have hx14 : Ext w13 w14 := by repeat (first | with_reducible exact Ext.refl _ | with_reducible assumption | with_reducible refine Ext.alloc ?_ _ | with_reducible refine Ext.drew ?_ | with_reducible refine Ext.drewN ?_ _ | with_reducible refine Ext.setCell ?_ (by simp <;> omega) _ | with_reducible refine Ext.trans ?_ (by assumption))
  replace qt_0 := hx14.cell qt_0
  replace qt_1 := hx14.cell qt_1
  replace pt := Nat.lt_of_lt_of_le pt hx14.size
  replace rt := Nat.lt_succ_of_lt pt
  replace qa_0 := hx14.cell qa_0
  replace qa_1 := hx14.cell qa_1
  replace pa := Nat.lt_of_lt_of_le pa hx14.size
  replace ra := Nat.lt_succ_of_lt pa
  replace qb_0 := hx14.cell qb_0
  replace qb_1 := hx14.cell qb_1
  replace pb := Nat.lt_of_lt_of_le pb hx14.size
  replace rb := Nat.lt_succ_of_lt pb
  replace qx_0 := hx14.cell qx_0
  replace qx_1 := hx14.cell qx_1
  replace qx_2 := hx14.cell qx_2
  replace px := Nat.lt_of_lt_of_le px hx14.size
  replace rx := Nat.lt_succ_of_lt px
  replace qy_0 := hx14.cell qy_0
  replace qy_1 := hx14.cell qy_1
  replace qy_2 := hx14.cell qy_2
  replace py := Nat.lt_of_lt_of_le py hx14.size
  replace ry := Nat.lt_succ_of_lt py
  clear hx14
  go_wp2
  go_ret
  refine ⟨rfl, Ext.below ?_⟩
  repeat (first | with_reducible exact Ext.refl _ | with_reducible assumption | with_reducible refine Ext.alloc ?_ _ | with_reducible refine Ext.drew ?_ | with_reducible refine Ext.drewN ?_ _ | with_reducible refine Ext.setCell ?_ (by simp <;> omega) _ | with_reducible refine Ext.trans ?_ (by assumption))
end Go.Proofs.Ytclhbdedibcgjaa

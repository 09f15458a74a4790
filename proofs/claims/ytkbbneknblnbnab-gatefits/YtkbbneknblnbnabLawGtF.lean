/- The walk of GateFits. -/
import Derived.Test.YtkbbneknblnbnabGt
import Derived.Test.YtkbbneknblnbnabExt
import Derived.ChangeAlike
namespace Go.Proofs.Ytkbbneknblnbnab
open Go.RowKit
set_option linter.unusedVariables false
set_option maxHeartbeats 1000000
attribute [local go_sem] later_cell later_frozen later_const
theorem gateFits_walk (c n a b : Int) (w : World) (w0 : (Lit.int .i64 c).wf = true) (w1 : (Lit.int .i64 n).wf = true) (w2 : (Lit.int .u64 a).wf = true) (w3 : (Lit.int .u64 b).wf = true) :
    Calls Try.prog 3 #[.int .i64 c, .int .i64 n, .agg #[.int .u64 a, .int .u64 b]] w fun e w' => e = .returned (.bool true) ∧ Below w.heap.size w w' := by
  have ha := wf_u64 w2
  have hb := wf_u64 w3
  have hc := (wf_i64 w0).2
  clear w0 w1 w2 w3
  have h1 : D32 ((a % 4294967296 + n) % 4294967296 - b % 4294967296) = D32 ((a + n) - b) := by unfold D32; omega
  have h2 := D32_mod_sub_mod a b
  have C1 := fun w => fits32 c (a % 4294967296) n (b % 4294967296) w
  rw [h1] at C1
  have C2 := fun w => rFits32 c a n b w hb.1
  have C3 := fun w => fits64 c a n b w
  have C4 := fun w => rFits64 c a n b w
  have C5 := fun w => space32 c (a % 4294967296) (b % 4294967296) w hc
  rw [h2] at C5
  have C6 := fun w => rSpace32 c a b w hc ha.1 hb.1
  have C7 := fun w => space64 c a b w hc
  have C8 := fun w => rSpace64 c a b w hc
  generalize spc c (D32 (a - b)) = s1 at *
  generalize spc c (D64 (a - b)) = s2 at *
  generalize decide (D32 (a + n - b) ≤ c) = t1 at *
  generalize decide (D64 (U64 (a + n) - b) ≤ c) = t2 at *
  have K1 := Lib.hid C1
  have K2 := Lib.hid C2
  have K3 := Lib.hid C3
  have K4 := Lib.hid C4
  have K5 := Lib.hid C5
  have K6 := Lib.hid C6
  have K7 := Lib.hid C7
  have K8 := Lib.hid C8
  clear C1 C2 C3 C4 C5 C6 C7 C8 h1 h2
  go_enter Try.func3, Try.ntmps3
  go_wp2
  refine settle_wp ?_
  intro w1 hb1
  have qt_0 : w1.cell? ⟨w.heap.size, 0, none⟩ = some (.int .u64 a) := (hb1.cells.1 _ _ (by simp <;> omega)).trans (by simp [go_sem])
  have qt_1 : w1.cell? ⟨w.heap.size, 1, none⟩ = some (.int .u64 b) := (hb1.cells.1 _ _ (by simp <;> omega)).trans (by simp [go_sem])
  have pt := World.block_lt_of_cell? _ ⟨w.heap.size, 0, none⟩ qt_0
  have rt := Nat.lt_succ_of_lt pt
  have E1 : Ext w w1 := by repeat (first | with_reducible exact Ext.refl _ | with_reducible assumption | with_reducible refine Ext.alloc ?_ _ | with_reducible refine Ext.drew ?_ | with_reducible refine Ext.drewN ?_ _ | with_reducible refine Ext.setCell ?_ (by simp <;> omega) _ | with_reducible refine Ext.trans ?_ (by assumption))
  refine wp_region_later (by kernel_rfl) (by kernel_rfl) ?_
  have lt_0 := fun (g : Later w1) => g.ok.cell qt_0
  have lt_1 := fun (g : Later w1) => g.ok.cell qt_1
  repeat (go_big_quiet_step ((fail)))
  go_big_quiet_step ((go_at_call 4; exact laterS (ofU32 _ _)))
  repeat (go_big_quiet_step ((fail)))
  go_big_quiet_step ((go_at_call 4; exact laterS (ofU32 _ _)))
  repeat (go_big_quiet_step ((fail)))
  refine wpQuiet_nil ?_
  intro w2 hl2
  have hb2 := laters_ext hl2
  clear hl2 lt_0 lt_1
  have hx2 : Ext w1 w2 := by repeat (first | with_reducible exact Ext.refl _ | with_reducible assumption | with_reducible refine Ext.alloc ?_ _ | with_reducible refine Ext.drew ?_ | with_reducible refine Ext.drewN ?_ _ | with_reducible refine Ext.setCell ?_ (by simp <;> omega) _ | with_reducible refine Ext.trans ?_ (by assumption))
  replace qt_0 := hx2.cell qt_0
  replace qt_1 := hx2.cell qt_1
  replace pt := Nat.lt_of_lt_of_le pt hx2.size
  replace rt := Nat.lt_succ_of_lt pt
  clear hx2
  have E2 : Ext w w2 := E1.trans hb2
  clear E1 hb2
  go_wp2
  refine wp_region_later (by kernel_rfl) (by kernel_rfl) ?_
  have lt_0 := fun (g : Later w2) => g.ok.cell qt_0
  have lt_1 := fun (g : Later w2) => g.ok.cell qt_1
  repeat (go_big_quiet_step ((fail)))
  go_big_quiet_step ((go_at_call 5; exact laterS (K1.out _)))
  repeat (go_big_quiet_step ((fail)))
  go_big_quiet_step ((go_at_call 6; exact laterS (K2.out _)))
  repeat (go_big_quiet_step ((fail)))
  go_big_quiet_step ((go_at_call 7; exact laterS (K3.out _)))
  repeat (go_big_quiet_step ((fail)))
  go_big_quiet_step ((go_at_call 6; exact laterS (K4.out _)))
  repeat (go_big_quiet_step ((fail)))
  refine wpQuiet_nil ?_
  intro w3 hl3
  have hb3 := laters_ext hl3
  clear hl3 lt_0 lt_1
  have hx3 : Ext w2 w3 := by repeat (first | with_reducible exact Ext.refl _ | with_reducible assumption | with_reducible refine Ext.alloc ?_ _ | with_reducible refine Ext.drew ?_ | with_reducible refine Ext.drewN ?_ _ | with_reducible refine Ext.setCell ?_ (by simp <;> omega) _ | with_reducible refine Ext.trans ?_ (by assumption))
  replace qt_0 := hx3.cell qt_0
  replace qt_1 := hx3.cell qt_1
  replace pt := Nat.lt_of_lt_of_le pt hx3.size
  replace rt := Nat.lt_succ_of_lt pt
  clear hx3
  have E3 : Ext w w3 := E2.trans hb3
  clear E2 hb3
  go_wp2
  refine wp_region_later (by kernel_rfl) (by kernel_rfl) ?_
  have lt_0 := fun (g : Later w3) => g.ok.cell qt_0
  have lt_1 := fun (g : Later w3) => g.ok.cell qt_1
  repeat (go_big_quiet_step ((fail)))
  go_big_quiet_step ((go_at_call 8; exact laterS (K5.out _)))
  repeat (go_big_quiet_step ((fail)))
  go_big_quiet_step ((go_at_call 9; exact laterS (K6.out _)))
  repeat (go_big_quiet_step ((fail)))
  go_big_quiet_step ((go_at_call 10; exact laterS (K7.out _)))
  repeat (go_big_quiet_step ((fail)))
  go_big_quiet_step ((go_at_call 9; exact laterS (K8.out _)))
  repeat (go_big_quiet_step ((fail)))
  go_big_quiet_step ((go_at_call 11; exact laterS (live16 _)))
  repeat (go_big_quiet_step ((fail)))
  refine wpQuiet_nil ?_
  intro w4 hl4
  have hb4 := laters_ext hl4
  clear hl4 lt_0 lt_1
  have hx4 : Ext w3 w4 := by repeat (first | with_reducible exact Ext.refl _ | with_reducible assumption | with_reducible refine Ext.alloc ?_ _ | with_reducible refine Ext.drew ?_ | with_reducible refine Ext.drewN ?_ _ | with_reducible refine Ext.setCell ?_ (by simp <;> omega) _ | with_reducible refine Ext.trans ?_ (by assumption))
  replace qt_0 := hx4.cell qt_0
  replace qt_1 := hx4.cell qt_1
  replace pt := Nat.lt_of_lt_of_le pt hx4.size
  replace rt := Nat.lt_succ_of_lt pt
  clear hx4
  have E4 : Ext w w4 := E3.trans hb4
  clear E3 hb4
  go_wp2
  go_ret
  exact ⟨rfl, E4.below⟩
end Go.Proofs.Ytkbbneknblnbnab

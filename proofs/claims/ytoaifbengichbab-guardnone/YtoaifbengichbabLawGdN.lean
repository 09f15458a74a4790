/- The walk of GuardNone. -/
import Derived.Test.YtoaifbengichbabGdL
import Derived.Test.YtoaifbengichbabOpenG
namespace Go.Proofs.Ytoaifbengichbab
open Go.RowKit
set_option linter.unusedVariables false
set_option linter.unusedSimpArgs false
set_option maxHeartbeats 4000000
attribute [local go_sem] later_cell later_frozen later_const
set_option maxRecDepth 100000 in
theorem none_long (k n p op m : Int) (a : Option Addr) (len cap : Nat) (C : Int) (w : World) (p0 : 0 ≤ p) (p1 : p < 18446744073709551616) (hl : len ≤ 9223372036854775807) (pr : Bool) (h100 : 100 < len) :
    Calls Try.prog 5 #[.agg #[.int .i64 k, .int .i64 n, .int .u64 p, .int .i64 op, .int .i64 m, .slice a len cap], .int .i64 C, .bool pr] w fun e w' => e = .returned (.bool true) ∧ Below w.heap.size w w' := by
  have CV := Lib.hid (fun w => live14 w)
  have d100 : decide ((100 : Int) < (len : Int)) = true := by simp; omega
  go_enter Try.func5, Try.ntmps5
  go_wp2_with fail
  refine (CV.out _).mono ?_
  rintro e w1 ⟨rfl, hb1⟩
  obtain ⟨hc1, hf1⟩ := hb1.cells
  go_wp2
  go_ret
  refine ⟨rfl, Ext.below ?_⟩
  repeat (first | with_reducible exact Ext.refl _ | with_reducible assumption | with_reducible refine Ext.alloc ?_ _ | with_reducible refine Ext.drew ?_ | with_reducible refine Ext.drewN ?_ _ | with_reducible refine Ext.setCell ?_ (by simp <;> omega) _ | with_reducible refine Ext.trans ?_ (by assumption))
set_option maxRecDepth 100000 in
theorem none_true_true (k n p op m : Int) (a : Option Addr) (len cap : Nat) (C : Int) (w : World) (p0 : 0 ≤ p) (p1 : p < 18446744073709551616) (hl : len ≤ 9223372036854775807) (h100 : ¬ 100 < len) (hr : rightB C = true) :
    Calls Try.prog 5 #[.agg #[.int .i64 k, .int .i64 n, .int .u64 p, .int .i64 op, .int .i64 m, .slice a len cap], .int .i64 C, .bool true] w fun e w' => e = .returned (.bool true) ∧ Below w.heap.size w w' := by
  have CV := Lib.hid (fun w => live14 w)
  have d100 : decide ((100 : Int) < (len : Int)) = false := by simp; omega
  have CS := Lib.hid (fun w => small_nil k n p op m (.slice a len cap) w p0 p1)
  have CG := Lib.hid (fun w => great_nil k n p op m (.slice a len cap) w p0 p1)
  go_enter Try.func5, Try.ntmps5
  go_wp2_with fail
  refine (span32_nil _).mono ?_
  rintro e w1 ⟨rfl, hb1⟩
  obtain ⟨hc1, hf1⟩ := hb1.cells
  clear hc1 hf1
  have qd_0 : w1.cell? ⟨w.heap.size, 0, none⟩ = some (.int .i64 k) := (hb1.cells.1 _ _ (by simp <;> omega)).trans (by simp [go_sem])
  have qd_1 : w1.cell? ⟨w.heap.size, 1, none⟩ = some (.int .i64 n) := (hb1.cells.1 _ _ (by simp <;> omega)).trans (by simp [go_sem])
  have qd_2 : w1.cell? ⟨w.heap.size, 2, none⟩ = some (.int .u64 p) := (hb1.cells.1 _ _ (by simp <;> omega)).trans (by simp [go_sem])
  have qd_3 : w1.cell? ⟨w.heap.size, 3, none⟩ = some (.int .i64 op) := (hb1.cells.1 _ _ (by simp <;> omega)).trans (by simp [go_sem])
  have qd_4 : w1.cell? ⟨w.heap.size, 4, none⟩ = some (.int .i64 m) := (hb1.cells.1 _ _ (by simp <;> omega)).trans (by simp [go_sem])
  have qd_5 : w1.cell? ⟨w.heap.size, 5, none⟩ = some (.slice a len cap) := (hb1.cells.1 _ _ (by simp <;> omega)).trans (by simp [go_sem])
  have pd := World.block_lt_of_cell? _ ⟨w.heap.size, 0, none⟩ qd_0
  have rd := Nat.lt_succ_of_lt pd
  go_wp2_with fail
  refine (may32_nil _ _ _ _).mono ?_
  rintro e w2 ⟨rfl, hb2⟩
  have hx2 : Ext w1 w2 := by repeat (first | with_reducible exact Ext.refl _ | with_reducible assumption | with_reducible refine Ext.alloc ?_ _ | with_reducible refine Ext.drew ?_ | with_reducible refine Ext.drewN ?_ _ | with_reducible refine Ext.setCell ?_ (by simp <;> omega) _ | with_reducible refine Ext.trans ?_ (by assumption))
  replace qd_0 := hx2.cell qd_0
  replace qd_1 := hx2.cell qd_1
  replace qd_2 := hx2.cell qd_2
  replace qd_3 := hx2.cell qd_3
  replace qd_4 := hx2.cell qd_4
  replace qd_5 := hx2.cell qd_5
  replace pd := Nat.lt_of_lt_of_le pd hx2.size
  replace rd := Nat.lt_succ_of_lt pd
  clear hx2
  have qs_0 : w2.cell? ⟨w1.heap.size, 0, none⟩ = some (.int .u32 0) := (hb2.cells.1 _ _ (by simp <;> omega)).trans (by simp [go_sem])
  have qs_1 : w2.cell? ⟨w1.heap.size, 1, none⟩ = some (.int .i64 0) := (hb2.cells.1 _ _ (by simp <;> omega)).trans (by simp [go_sem])
  have ps := World.block_lt_of_cell? _ ⟨w1.heap.size, 0, none⟩ qs_0
  have rs := Nat.lt_succ_of_lt ps
  go_wp2_with fail
  refine (may64_nil _ _ _ _).mono ?_
  rintro e w3 ⟨rfl, hb3⟩
  have hx3 : Ext w2 w3 := by repeat (first | with_reducible exact Ext.refl _ | with_reducible assumption | with_reducible refine Ext.alloc ?_ _ | with_reducible refine Ext.drew ?_ | with_reducible refine Ext.drewN ?_ _ | with_reducible refine Ext.setCell ?_ (by simp <;> omega) _ | with_reducible refine Ext.trans ?_ (by assumption))
  replace qd_0 := hx3.cell qd_0
  replace qd_1 := hx3.cell qd_1
  replace qd_2 := hx3.cell qd_2
  replace qd_3 := hx3.cell qd_3
  replace qd_4 := hx3.cell qd_4
  replace qd_5 := hx3.cell qd_5
  replace pd := Nat.lt_of_lt_of_le pd hx3.size
  replace rd := Nat.lt_succ_of_lt pd
  replace qs_0 := hx3.cell qs_0
  replace qs_1 := hx3.cell qs_1
  replace ps := Nat.lt_of_lt_of_le ps hx3.size
  replace rs := Nat.lt_succ_of_lt ps
  clear hx3
  go_wp2_with fail
  refine (CS.out _).mono ?_
  rintro e w4 ⟨rfl, hb4⟩
  have hx4 : Ext w3 w4 := by repeat (first | with_reducible exact Ext.refl _ | with_reducible assumption | with_reducible refine Ext.alloc ?_ _ | with_reducible refine Ext.drew ?_ | with_reducible refine Ext.drewN ?_ _ | with_reducible refine Ext.setCell ?_ (by simp <;> omega) _ | with_reducible refine Ext.trans ?_ (by assumption))
  replace qd_0 := hx4.cell qd_0
  replace qd_1 := hx4.cell qd_1
  replace qd_2 := hx4.cell qd_2
  replace qd_3 := hx4.cell qd_3
  replace qd_4 := hx4.cell qd_4
  replace qd_5 := hx4.cell qd_5
  replace pd := Nat.lt_of_lt_of_le pd hx4.size
  replace rd := Nat.lt_succ_of_lt pd
  replace qs_0 := hx4.cell qs_0
  replace qs_1 := hx4.cell qs_1
  replace ps := Nat.lt_of_lt_of_le ps hx4.size
  replace rs := Nat.lt_succ_of_lt ps
  clear hx4
  go_wp2_with fail
  refine (CG.out _).mono ?_
  rintro e w5 ⟨rfl, hb5⟩
  have hx5 : Ext w4 w5 := by repeat (first | with_reducible exact Ext.refl _ | with_reducible assumption | with_reducible refine Ext.alloc ?_ _ | with_reducible refine Ext.drew ?_ | with_reducible refine Ext.drewN ?_ _ | with_reducible refine Ext.setCell ?_ (by simp <;> omega) _ | with_reducible refine Ext.trans ?_ (by assumption))
  replace qd_0 := hx5.cell qd_0
  replace qd_1 := hx5.cell qd_1
  replace qd_2 := hx5.cell qd_2
  replace qd_3 := hx5.cell qd_3
  replace qd_4 := hx5.cell qd_4
  replace qd_5 := hx5.cell qd_5
  replace pd := Nat.lt_of_lt_of_le pd hx5.size
  replace rd := Nat.lt_succ_of_lt pd
  replace qs_0 := hx5.cell qs_0
  replace qs_1 := hx5.cell qs_1
  replace ps := Nat.lt_of_lt_of_le ps hx5.size
  replace rs := Nat.lt_succ_of_lt ps
  clear hx5
  go_wp2_with fail
  refine (gate32_nil _).mono ?_
  rintro e w' ⟨rfl, rfl⟩
  go_wp2_with fail
  refine (upto64_nil _).mono ?_
  rintro e w' ⟨rfl, rfl⟩
  go_wp2_with fail
  refine (ready32_nil _).mono ?_
  rintro e w' ⟨rfl, rfl⟩
  go_wp2_with fail
  refine (consumer64_yes C 5 _ hr).mono ?_
  rintro e wc ⟨bc, rfl, Hc, hbc, Xc⟩
  replace qd_0 := Xc.cell qd_0
  replace qd_1 := Xc.cell qd_1
  replace qd_2 := Xc.cell qd_2
  replace qd_3 := Xc.cell qd_3
  replace qd_4 := Xc.cell qd_4
  replace qd_5 := Xc.cell qd_5
  clear hbc qs_0 qs_1
  clear Hc
  go_wp2_with fail
  refine (producer64_yes C _ hr).mono ?_
  rintro e wp ⟨bp, rfl, Hp, hbp, Xp⟩
  replace qd_0 := Xp.cell qd_0
  replace qd_1 := Xp.cell qd_1
  replace qd_2 := Xp.cell qd_2
  replace qd_3 := Xp.cell qd_3
  replace qd_4 := Xp.cell qd_4
  replace qd_5 := Xp.cell qd_5
  clear hbp
  have CM := fun w' (hx : Ext wp w') => may64_ok bp ⟨C, false, 0, 0, 0, 0⟩ op m a len cap w' hl (Hp.ext hx)
  generalize may64 ⟨C, false, 0, 0, 0, 0⟩ op m len = mm at CM
  have HCM := Lib.hid CM
  clear CM Hp
  go_wp2_with fail
  refine settle_wp ?_
  intro w6 hb6
  replace qd_0 := hb6.cell qd_0
  replace qd_1 := hb6.cell qd_1
  replace qd_2 := hb6.cell qd_2
  replace qd_3 := hb6.cell qd_3
  replace qd_4 := hb6.cell qd_4
  replace qd_5 := hb6.cell qd_5
  refine wp_region_later (by kernel_rfl) (by kernel_rfl) ?_
  have ld_0 := fun (g : Later w6) => g.ok.cell qd_0
  have ld_1 := fun (g : Later w6) => g.ok.cell qd_1
  have ld_2 := fun (g : Later w6) => g.ok.cell qd_2
  have ld_3 := fun (g : Later w6) => g.ok.cell qd_3
  have ld_4 := fun (g : Later w6) => g.ok.cell qd_4
  have ld_5 := fun (g : Later w6) => g.ok.cell qd_5
  repeat (go_big_quiet_step ((fail)))
  go_big_quiet_step ((go_at_call 16; exact laterC (HCM.out _ (hb6.trans (Later.ok _)))))
  repeat (go_big_quiet_step ((fail)))
  go_big_quiet_step ((go_at_call 16; exact laterC (HCM.out _ (hb6.trans (Later.ok _)))))
  repeat (go_big_quiet_step ((fail)))
  go_big_quiet_step ((go_at_call 12; exact laterC (CV.out _)))
  repeat (go_big_quiet_step ((fail)))
  refine wpQuiet_nil ?_
  intro w7 hl7
  have hb7 := laters_ext hl7
  clear hl7
  go_wp2
  go_ret
  refine ⟨rfl, Ext.below ?_⟩
  repeat (first | with_reducible exact Ext.refl _ | with_reducible assumption | with_reducible refine Ext.alloc ?_ _ | with_reducible refine Ext.drew ?_ | with_reducible refine Ext.drewN ?_ _ | with_reducible refine Ext.setCell ?_ (by simp <;> omega) _ | with_reducible refine Ext.trans ?_ (by assumption))
set_option maxRecDepth 100000 in
theorem none_true_false (k n p op m : Int) (a : Option Addr) (len cap : Nat) (C : Int) (w : World) (p0 : 0 ≤ p) (p1 : p < 18446744073709551616) (hl : len ≤ 9223372036854775807) (h100 : ¬ 100 < len) (hr : rightB C = false) :
    Calls Try.prog 5 #[.agg #[.int .i64 k, .int .i64 n, .int .u64 p, .int .i64 op, .int .i64 m, .slice a len cap], .int .i64 C, .bool true] w fun e w' => e = .returned (.bool true) ∧ Below w.heap.size w w' := by
  have CV := Lib.hid (fun w => live14 w)
  have d100 : decide ((100 : Int) < (len : Int)) = false := by simp; omega
  have CS := Lib.hid (fun w => small_nil k n p op m (.slice a len cap) w p0 p1)
  have CG := Lib.hid (fun w => great_nil k n p op m (.slice a len cap) w p0 p1)
  go_enter Try.func5, Try.ntmps5
  go_wp2_with fail
  refine (span32_nil _).mono ?_
  rintro e w1 ⟨rfl, hb1⟩
  obtain ⟨hc1, hf1⟩ := hb1.cells
  clear hc1 hf1
  have qd_0 : w1.cell? ⟨w.heap.size, 0, none⟩ = some (.int .i64 k) := (hb1.cells.1 _ _ (by simp <;> omega)).trans (by simp [go_sem])
  have qd_1 : w1.cell? ⟨w.heap.size, 1, none⟩ = some (.int .i64 n) := (hb1.cells.1 _ _ (by simp <;> omega)).trans (by simp [go_sem])
  have qd_2 : w1.cell? ⟨w.heap.size, 2, none⟩ = some (.int .u64 p) := (hb1.cells.1 _ _ (by simp <;> omega)).trans (by simp [go_sem])
  have qd_3 : w1.cell? ⟨w.heap.size, 3, none⟩ = some (.int .i64 op) := (hb1.cells.1 _ _ (by simp <;> omega)).trans (by simp [go_sem])
  have qd_4 : w1.cell? ⟨w.heap.size, 4, none⟩ = some (.int .i64 m) := (hb1.cells.1 _ _ (by simp <;> omega)).trans (by simp [go_sem])
  have qd_5 : w1.cell? ⟨w.heap.size, 5, none⟩ = some (.slice a len cap) := (hb1.cells.1 _ _ (by simp <;> omega)).trans (by simp [go_sem])
  have pd := World.block_lt_of_cell? _ ⟨w.heap.size, 0, none⟩ qd_0
  have rd := Nat.lt_succ_of_lt pd
  go_wp2_with fail
  refine (may32_nil _ _ _ _).mono ?_
  rintro e w2 ⟨rfl, hb2⟩
  have hx2 : Ext w1 w2 := by repeat (first | with_reducible exact Ext.refl _ | with_reducible assumption | with_reducible refine Ext.alloc ?_ _ | with_reducible refine Ext.drew ?_ | with_reducible refine Ext.drewN ?_ _ | with_reducible refine Ext.setCell ?_ (by simp <;> omega) _ | with_reducible refine Ext.trans ?_ (by assumption))
  replace qd_0 := hx2.cell qd_0
  replace qd_1 := hx2.cell qd_1
  replace qd_2 := hx2.cell qd_2
  replace qd_3 := hx2.cell qd_3
  replace qd_4 := hx2.cell qd_4
  replace qd_5 := hx2.cell qd_5
  replace pd := Nat.lt_of_lt_of_le pd hx2.size
  replace rd := Nat.lt_succ_of_lt pd
  clear hx2
  have qs_0 : w2.cell? ⟨w1.heap.size, 0, none⟩ = some (.int .u32 0) := (hb2.cells.1 _ _ (by simp <;> omega)).trans (by simp [go_sem])
  have qs_1 : w2.cell? ⟨w1.heap.size, 1, none⟩ = some (.int .i64 0) := (hb2.cells.1 _ _ (by simp <;> omega)).trans (by simp [go_sem])
  have ps := World.block_lt_of_cell? _ ⟨w1.heap.size, 0, none⟩ qs_0
  have rs := Nat.lt_succ_of_lt ps
  go_wp2_with fail
  refine (may64_nil _ _ _ _).mono ?_
  rintro e w3 ⟨rfl, hb3⟩
  have hx3 : Ext w2 w3 := by repeat (first | with_reducible exact Ext.refl _ | with_reducible assumption | with_reducible refine Ext.alloc ?_ _ | with_reducible refine Ext.drew ?_ | with_reducible refine Ext.drewN ?_ _ | with_reducible refine Ext.setCell ?_ (by simp <;> omega) _ | with_reducible refine Ext.trans ?_ (by assumption))
  replace qd_0 := hx3.cell qd_0
  replace qd_1 := hx3.cell qd_1
  replace qd_2 := hx3.cell qd_2
  replace qd_3 := hx3.cell qd_3
  replace qd_4 := hx3.cell qd_4
  replace qd_5 := hx3.cell qd_5
  replace pd := Nat.lt_of_lt_of_le pd hx3.size
  replace rd := Nat.lt_succ_of_lt pd
  replace qs_0 := hx3.cell qs_0
  replace qs_1 := hx3.cell qs_1
  replace ps := Nat.lt_of_lt_of_le ps hx3.size
  replace rs := Nat.lt_succ_of_lt ps
  clear hx3
  go_wp2_with fail
  refine (CS.out _).mono ?_
  rintro e w4 ⟨rfl, hb4⟩
  have hx4 : Ext w3 w4 := by repeat (first | with_reducible exact Ext.refl _ | with_reducible assumption | with_reducible refine Ext.alloc ?_ _ | with_reducible refine Ext.drew ?_ | with_reducible refine Ext.drewN ?_ _ | with_reducible refine Ext.setCell ?_ (by simp <;> omega) _ | with_reducible refine Ext.trans ?_ (by assumption))
  replace qd_0 := hx4.cell qd_0
  replace qd_1 := hx4.cell qd_1
  replace qd_2 := hx4.cell qd_2
  replace qd_3 := hx4.cell qd_3
  replace qd_4 := hx4.cell qd_4
  replace qd_5 := hx4.cell qd_5
  replace pd := Nat.lt_of_lt_of_le pd hx4.size
  replace rd := Nat.lt_succ_of_lt pd
  replace qs_0 := hx4.cell qs_0
  replace qs_1 := hx4.cell qs_1
  replace ps := Nat.lt_of_lt_of_le ps hx4.size
  replace rs := Nat.lt_succ_of_lt ps
  clear hx4
  go_wp2_with fail
  refine (CG.out _).mono ?_
  rintro e w5 ⟨rfl, hb5⟩
  have hx5 : Ext w4 w5 := by repeat (first | with_reducible exact Ext.refl _ | with_reducible assumption | with_reducible refine Ext.alloc ?_ _ | with_reducible refine Ext.drew ?_ | with_reducible refine Ext.drewN ?_ _ | with_reducible refine Ext.setCell ?_ (by simp <;> omega) _ | with_reducible refine Ext.trans ?_ (by assumption))
  replace qd_0 := hx5.cell qd_0
  replace qd_1 := hx5.cell qd_1
  replace qd_2 := hx5.cell qd_2
  replace qd_3 := hx5.cell qd_3
  replace qd_4 := hx5.cell qd_4
  replace qd_5 := hx5.cell qd_5
  replace pd := Nat.lt_of_lt_of_le pd hx5.size
  replace rd := Nat.lt_succ_of_lt pd
  replace qs_0 := hx5.cell qs_0
  replace qs_1 := hx5.cell qs_1
  replace ps := Nat.lt_of_lt_of_le ps hx5.size
  replace rs := Nat.lt_succ_of_lt ps
  clear hx5
  go_wp2_with fail
  refine (gate32_nil _).mono ?_
  rintro e w' ⟨rfl, rfl⟩
  go_wp2_with fail
  refine (upto64_nil _).mono ?_
  rintro e w' ⟨rfl, rfl⟩
  go_wp2_with fail
  refine (ready32_nil _).mono ?_
  rintro e w' ⟨rfl, rfl⟩
  go_wp2_with fail
  refine (consumer64_no C 5 _ hr).mono ?_
  rintro e w' ⟨rfl, rfl⟩
  go_wp2_with fail
  refine (producer64_no C _ hr).mono ?_
  rintro e w' ⟨rfl, rfl⟩
  clear qs_0 qs_1
  go_wp2_with fail
  refine settle_wp ?_
  intro w6 hb6
  replace qd_0 := hb6.cell qd_0
  replace qd_1 := hb6.cell qd_1
  replace qd_2 := hb6.cell qd_2
  replace qd_3 := hb6.cell qd_3
  replace qd_4 := hb6.cell qd_4
  replace qd_5 := hb6.cell qd_5
  refine wp_region_later (by kernel_rfl) (by kernel_rfl) ?_
  have ld_0 := fun (g : Later w6) => g.ok.cell qd_0
  have ld_1 := fun (g : Later w6) => g.ok.cell qd_1
  have ld_2 := fun (g : Later w6) => g.ok.cell qd_2
  have ld_3 := fun (g : Later w6) => g.ok.cell qd_3
  have ld_4 := fun (g : Later w6) => g.ok.cell qd_4
  have ld_5 := fun (g : Later w6) => g.ok.cell qd_5
  repeat (go_big_quiet_step ((fail)))
  go_big_quiet_step ((go_at_call 16; exact laterC (may64_nil _ _ _ _)))
  repeat (go_big_quiet_step ((fail)))
  go_big_quiet_step ((go_at_call 16; exact laterC (may64_nil _ _ _ _)))
  repeat (go_big_quiet_step ((fail)))
  go_big_quiet_step ((go_at_call 12; exact laterC (CV.out _)))
  repeat (go_big_quiet_step ((fail)))
  refine wpQuiet_nil ?_
  intro w7 hl7
  have hb7 := laters_ext hl7
  clear hl7
  go_wp2
  go_ret
  refine ⟨rfl, Ext.below ?_⟩
  repeat (first | with_reducible exact Ext.refl _ | with_reducible assumption | with_reducible refine Ext.alloc ?_ _ | with_reducible refine Ext.drew ?_ | with_reducible refine Ext.drewN ?_ _ | with_reducible refine Ext.setCell ?_ (by simp <;> omega) _ | with_reducible refine Ext.trans ?_ (by assumption))
set_option maxRecDepth 100000 in
theorem none_false_true (k n p op m : Int) (a : Option Addr) (len cap : Nat) (C : Int) (w : World) (p0 : 0 ≤ p) (p1 : p < 18446744073709551616) (hl : len ≤ 9223372036854775807) (h100 : ¬ 100 < len) (hr : rightB C = true) :
    Calls Try.prog 5 #[.agg #[.int .i64 k, .int .i64 n, .int .u64 p, .int .i64 op, .int .i64 m, .slice a len cap], .int .i64 C, .bool false] w fun e w' => e = .returned (.bool true) ∧ Below w.heap.size w w' := by
  have CV := Lib.hid (fun w => live14 w)
  have d100 : decide ((100 : Int) < (len : Int)) = false := by simp; omega
  have CS := Lib.hid (fun w => small_nil k n p op m (.slice a len cap) w p0 p1)
  have CG := Lib.hid (fun w => great_nil k n p op m (.slice a len cap) w p0 p1)
  go_enter Try.func5, Try.ntmps5
  go_wp2_with fail
  refine (span32_nil _).mono ?_
  rintro e w1 ⟨rfl, hb1⟩
  obtain ⟨hc1, hf1⟩ := hb1.cells
  clear hc1 hf1
  have qd_0 : w1.cell? ⟨w.heap.size, 0, none⟩ = some (.int .i64 k) := (hb1.cells.1 _ _ (by simp <;> omega)).trans (by simp [go_sem])
  have qd_1 : w1.cell? ⟨w.heap.size, 1, none⟩ = some (.int .i64 n) := (hb1.cells.1 _ _ (by simp <;> omega)).trans (by simp [go_sem])
  have qd_2 : w1.cell? ⟨w.heap.size, 2, none⟩ = some (.int .u64 p) := (hb1.cells.1 _ _ (by simp <;> omega)).trans (by simp [go_sem])
  have qd_3 : w1.cell? ⟨w.heap.size, 3, none⟩ = some (.int .i64 op) := (hb1.cells.1 _ _ (by simp <;> omega)).trans (by simp [go_sem])
  have qd_4 : w1.cell? ⟨w.heap.size, 4, none⟩ = some (.int .i64 m) := (hb1.cells.1 _ _ (by simp <;> omega)).trans (by simp [go_sem])
  have qd_5 : w1.cell? ⟨w.heap.size, 5, none⟩ = some (.slice a len cap) := (hb1.cells.1 _ _ (by simp <;> omega)).trans (by simp [go_sem])
  have pd := World.block_lt_of_cell? _ ⟨w.heap.size, 0, none⟩ qd_0
  have rd := Nat.lt_succ_of_lt pd
  go_wp2_with fail
  refine (may32_nil _ _ _ _).mono ?_
  rintro e w2 ⟨rfl, hb2⟩
  have hx2 : Ext w1 w2 := by repeat (first | with_reducible exact Ext.refl _ | with_reducible assumption | with_reducible refine Ext.alloc ?_ _ | with_reducible refine Ext.drew ?_ | with_reducible refine Ext.drewN ?_ _ | with_reducible refine Ext.setCell ?_ (by simp <;> omega) _ | with_reducible refine Ext.trans ?_ (by assumption))
  replace qd_0 := hx2.cell qd_0
  replace qd_1 := hx2.cell qd_1
  replace qd_2 := hx2.cell qd_2
  replace qd_3 := hx2.cell qd_3
  replace qd_4 := hx2.cell qd_4
  replace qd_5 := hx2.cell qd_5
  replace pd := Nat.lt_of_lt_of_le pd hx2.size
  replace rd := Nat.lt_succ_of_lt pd
  clear hx2
  have qs_0 : w2.cell? ⟨w1.heap.size, 0, none⟩ = some (.int .u32 0) := (hb2.cells.1 _ _ (by simp <;> omega)).trans (by simp [go_sem])
  have qs_1 : w2.cell? ⟨w1.heap.size, 1, none⟩ = some (.int .i64 0) := (hb2.cells.1 _ _ (by simp <;> omega)).trans (by simp [go_sem])
  have ps := World.block_lt_of_cell? _ ⟨w1.heap.size, 0, none⟩ qs_0
  have rs := Nat.lt_succ_of_lt ps
  go_wp2_with fail
  refine (may64_nil _ _ _ _).mono ?_
  rintro e w3 ⟨rfl, hb3⟩
  have hx3 : Ext w2 w3 := by repeat (first | with_reducible exact Ext.refl _ | with_reducible assumption | with_reducible refine Ext.alloc ?_ _ | with_reducible refine Ext.drew ?_ | with_reducible refine Ext.drewN ?_ _ | with_reducible refine Ext.setCell ?_ (by simp <;> omega) _ | with_reducible refine Ext.trans ?_ (by assumption))
  replace qd_0 := hx3.cell qd_0
  replace qd_1 := hx3.cell qd_1
  replace qd_2 := hx3.cell qd_2
  replace qd_3 := hx3.cell qd_3
  replace qd_4 := hx3.cell qd_4
  replace qd_5 := hx3.cell qd_5
  replace pd := Nat.lt_of_lt_of_le pd hx3.size
  replace rd := Nat.lt_succ_of_lt pd
  replace qs_0 := hx3.cell qs_0
  replace qs_1 := hx3.cell qs_1
  replace ps := Nat.lt_of_lt_of_le ps hx3.size
  replace rs := Nat.lt_succ_of_lt ps
  clear hx3
  go_wp2_with fail
  refine (CS.out _).mono ?_
  rintro e w4 ⟨rfl, hb4⟩
  have hx4 : Ext w3 w4 := by repeat (first | with_reducible exact Ext.refl _ | with_reducible assumption | with_reducible refine Ext.alloc ?_ _ | with_reducible refine Ext.drew ?_ | with_reducible refine Ext.drewN ?_ _ | with_reducible refine Ext.setCell ?_ (by simp <;> omega) _ | with_reducible refine Ext.trans ?_ (by assumption))
  replace qd_0 := hx4.cell qd_0
  replace qd_1 := hx4.cell qd_1
  replace qd_2 := hx4.cell qd_2
  replace qd_3 := hx4.cell qd_3
  replace qd_4 := hx4.cell qd_4
  replace qd_5 := hx4.cell qd_5
  replace pd := Nat.lt_of_lt_of_le pd hx4.size
  replace rd := Nat.lt_succ_of_lt pd
  replace qs_0 := hx4.cell qs_0
  replace qs_1 := hx4.cell qs_1
  replace ps := Nat.lt_of_lt_of_le ps hx4.size
  replace rs := Nat.lt_succ_of_lt ps
  clear hx4
  go_wp2_with fail
  refine (CG.out _).mono ?_
  rintro e w5 ⟨rfl, hb5⟩
  have hx5 : Ext w4 w5 := by repeat (first | with_reducible exact Ext.refl _ | with_reducible assumption | with_reducible refine Ext.alloc ?_ _ | with_reducible refine Ext.drew ?_ | with_reducible refine Ext.drewN ?_ _ | with_reducible refine Ext.setCell ?_ (by simp <;> omega) _ | with_reducible refine Ext.trans ?_ (by assumption))
  replace qd_0 := hx5.cell qd_0
  replace qd_1 := hx5.cell qd_1
  replace qd_2 := hx5.cell qd_2
  replace qd_3 := hx5.cell qd_3
  replace qd_4 := hx5.cell qd_4
  replace qd_5 := hx5.cell qd_5
  replace pd := Nat.lt_of_lt_of_le pd hx5.size
  replace rd := Nat.lt_succ_of_lt pd
  replace qs_0 := hx5.cell qs_0
  replace qs_1 := hx5.cell qs_1
  replace ps := Nat.lt_of_lt_of_le ps hx5.size
  replace rs := Nat.lt_succ_of_lt ps
  clear hx5
  go_wp2_with fail
  refine (gate32_nil _).mono ?_
  rintro e w' ⟨rfl, rfl⟩
  go_wp2_with fail
  refine (upto64_nil _).mono ?_
  rintro e w' ⟨rfl, rfl⟩
  go_wp2_with fail
  refine (ready32_nil _).mono ?_
  rintro e w' ⟨rfl, rfl⟩
  go_wp2_with fail
  refine (consumer64_yes C 5 _ hr).mono ?_
  rintro e wc ⟨bc, rfl, Hc, hbc, Xc⟩
  replace qd_0 := Xc.cell qd_0
  replace qd_1 := Xc.cell qd_1
  replace qd_2 := Xc.cell qd_2
  replace qd_3 := Xc.cell qd_3
  replace qd_4 := Xc.cell qd_4
  replace qd_5 := Xc.cell qd_5
  clear hbc qs_0 qs_1
  have CM := fun w' (hx : Ext wc w') => may64_ok bc ⟨C, true, 0, 0, 5, 5⟩ op m a len cap w' hl (Hc.ext hx)
  generalize may64 ⟨C, true, 0, 0, 5, 5⟩ op m len = mm at CM
  have HCM := Lib.hid CM
  clear CM Hc
  go_wp2_with fail
  refine settle_wp ?_
  intro w6 hb6
  replace qd_0 := hb6.cell qd_0
  replace qd_1 := hb6.cell qd_1
  replace qd_2 := hb6.cell qd_2
  replace qd_3 := hb6.cell qd_3
  replace qd_4 := hb6.cell qd_4
  replace qd_5 := hb6.cell qd_5
  refine wp_region_later (by kernel_rfl) (by kernel_rfl) ?_
  have ld_0 := fun (g : Later w6) => g.ok.cell qd_0
  have ld_1 := fun (g : Later w6) => g.ok.cell qd_1
  have ld_2 := fun (g : Later w6) => g.ok.cell qd_2
  have ld_3 := fun (g : Later w6) => g.ok.cell qd_3
  have ld_4 := fun (g : Later w6) => g.ok.cell qd_4
  have ld_5 := fun (g : Later w6) => g.ok.cell qd_5
  repeat (go_big_quiet_step ((fail)))
  go_big_quiet_step ((go_at_call 16; exact laterC (HCM.out _ (hb6.trans (Later.ok _)))))
  repeat (go_big_quiet_step ((fail)))
  go_big_quiet_step ((go_at_call 16; exact laterC (HCM.out _ (hb6.trans (Later.ok _)))))
  repeat (go_big_quiet_step ((fail)))
  go_big_quiet_step ((go_at_call 12; exact laterC (CV.out _)))
  repeat (go_big_quiet_step ((fail)))
  refine wpQuiet_nil ?_
  intro w7 hl7
  have hb7 := laters_ext hl7
  clear hl7
  go_wp2
  go_ret
  refine ⟨rfl, Ext.below ?_⟩
  repeat (first | with_reducible exact Ext.refl _ | with_reducible assumption | with_reducible refine Ext.alloc ?_ _ | with_reducible refine Ext.drew ?_ | with_reducible refine Ext.drewN ?_ _ | with_reducible refine Ext.setCell ?_ (by simp <;> omega) _ | with_reducible refine Ext.trans ?_ (by assumption))
set_option maxRecDepth 100000 in
theorem none_false_false (k n p op m : Int) (a : Option Addr) (len cap : Nat) (C : Int) (w : World) (p0 : 0 ≤ p) (p1 : p < 18446744073709551616) (hl : len ≤ 9223372036854775807) (h100 : ¬ 100 < len) (hr : rightB C = false) :
    Calls Try.prog 5 #[.agg #[.int .i64 k, .int .i64 n, .int .u64 p, .int .i64 op, .int .i64 m, .slice a len cap], .int .i64 C, .bool false] w fun e w' => e = .returned (.bool true) ∧ Below w.heap.size w w' := by
  have CV := Lib.hid (fun w => live14 w)
  have d100 : decide ((100 : Int) < (len : Int)) = false := by simp; omega
  have CS := Lib.hid (fun w => small_nil k n p op m (.slice a len cap) w p0 p1)
  have CG := Lib.hid (fun w => great_nil k n p op m (.slice a len cap) w p0 p1)
  go_enter Try.func5, Try.ntmps5
  go_wp2_with fail
  refine (span32_nil _).mono ?_
  rintro e w1 ⟨rfl, hb1⟩
  obtain ⟨hc1, hf1⟩ := hb1.cells
  clear hc1 hf1
  have qd_0 : w1.cell? ⟨w.heap.size, 0, none⟩ = some (.int .i64 k) := (hb1.cells.1 _ _ (by simp <;> omega)).trans (by simp [go_sem])
  have qd_1 : w1.cell? ⟨w.heap.size, 1, none⟩ = some (.int .i64 n) := (hb1.cells.1 _ _ (by simp <;> omega)).trans (by simp [go_sem])
  have qd_2 : w1.cell? ⟨w.heap.size, 2, none⟩ = some (.int .u64 p) := (hb1.cells.1 _ _ (by simp <;> omega)).trans (by simp [go_sem])
  have qd_3 : w1.cell? ⟨w.heap.size, 3, none⟩ = some (.int .i64 op) := (hb1.cells.1 _ _ (by simp <;> omega)).trans (by simp [go_sem])
  have qd_4 : w1.cell? ⟨w.heap.size, 4, none⟩ = some (.int .i64 m) := (hb1.cells.1 _ _ (by simp <;> omega)).trans (by simp [go_sem])
  have qd_5 : w1.cell? ⟨w.heap.size, 5, none⟩ = some (.slice a len cap) := (hb1.cells.1 _ _ (by simp <;> omega)).trans (by simp [go_sem])
  have pd := World.block_lt_of_cell? _ ⟨w.heap.size, 0, none⟩ qd_0
  have rd := Nat.lt_succ_of_lt pd
  go_wp2_with fail
  refine (may32_nil _ _ _ _).mono ?_
  rintro e w2 ⟨rfl, hb2⟩
  have hx2 : Ext w1 w2 := by repeat (first | with_reducible exact Ext.refl _ | with_reducible assumption | with_reducible refine Ext.alloc ?_ _ | with_reducible refine Ext.drew ?_ | with_reducible refine Ext.drewN ?_ _ | with_reducible refine Ext.setCell ?_ (by simp <;> omega) _ | with_reducible refine Ext.trans ?_ (by assumption))
  replace qd_0 := hx2.cell qd_0
  replace qd_1 := hx2.cell qd_1
  replace qd_2 := hx2.cell qd_2
  replace qd_3 := hx2.cell qd_3
  replace qd_4 := hx2.cell qd_4
  replace qd_5 := hx2.cell qd_5
  replace pd := Nat.lt_of_lt_of_le pd hx2.size
  replace rd := Nat.lt_succ_of_lt pd
  clear hx2
  have qs_0 : w2.cell? ⟨w1.heap.size, 0, none⟩ = some (.int .u32 0) := (hb2.cells.1 _ _ (by simp <;> omega)).trans (by simp [go_sem])
  have qs_1 : w2.cell? ⟨w1.heap.size, 1, none⟩ = some (.int .i64 0) := (hb2.cells.1 _ _ (by simp <;> omega)).trans (by simp [go_sem])
  have ps := World.block_lt_of_cell? _ ⟨w1.heap.size, 0, none⟩ qs_0
  have rs := Nat.lt_succ_of_lt ps
  go_wp2_with fail
  refine (may64_nil _ _ _ _).mono ?_
  rintro e w3 ⟨rfl, hb3⟩
  have hx3 : Ext w2 w3 := by repeat (first | with_reducible exact Ext.refl _ | with_reducible assumption | with_reducible refine Ext.alloc ?_ _ | with_reducible refine Ext.drew ?_ | with_reducible refine Ext.drewN ?_ _ | with_reducible refine Ext.setCell ?_ (by simp <;> omega) _ | with_reducible refine Ext.trans ?_ (by assumption))
  replace qd_0 := hx3.cell qd_0
  replace qd_1 := hx3.cell qd_1
  replace qd_2 := hx3.cell qd_2
  replace qd_3 := hx3.cell qd_3
  replace qd_4 := hx3.cell qd_4
  replace qd_5 := hx3.cell qd_5
  replace pd := Nat.lt_of_lt_of_le pd hx3.size
  replace rd := Nat.lt_succ_of_lt pd
  replace qs_0 := hx3.cell qs_0
  replace qs_1 := hx3.cell qs_1
  replace ps := Nat.lt_of_lt_of_le ps hx3.size
  replace rs := Nat.lt_succ_of_lt ps
  clear hx3
  go_wp2_with fail
  refine (CS.out _).mono ?_
  rintro e w4 ⟨rfl, hb4⟩
  have hx4 : Ext w3 w4 := by repeat (first | with_reducible exact Ext.refl _ | with_reducible assumption | with_reducible refine Ext.alloc ?_ _ | with_reducible refine Ext.drew ?_ | with_reducible refine Ext.drewN ?_ _ | with_reducible refine Ext.setCell ?_ (by simp <;> omega) _ | with_reducible refine Ext.trans ?_ (by assumption))
  replace qd_0 := hx4.cell qd_0
  replace qd_1 := hx4.cell qd_1
  replace qd_2 := hx4.cell qd_2
  replace qd_3 := hx4.cell qd_3
  replace qd_4 := hx4.cell qd_4
  replace qd_5 := hx4.cell qd_5
  replace pd := Nat.lt_of_lt_of_le pd hx4.size
  replace rd := Nat.lt_succ_of_lt pd
  replace qs_0 := hx4.cell qs_0
  replace qs_1 := hx4.cell qs_1
  replace ps := Nat.lt_of_lt_of_le ps hx4.size
  replace rs := Nat.lt_succ_of_lt ps
  clear hx4
  go_wp2_with fail
  refine (CG.out _).mono ?_
  rintro e w5 ⟨rfl, hb5⟩
  have hx5 : Ext w4 w5 := by repeat (first | with_reducible exact Ext.refl _ | with_reducible assumption | with_reducible refine Ext.alloc ?_ _ | with_reducible refine Ext.drew ?_ | with_reducible refine Ext.drewN ?_ _ | with_reducible refine Ext.setCell ?_ (by simp <;> omega) _ | with_reducible refine Ext.trans ?_ (by assumption))
  replace qd_0 := hx5.cell qd_0
  replace qd_1 := hx5.cell qd_1
  replace qd_2 := hx5.cell qd_2
  replace qd_3 := hx5.cell qd_3
  replace qd_4 := hx5.cell qd_4
  replace qd_5 := hx5.cell qd_5
  replace pd := Nat.lt_of_lt_of_le pd hx5.size
  replace rd := Nat.lt_succ_of_lt pd
  replace qs_0 := hx5.cell qs_0
  replace qs_1 := hx5.cell qs_1
  replace ps := Nat.lt_of_lt_of_le ps hx5.size
  replace rs := Nat.lt_succ_of_lt ps
  clear hx5
  go_wp2_with fail
  refine (gate32_nil _).mono ?_
  rintro e w' ⟨rfl, rfl⟩
  go_wp2_with fail
  refine (upto64_nil _).mono ?_
  rintro e w' ⟨rfl, rfl⟩
  go_wp2_with fail
  refine (ready32_nil _).mono ?_
  rintro e w' ⟨rfl, rfl⟩
  go_wp2_with fail
  refine (consumer64_no C 5 _ hr).mono ?_
  rintro e w' ⟨rfl, rfl⟩
  clear qs_0 qs_1
  go_wp2_with fail
  refine settle_wp ?_
  intro w6 hb6
  replace qd_0 := hb6.cell qd_0
  replace qd_1 := hb6.cell qd_1
  replace qd_2 := hb6.cell qd_2
  replace qd_3 := hb6.cell qd_3
  replace qd_4 := hb6.cell qd_4
  replace qd_5 := hb6.cell qd_5
  refine wp_region_later (by kernel_rfl) (by kernel_rfl) ?_
  have ld_0 := fun (g : Later w6) => g.ok.cell qd_0
  have ld_1 := fun (g : Later w6) => g.ok.cell qd_1
  have ld_2 := fun (g : Later w6) => g.ok.cell qd_2
  have ld_3 := fun (g : Later w6) => g.ok.cell qd_3
  have ld_4 := fun (g : Later w6) => g.ok.cell qd_4
  have ld_5 := fun (g : Later w6) => g.ok.cell qd_5
  repeat (go_big_quiet_step ((fail)))
  go_big_quiet_step ((go_at_call 16; exact laterC (may64_nil _ _ _ _)))
  repeat (go_big_quiet_step ((fail)))
  go_big_quiet_step ((go_at_call 16; exact laterC (may64_nil _ _ _ _)))
  repeat (go_big_quiet_step ((fail)))
  go_big_quiet_step ((go_at_call 12; exact laterC (CV.out _)))
  repeat (go_big_quiet_step ((fail)))
  refine wpQuiet_nil ?_
  intro w7 hl7
  have hb7 := laters_ext hl7
  clear hl7
  go_wp2
  go_ret
  refine ⟨rfl, Ext.below ?_⟩
  repeat (first | with_reducible exact Ext.refl _ | with_reducible assumption | with_reducible refine Ext.alloc ?_ _ | with_reducible refine Ext.drew ?_ | with_reducible refine Ext.drewN ?_ _ | with_reducible refine Ext.setCell ?_ (by simp <;> omega) _ | with_reducible refine Ext.trans ?_ (by assumption))
theorem guardNone_walk (d : GDo) (C : Int) (pr : Bool) (w : World) (hd : GDoOk d) (wC : (Lit.int .i64 C).wf = true) :
    Calls Try.prog 5 #[.agg #[.int .i64 d.k, .int .i64 d.n, .int .u64 d.p, .int .i64 d.op, .int .i64 d.m, .slice d.a d.len d.cap], .int .i64 C, .bool pr] w fun e w' => e = .returned (.bool true) ∧ Below w.heap.size w w' := by
  obtain ⟨_, wn, wp, _, _, wl⟩ := hd
  obtain ⟨p0, p1⟩ := wf_u64 wp
  have hl : d.len ≤ 9223372036854775807 := by unfold maxLen at wl; omega
  by_cases h100 : 100 < d.len
  · exact none_long _ _ _ _ _ _ _ _ _ w p0 p1 hl pr h100
  cases pr <;> cases hr : rightB C
  · exact none_false_false _ _ _ _ _ _ _ _ _ w p0 p1 hl h100 hr
  · exact none_false_true _ _ _ _ _ _ _ _ _ w p0 p1 hl h100 hr
  · exact none_true_false _ _ _ _ _ _ _ _ _ w p0 p1 hl h100 hr
  · exact none_true_true _ _ _ _ _ _ _ _ _ w p0 p1 hl h100 hr
end Go.Proofs.Ytoaifbengichbab

/- The law's alike. -/
import Derived.Test.YtoaifbengichbabGd6
namespace Go.Proofs.Ytoaifbengichbab
open Go.RowKit
set_option linter.unusedVariables false
set_option linter.unusedSimpArgs false
set_option maxHeartbeats 4000000
attribute [local go_sem] later_cell later_frozen later_const
set_option maxRecDepth 100000 in
theorem alike_p (px py : Value) (C F N G U s fx : Int) (H : Bool) (w : World) (f0 : 0 ≤ fx) (f1 : fx < 4294967296) (F0 : 0 ≤ F) (F1 : F < 18446744073709551616) (d0 : 0 ≤ U - G) (d1 : U - G ≤ 1073741824) (g0 : 0 ≤ G) (g1 : G ≤ 1099511627776)
    (CS1 : Hid (∀ w', Ext w w' → Calls Try.prog 26 #[px] w' (SpanDoes32 fx N H w')))
    (CS2 : Hid (∀ w', Ext w w' → Calls Try.prog 48 #[py] w' (SpanDoes64 F N H w')))
    (CC : Hid (∀ w', Calls Try.prog 49 #[.int .i64 32, .int .u64 F] w' fun e w'' => e = .returned (.int .u64 fx) ∧ w' = w''))
    (CR1 : Hid (∀ w', Ext w w' → Calls Try.prog 28 #[px] w' fun e w'' => e = .returned (.int .i64 (U - G)) ∧ w' = w''))
    (CR2 : Hid (∀ w', Ext w w' → Calls Try.prog 24 #[py] w' fun e w'' => e = .returned (.int .i64 (U - G)) ∧ w' = w''))
    (CG1 : Hid (∀ w', Ext w w' → Calls Try.prog 27 #[px] w' fun e w'' => e = .returned (.int .u32 0) ∧ w' = w''))
    (CU2 : Hid (∀ w', Ext w w' → Calls Try.prog 22 #[py] w' fun e w'' => e = .returned (.int .u64 0) ∧ w' = w'')) :
    Calls Try.prog 20 #[px, py, (.agg #[.int .i64 C, .bool true, .bool H, .int .u64 F, .int .i64 N, .int .i64 G, .int .i64 U]), .int .u64 s] w fun e w' => e = .returned (.bool true) ∧ Ext w w' := by
  go_enter Try.func20, Try.ntmps20
  go_wp2_with fail
  refine (CS1.out _ (by repeat (first | with_reducible exact Ext.refl _ | with_reducible assumption | with_reducible refine Ext.alloc ?_ _ | with_reducible refine Ext.drew ?_ | with_reducible refine Ext.drewN ?_ _ | with_reducible refine Ext.setCell ?_ (by simp <;> omega) _ | with_reducible refine Ext.trans ?_ (by assumption)))).mono ?_
  rintro e w1 ⟨rfl, X1⟩
  have qh_0 : w1.cell? ⟨w.heap.size, 0, none⟩ = some (.int .i64 C) := X1.cell (by simp [go_sem])
  have qh_1 : w1.cell? ⟨w.heap.size, 1, none⟩ = some (.bool true) := X1.cell (by simp [go_sem])
  have qh_2 : w1.cell? ⟨w.heap.size, 2, none⟩ = some (.bool H) := X1.cell (by simp [go_sem])
  have qh_3 : w1.cell? ⟨w.heap.size, 3, none⟩ = some (.int .u64 F) := X1.cell (by simp [go_sem])
  have qh_4 : w1.cell? ⟨w.heap.size, 4, none⟩ = some (.int .i64 N) := X1.cell (by simp [go_sem])
  have qh_5 : w1.cell? ⟨w.heap.size, 5, none⟩ = some (.int .i64 G) := X1.cell (by simp [go_sem])
  have qh_6 : w1.cell? ⟨w.heap.size, 6, none⟩ = some (.int .i64 U) := X1.cell (by simp [go_sem])
  have E1 : Ext w w1 := Ext.trans ((Ext.refl w).alloc _) X1
  clear X1
  go_wp2_with fail
  have E1a := E1
  refine (CS2.out _ (by repeat (first | with_reducible exact Ext.refl _ | with_reducible assumption | with_reducible refine Ext.alloc ?_ _ | with_reducible refine Ext.drew ?_ | with_reducible refine Ext.drewN ?_ _ | with_reducible refine Ext.setCell ?_ (by simp <;> omega) _ | with_reducible refine Ext.trans ?_ (by assumption)))).mono ?_
  rintro e w2 ⟨rfl, X2⟩
  have qs_0 : w2.cell? ⟨w1.heap.size, 0, none⟩ = some (.int .u32 fx) := X2.cell (by simp [go_sem])
  have qs_1 : w2.cell? ⟨w1.heap.size, 1, none⟩ = some (.int .i64 N) := X2.cell (by simp [go_sem])
  have E12 : Ext w1 w2 := Ext.trans (by repeat (first | with_reducible exact Ext.refl _ | with_reducible assumption | with_reducible refine Ext.alloc ?_ _ | with_reducible refine Ext.drew ?_ | with_reducible refine Ext.drewN ?_ _ | with_reducible refine Ext.setCell ?_ (by simp <;> omega) _ | with_reducible refine Ext.trans ?_ (by assumption))) X2
  have E2 : Ext w w2 := E1.trans E12
  replace qh_0 := E12.cell qh_0
  replace qh_1 := E12.cell qh_1
  replace qh_2 := E12.cell qh_2
  replace qh_3 := E12.cell qh_3
  replace qh_4 := E12.cell qh_4
  replace qh_5 := E12.cell qh_5
  replace qh_6 := E12.cell qh_6
  clear X2 E12 E1 E1a
  go_upto_region 3 with (fail)
  refine settle_wp ?_
  intro w3 hb3
  have qt_0 : w3.cell? ⟨w2.heap.size, 0, none⟩ = some (.int .u64 F) := hb3.cell (by simp [go_sem])
  have qt_1 : w3.cell? ⟨w2.heap.size, 1, none⟩ = some (.int .i64 N) := hb3.cell (by simp [go_sem])
  have E23 : Ext w2 w3 := Ext.trans (by repeat (first | with_reducible exact Ext.refl _ | with_reducible assumption | with_reducible refine Ext.alloc ?_ _ | with_reducible refine Ext.drew ?_ | with_reducible refine Ext.drewN ?_ _ | with_reducible refine Ext.setCell ?_ (by simp <;> omega) _ | with_reducible refine Ext.trans ?_ (by assumption))) hb3
  have E3 : Ext w w3 := E2.trans E23
  replace qh_0 := E23.cell qh_0
  replace qh_1 := E23.cell qh_1
  replace qh_2 := E23.cell qh_2
  replace qh_3 := E23.cell qh_3
  replace qh_4 := E23.cell qh_4
  replace qh_5 := E23.cell qh_5
  replace qh_6 := E23.cell qh_6
  replace qs_0 := E23.cell qs_0
  replace qs_1 := E23.cell qs_1
  clear hb3 E23 E2
  refine wp_region_later (by kernel_rfl) (by kernel_rfl) ?_
  have lh_2 := fun (g : Later w3) => g.ok.cell qh_2
  have lh_3 := fun (g : Later w3) => g.ok.cell qh_3
  have lh_4 := fun (g : Later w3) => g.ok.cell qh_4
  have ls_0 := fun (g : Later w3) => g.ok.cell qs_0
  have ls_1 := fun (g : Later w3) => g.ok.cell qs_1
  have lt_0 := fun (g : Later w3) => g.ok.cell qt_0
  have lt_1 := fun (g : Later w3) => g.ok.cell qt_1
  repeat (go_big_quiet_step ((fail)))
  go_big_quiet_step ((go_at_call 49; exact laterS (CC.out _)))
  repeat (go_big_quiet_step ((fail)))
  refine wpQuiet_nil ?_
  intro w4 hl4
  have E34 := laters_ext hl4
  have E4 := E3.trans E34
  replace qh_0 := E34.cell qh_0
  replace qh_1 := E34.cell qh_1
  replace qh_2 := E34.cell qh_2
  replace qh_3 := E34.cell qh_3
  replace qh_4 := E34.cell qh_4
  replace qh_5 := E34.cell qh_5
  replace qh_6 := E34.cell qh_6
  clear hl4 E34 E3 lh_2 lh_3 lh_4 ls_0 ls_1 lt_0 lt_1 qs_0 qs_1 qt_0 qt_1
  go_upto_region 5 with (fail)
  refine wp_region_later (by kernel_rfl) (by kernel_rfl) ?_
  have lh_5 := fun (g : Later w4) => g.ok.cell qh_5
  have lh_6 := fun (g : Later w4) => g.ok.cell qh_6
  repeat (go_big_quiet_step ((fail)))
  go_big_quiet_step ((go_at_call 28; exact laterS (CR1.out _ (E4.trans (Later.ok _)))))
  repeat (go_big_quiet_step ((fail)))
  go_big_quiet_step ((go_at_call 24; exact laterS (CR2.out _ (E4.trans (Later.ok _)))))
  repeat (go_big_quiet_step ((fail)))
  refine wpQuiet_nil ?_
  intro w5 hl5
  have E45 := laters_ext hl5
  have E5 := E4.trans E45
  replace qh_0 := E45.cell qh_0
  replace qh_1 := E45.cell qh_1
  replace qh_2 := E45.cell qh_2
  replace qh_3 := E45.cell qh_3
  replace qh_4 := E45.cell qh_4
  replace qh_5 := E45.cell qh_5
  replace qh_6 := E45.cell qh_6
  clear hl5 E45 E4 lh_5 lh_6
  go_wp2_with fail
  refine (CG1.out _ E5).mono ?_
  rintro e w' ⟨rfl, rfl⟩
  go_wp2_with fail
  refine (CU2.out _ E5).mono ?_
  rintro e w' ⟨rfl, rfl⟩
  go_wp2
  go_ret
  exact ⟨rfl, E5⟩
set_option maxRecDepth 100000 in
theorem alike_c (px py : Value) (C F N G U s fx : Int) (H : Bool) (w : World) (f0 : 0 ≤ fx) (f1 : fx < 4294967296) (F0 : 0 ≤ F) (F1 : F < 18446744073709551616) (d0 : 0 ≤ U - G) (d1 : U - G ≤ 1073741824) (g0 : 0 ≤ G) (g1 : G ≤ 1099511627776)
    (CS1 : Hid (∀ w', Ext w w' → Calls Try.prog 26 #[px] w' (SpanDoes32 fx N H w')))
    (CS2 : Hid (∀ w', Ext w w' → Calls Try.prog 48 #[py] w' (SpanDoes64 F N H w')))
    (CC : Hid (∀ w', Calls Try.prog 49 #[.int .i64 32, .int .u64 F] w' fun e w'' => e = .returned (.int .u64 fx) ∧ w' = w''))
    (CR1 : Hid (∀ w', Ext w w' → Calls Try.prog 28 #[px] w' fun e w'' => e = .returned (.int .i64 (U - G)) ∧ w' = w''))
    (CR2 : Hid (∀ w', Ext w w' → Calls Try.prog 24 #[py] w' fun e w'' => e = .returned (.int .i64 (U - G)) ∧ w' = w''))
    (gx ux gy uy : Int) (gx0 : 0 ≤ gx) (gx1 : gx < 4294967296) (ux0 : 0 ≤ ux) (ux1 : ux < 4294967296)
    (CG1 : Hid (∀ w', Ext w w' → Calls Try.prog 27 #[px] w' fun e w'' => e = .returned (.int .u32 gx) ∧ w' = w''))
    (CU1 : Hid (∀ w', Ext w w' → Calls Try.prog 51 #[px] w' fun e w'' => e = .returned (.int .u32 ux) ∧ w' = w''))
    (CG2 : Hid (∀ w', Ext w w' → Calls Try.prog 21 #[py] w' fun e w'' => e = .returned (.int .u64 gy) ∧ w' = w''))
    (CU2 : Hid (∀ w', Ext w w' → Calls Try.prog 22 #[py] w' fun e w'' => e = .returned (.int .u64 uy) ∧ w' = w''))
    (CP1 : Hid (∀ w', Calls Try.prog 50 #[.int .i64 32, .int .u64 s, .int .i64 G] w' fun e w'' => e = .returned (.int .u64 gx) ∧ w' = w''))
    (CP2 : Hid (∀ w', Calls Try.prog 50 #[.int .i64 32, .int .u64 s, .int .i64 U] w' fun e w'' => e = .returned (.int .u64 ux) ∧ w' = w''))
    (CP3 : Hid (∀ w', Calls Try.prog 50 #[.int .i64 64, .int .u64 s, .int .i64 G] w' fun e w'' => e = .returned (.int .u64 gy) ∧ w' = w''))
    (CP4 : Hid (∀ w', Calls Try.prog 50 #[.int .i64 64, .int .u64 s, .int .i64 U] w' fun e w'' => e = .returned (.int .u64 uy) ∧ w' = w'')) :
    Calls Try.prog 20 #[px, py, (.agg #[.int .i64 C, .bool false, .bool H, .int .u64 F, .int .i64 N, .int .i64 G, .int .i64 U]), .int .u64 s] w fun e w' => e = .returned (.bool true) ∧ Ext w w' := by
  go_enter Try.func20, Try.ntmps20
  go_wp2_with fail
  refine (CS1.out _ (by repeat (first | with_reducible exact Ext.refl _ | with_reducible assumption | with_reducible refine Ext.alloc ?_ _ | with_reducible refine Ext.drew ?_ | with_reducible refine Ext.drewN ?_ _ | with_reducible refine Ext.setCell ?_ (by simp <;> omega) _ | with_reducible refine Ext.trans ?_ (by assumption)))).mono ?_
  rintro e w1 ⟨rfl, X1⟩
  have qh_0 : w1.cell? ⟨w.heap.size, 0, none⟩ = some (.int .i64 C) := X1.cell (by simp [go_sem])
  have qh_1 : w1.cell? ⟨w.heap.size, 1, none⟩ = some (.bool false) := X1.cell (by simp [go_sem])
  have qh_2 : w1.cell? ⟨w.heap.size, 2, none⟩ = some (.bool H) := X1.cell (by simp [go_sem])
  have qh_3 : w1.cell? ⟨w.heap.size, 3, none⟩ = some (.int .u64 F) := X1.cell (by simp [go_sem])
  have qh_4 : w1.cell? ⟨w.heap.size, 4, none⟩ = some (.int .i64 N) := X1.cell (by simp [go_sem])
  have qh_5 : w1.cell? ⟨w.heap.size, 5, none⟩ = some (.int .i64 G) := X1.cell (by simp [go_sem])
  have qh_6 : w1.cell? ⟨w.heap.size, 6, none⟩ = some (.int .i64 U) := X1.cell (by simp [go_sem])
  have E1 : Ext w w1 := Ext.trans ((Ext.refl w).alloc _) X1
  clear X1
  go_wp2_with fail
  have E1a := E1
  refine (CS2.out _ (by repeat (first | with_reducible exact Ext.refl _ | with_reducible assumption | with_reducible refine Ext.alloc ?_ _ | with_reducible refine Ext.drew ?_ | with_reducible refine Ext.drewN ?_ _ | with_reducible refine Ext.setCell ?_ (by simp <;> omega) _ | with_reducible refine Ext.trans ?_ (by assumption)))).mono ?_
  rintro e w2 ⟨rfl, X2⟩
  have qs_0 : w2.cell? ⟨w1.heap.size, 0, none⟩ = some (.int .u32 fx) := X2.cell (by simp [go_sem])
  have qs_1 : w2.cell? ⟨w1.heap.size, 1, none⟩ = some (.int .i64 N) := X2.cell (by simp [go_sem])
  have E12 : Ext w1 w2 := Ext.trans (by repeat (first | with_reducible exact Ext.refl _ | with_reducible assumption | with_reducible refine Ext.alloc ?_ _ | with_reducible refine Ext.drew ?_ | with_reducible refine Ext.drewN ?_ _ | with_reducible refine Ext.setCell ?_ (by simp <;> omega) _ | with_reducible refine Ext.trans ?_ (by assumption))) X2
  have E2 : Ext w w2 := E1.trans E12
  replace qh_0 := E12.cell qh_0
  replace qh_1 := E12.cell qh_1
  replace qh_2 := E12.cell qh_2
  replace qh_3 := E12.cell qh_3
  replace qh_4 := E12.cell qh_4
  replace qh_5 := E12.cell qh_5
  replace qh_6 := E12.cell qh_6
  clear X2 E12 E1 E1a
  go_upto_region 3 with (fail)
  refine settle_wp ?_
  intro w3 hb3
  have qt_0 : w3.cell? ⟨w2.heap.size, 0, none⟩ = some (.int .u64 F) := hb3.cell (by simp [go_sem])
  have qt_1 : w3.cell? ⟨w2.heap.size, 1, none⟩ = some (.int .i64 N) := hb3.cell (by simp [go_sem])
  have E23 : Ext w2 w3 := Ext.trans (by repeat (first | with_reducible exact Ext.refl _ | with_reducible assumption | with_reducible refine Ext.alloc ?_ _ | with_reducible refine Ext.drew ?_ | with_reducible refine Ext.drewN ?_ _ | with_reducible refine Ext.setCell ?_ (by simp <;> omega) _ | with_reducible refine Ext.trans ?_ (by assumption))) hb3
  have E3 : Ext w w3 := E2.trans E23
  replace qh_0 := E23.cell qh_0
  replace qh_1 := E23.cell qh_1
  replace qh_2 := E23.cell qh_2
  replace qh_3 := E23.cell qh_3
  replace qh_4 := E23.cell qh_4
  replace qh_5 := E23.cell qh_5
  replace qh_6 := E23.cell qh_6
  replace qs_0 := E23.cell qs_0
  replace qs_1 := E23.cell qs_1
  clear hb3 E23 E2
  refine wp_region_later (by kernel_rfl) (by kernel_rfl) ?_
  have lh_2 := fun (g : Later w3) => g.ok.cell qh_2
  have lh_3 := fun (g : Later w3) => g.ok.cell qh_3
  have lh_4 := fun (g : Later w3) => g.ok.cell qh_4
  have ls_0 := fun (g : Later w3) => g.ok.cell qs_0
  have ls_1 := fun (g : Later w3) => g.ok.cell qs_1
  have lt_0 := fun (g : Later w3) => g.ok.cell qt_0
  have lt_1 := fun (g : Later w3) => g.ok.cell qt_1
  repeat (go_big_quiet_step ((fail)))
  go_big_quiet_step ((go_at_call 49; exact laterS (CC.out _)))
  repeat (go_big_quiet_step ((fail)))
  refine wpQuiet_nil ?_
  intro w4 hl4
  have E34 := laters_ext hl4
  have E4 := E3.trans E34
  replace qh_0 := E34.cell qh_0
  replace qh_1 := E34.cell qh_1
  replace qh_2 := E34.cell qh_2
  replace qh_3 := E34.cell qh_3
  replace qh_4 := E34.cell qh_4
  replace qh_5 := E34.cell qh_5
  replace qh_6 := E34.cell qh_6
  clear hl4 E34 E3 lh_2 lh_3 lh_4 ls_0 ls_1 lt_0 lt_1 qs_0 qs_1 qt_0 qt_1
  go_upto_region 5 with (fail)
  refine wp_region_later (by kernel_rfl) (by kernel_rfl) ?_
  have lh_5 := fun (g : Later w4) => g.ok.cell qh_5
  have lh_6 := fun (g : Later w4) => g.ok.cell qh_6
  repeat (go_big_quiet_step ((fail)))
  go_big_quiet_step ((go_at_call 28; exact laterS (CR1.out _ (E4.trans (Later.ok _)))))
  repeat (go_big_quiet_step ((fail)))
  go_big_quiet_step ((go_at_call 24; exact laterS (CR2.out _ (E4.trans (Later.ok _)))))
  repeat (go_big_quiet_step ((fail)))
  refine wpQuiet_nil ?_
  intro w5 hl5
  have E45 := laters_ext hl5
  have E5 := E4.trans E45
  replace qh_0 := E45.cell qh_0
  replace qh_1 := E45.cell qh_1
  replace qh_2 := E45.cell qh_2
  replace qh_3 := E45.cell qh_3
  replace qh_4 := E45.cell qh_4
  replace qh_5 := E45.cell qh_5
  replace qh_6 := E45.cell qh_6
  clear hl5 E45 E4 lh_5 lh_6
  go_upto_region 9 with (fail)
  refine wp_region_later (by kernel_rfl) (by kernel_rfl) ?_
  have lh_5 := fun (g : Later w5) => g.ok.cell qh_5
  have lh_6 := fun (g : Later w5) => g.ok.cell qh_6
  repeat (go_big_quiet_step ((fail)))
  go_big_quiet_step ((go_at_call 27; exact laterS (CG1.out _ (E5.trans (Later.ok _)))))
  repeat (go_big_quiet_step ((fail)))
  go_big_quiet_step ((go_at_call 50; exact laterS (CP1.out _)))
  repeat (go_big_quiet_step ((fail)))
  go_big_quiet_step ((go_at_call 51; exact laterS (CU1.out _ (E5.trans (Later.ok _)))))
  repeat (go_big_quiet_step ((fail)))
  go_big_quiet_step ((go_at_call 50; exact laterS (CP2.out _)))
  repeat (go_big_quiet_step ((fail)))
  go_big_quiet_step ((go_at_call 21; exact laterS (CG2.out _ (E5.trans (Later.ok _)))))
  repeat (go_big_quiet_step ((fail)))
  go_big_quiet_step ((go_at_call 50; exact laterS (CP3.out _)))
  repeat (go_big_quiet_step ((fail)))
  go_big_quiet_step ((go_at_call 22; exact laterS (CU2.out _ (E5.trans (Later.ok _)))))
  repeat (go_big_quiet_step ((fail)))
  go_big_quiet_step ((go_at_call 50; exact laterS (CP4.out _)))
  repeat (go_big_quiet_step ((fail)))
  refine wpQuiet_nil ?_
  intro w6 hl6
  have E6 := E5.trans (laters_ext hl6)
  go_wp2
  first
    | (go_ret; exact ⟨rfl, E6⟩)
    | exact ⟨rfl, E6⟩
theorem alike_ok (bx b2 : Nat) (x y : HS) (r : RH) (s : Int) (k : Nat) (w : World) (Hx : HD .u32 w bx x) (Hy : HD .u64 w b2 y) (R : Rel s x y r k) (hk : k ≤ 100) : Calls Try.prog 20 #[.pointer (some ⟨bx, 0, none⟩), .pointer (some ⟨b2, 0, none⟩), (.agg #[.int .i64 r.C, .bool r.P, .bool r.H, .int .u64 r.F, .int .i64 r.N, .int .i64 r.G, .int .i64 r.U]), .int .u64 s] w fun e w' => e = .returned (.bool true) ∧ Ext w w' := by
  have S := R.sm hk
  have nx : ¬ 0 < x.N → x.N = 0 ∧ x.F = 0 := fun h => by
    rw [R.xN] at h ⊢
    rw [R.xF, (R.no h).2]
    exact ⟨(R.no h).1, rfl⟩
  have ny : ¬ 0 < y.N → y.N = 0 ∧ y.F = 0 := fun h => by
    rw [R.yN] at h ⊢
    rw [R.yF]
    exact R.no h
  have CS1 := fun w' (hx : Ext w w') => span32_is bx x w' (Hx.ext hx) nx
  have CS2 := fun w' (hx : Ext w w') => span64_is b2 y w' (Hy.ext hx) ny
  rw [R.xF, R.xN, ← R.hN] at CS1
  rw [R.yF, R.yN, ← R.hN] at CS2
  have CC := fun w' => rCut_32 r.F w' R.f0
  have CR1 := fun w' (hx : Ext w w') => ready32 bx x w' (Hx.ext hx)
  have CR2 := fun w' (hx : Ext w w') => ready64 b2 y w' (Hy.ext hx)
  rw [R.ready32] at CR1
  rw [R.ready64] at CR2
  have CG1 := fun w' (hx : Ext w w') => gate32 bx x w' (Hx.ext hx)
  have CU1 := fun w' (hx : Ext w w') => upto32 bx x w' (Hx.ext hx)
  have CG2 := fun w' (hx : Ext w w') => gate64 b2 y w' (Hy.ext hx)
  have CU2 := fun w' (hx : Ext w w') => upto64 b2 y w' (Hy.ext hx)
  cases hP : r.P
  · obtain ⟨z1, z2, z3, z4, _⟩ := R.cz hP
    rw [z1] at CG1
    rw [z2] at CU1
    rw [z3] at CG2
    rw [z4] at CU2
    exact alike_c _ _ r.C r.F r.N r.G r.U s (r.F % 4294967296) r.H w (by omega) (by omega) R.f0 R.f1 S.d0 (Int.le_trans S.d1 S.c1) S.g0 S.g1 (Lib.hid CS1) (Lib.hid CS2) (Lib.hid CC) (Lib.hid CR1) (Lib.hid CR2) _ _ _ _ (by omega) (by omega) (by omega) (by omega) (Lib.hid CG1) (Lib.hid CU1) (Lib.hid CG2) (Lib.hid CU2)
      (Lib.hid (fun w' => rPlus_32 s r.G w')) (Lib.hid (fun w' => rPlus_32 s r.U w')) (Lib.hid (fun w' => rPlus_64 s r.G w')) (Lib.hid (fun w' => rPlus_64 s r.U w'))
  · obtain ⟨z1, z2, z3, z4, _⟩ := R.pz hP
    rw [z1] at CG1
    rw [z4] at CU2
    exact alike_p _ _ r.C r.F r.N r.G r.U s (r.F % 4294967296) r.H w (by omega) (by omega) R.f0 R.f1 S.d0 (Int.le_trans S.d1 S.c1) S.g0 S.g1 (Lib.hid CS1) (Lib.hid CS2) (Lib.hid CC) (Lib.hid CR1) (Lib.hid CR2) (Lib.hid CG1) (Lib.hid CU2)
end Go.Proofs.Ytoaifbengichbab

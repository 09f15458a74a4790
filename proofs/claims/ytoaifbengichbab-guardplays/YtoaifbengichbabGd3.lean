/- What the laws' small and great come to. -/
import Derived.Test.YtoaifbengichbabGd2
import Derived.Deep.DeepCutAuto
namespace Go.Proofs.Ytoaifbengichbab
open Go.RowKit
set_option linter.unusedVariables false
set_option linter.unusedSimpArgs false
set_option maxHeartbeats 2000000
attribute [local go_sem] later_cell later_frozen later_const
theorem gdoes_wrap {q : IntKind} {b : Nat} {h' : HS} {v : Value} {w w1 w2 w3 : World} (hx : Ext w w1) (g : HD q w2 b h') (gb : But (fun k => k = b) w1 w2) (hy : Ext w2 w3) : GDoes q b h' v w (.returned v) w3 :=
  ⟨rfl, g.ext hy, ((hx.but _).trans gb).trans (hy.but _)⟩
def gstp32 (h : HS) (k n p : Int) : GS := if k = 1 then claimedS h (p % 4294967296) n else if k = 2 then publishedS h else if k = 3 then sawS32 h ((h.G + n) % 4294967296) else if k = 4 then releasedS32 h n else ⟨h, false⟩
theorem small_ok (b : Nat) (h : HS) (k n p op m : Int) (u : Value) (w : World) (H : HD .u32 w b h) (p0 : 0 ≤ p) (p1 : p < 18446744073709551616) : Calls Try.prog 18 #[.pointer (some ⟨b, 0, none⟩), .agg #[.int .i64 k, .int .i64 n, .int .u64 p, .int .i64 op, .int .i64 m, u]] w (GDoes .u32 b (gstp32 h k n p).h (.bool (gstp32 h k n p).ok) w) := by
  have HH := Lib.hid (fun w' (hx : Ext w w') => H.ext hx)
  clear H
  by_cases h1 : k = 1
  · subst h1
    rw [show gstp32 h 1 n p = claimedS h (p % 4294967296) n from rfl]
    have CC := Lib.hid (fun w' (hx : Ext w w') => claimed32 b h (p % 4294967296) n w' (HH.out _ hx))
    generalize claimedS h (p % 4294967296) n = s at *
    go_enter Try.func18, Try.ntmps18
    go_upto_region 3 with (fail)
    refine settle_wp ?_
    intro w1 hb1
    have qd_1 : w1.cell? ⟨w.heap.size, 1, none⟩ = some (.int .i64 n) := hb1.cell (by simp [go_sem])
    have qd_2 : w1.cell? ⟨w.heap.size, 2, none⟩ = some (.int .u64 p) := hb1.cell (by simp [go_sem])
    have X1 : Ext w w1 := Ext.trans ((Ext.refl w).alloc _) hb1
    clear hb1
    refine wp_region_later_tail 7 (by kernel_rfl) (by kernel_rfl) ?_
    simp only [List.take_succ_cons, List.take_zero, List.drop_succ_cons, List.drop_zero]
    have l_1 := fun (g : Later w1) => g.ok.cell qd_1
    have l_2 := fun (g : Later w1) => g.ok.cell qd_2
    repeat (go_big_quiet_step ((fail)))
    go_big_quiet_step ((go_at_call 7; exact laterS (ofU32 _ _)))
    repeat (go_big_quiet_step ((fail)))
    refine wpQuiet_nil ?_
    intro w3 hl3
    have X3 := X1.trans (laters_ext hl3)
    clear hl3 l_1 l_2 qd_1 qd_2
    go_wp2_with fail
    refine (CC.out _ X3).mono ?_
    rintro e w4 ⟨rfl, G4, B4⟩
    have R := Lib.hid (fun w5 hy => gdoes_wrap (v := .bool s.ok) X3 G4 B4 (w3 := w5) hy)
    clear G4 B4
    go_wp2
    first
      | (go_ret; exact R.out _ (by repeat (first | with_reducible exact Ext.refl _ | with_reducible assumption | with_reducible refine Ext.alloc ?_ _ | with_reducible refine Ext.drew ?_ | with_reducible refine Ext.drewN ?_ _ | with_reducible refine Ext.setCell ?_ (by simp <;> omega) _ | with_reducible refine Ext.trans ?_ (by assumption))))
      | exact R.out _ (by repeat (first | with_reducible exact Ext.refl _ | with_reducible assumption | with_reducible refine Ext.alloc ?_ _ | with_reducible refine Ext.drew ?_ | with_reducible refine Ext.drewN ?_ _ | with_reducible refine Ext.setCell ?_ (by simp <;> omega) _ | with_reducible refine Ext.trans ?_ (by assumption)))
  have e1 : (k == 1) = false := by simpa using h1
  by_cases h2 : k = 2
  · subst h2
    rw [show gstp32 h 2 n p = publishedS h from rfl]
    have CC := Lib.hid (fun w' (hx : Ext w w') => published32 b h w' (HH.out _ hx))
    generalize publishedS h = s at *
    go_enter Try.func18, Try.ntmps18
    go_wp2_with fail
    refine (CC.out _ (by repeat (first | with_reducible exact Ext.refl _ | with_reducible assumption | with_reducible refine Ext.alloc ?_ _ | with_reducible refine Ext.drew ?_ | with_reducible refine Ext.drewN ?_ _ | with_reducible refine Ext.setCell ?_ (by simp <;> omega) _ | with_reducible refine Ext.trans ?_ (by assumption)))).mono ?_
    rintro e w4 ⟨rfl, G4, B4⟩
    have R := Lib.hid (fun w5 hy => gdoes_wrap (v := .bool s.ok) ((Ext.refl w).alloc _) G4 B4 (w3 := w5) hy)
    clear G4 B4
    go_wp2
    first
      | (go_ret; exact R.out _ (by repeat (first | with_reducible exact Ext.refl _ | with_reducible assumption | with_reducible refine Ext.alloc ?_ _ | with_reducible refine Ext.drew ?_ | with_reducible refine Ext.drewN ?_ _ | with_reducible refine Ext.setCell ?_ (by simp <;> omega) _ | with_reducible refine Ext.trans ?_ (by assumption))))
      | exact R.out _ (by repeat (first | with_reducible exact Ext.refl _ | with_reducible assumption | with_reducible refine Ext.alloc ?_ _ | with_reducible refine Ext.drew ?_ | with_reducible refine Ext.drewN ?_ _ | with_reducible refine Ext.setCell ?_ (by simp <;> omega) _ | with_reducible refine Ext.trans ?_ (by assumption)))
  have e2 : (k == 2) = false := by simpa using h2
  by_cases h3 : k = 3
  · subst h3
    rw [show gstp32 h 3 n p = sawS32 h ((h.G + n) % 4294967296) from rfl]
    have CC := Lib.hid (fun w' (hx : Ext w w') => saw32 b h ((h.G + n) % 4294967296) w' (HH.out _ hx))
    have CG := Lib.hid (fun w' (hx : Ext w w') => gate32 b h w' (HH.out _ hx))
    generalize sawS32 h ((h.G + n) % 4294967296) = s at *
    go_enter Try.func18, Try.ntmps18
    go_upto_region 7 with (fail)
    refine settle_wp ?_
    intro w1 hb1
    have qd_1 : w1.cell? ⟨w.heap.size, 1, none⟩ = some (.int .i64 n) := hb1.cell (by simp [go_sem])
    have X1 : Ext w w1 := Ext.trans ((Ext.refl w).alloc _) hb1
    clear hb1
    refine wp_region_later_tail 6 (by kernel_rfl) (by kernel_rfl) ?_
    simp only [List.take_succ_cons, List.take_zero, List.drop_succ_cons, List.drop_zero]
    have l_1 := fun (g : Later w1) => g.ok.cell qd_1
    repeat (go_big_quiet_step ((fail)))
    go_big_quiet_step ((go_at_call 27; exact laterS (CG.out _ (X1.trans (Later.ok _)))))
    repeat (go_big_quiet_step ((fail)))
    go_big_quiet_step ((go_at_call 42; exact laterS (addU32 _ _ _)))
    repeat (go_big_quiet_step ((fail)))
    refine wpQuiet_nil ?_
    intro w3 hl3
    have X3 := X1.trans (laters_ext hl3)
    clear hl3 l_1 qd_1
    go_wp2_with fail
    refine (CC.out _ X3).mono ?_
    rintro e w4 ⟨rfl, G4, B4⟩
    have R := Lib.hid (fun w5 hy => gdoes_wrap (v := .bool s.ok) X3 G4 B4 (w3 := w5) hy)
    clear G4 B4
    go_wp2
    first
      | (go_ret; exact R.out _ (by repeat (first | with_reducible exact Ext.refl _ | with_reducible assumption | with_reducible refine Ext.alloc ?_ _ | with_reducible refine Ext.drew ?_ | with_reducible refine Ext.drewN ?_ _ | with_reducible refine Ext.setCell ?_ (by simp <;> omega) _ | with_reducible refine Ext.trans ?_ (by assumption))))
      | exact R.out _ (by repeat (first | with_reducible exact Ext.refl _ | with_reducible assumption | with_reducible refine Ext.alloc ?_ _ | with_reducible refine Ext.drew ?_ | with_reducible refine Ext.drewN ?_ _ | with_reducible refine Ext.setCell ?_ (by simp <;> omega) _ | with_reducible refine Ext.trans ?_ (by assumption)))
  have e3 : (k == 3) = false := by simpa using h3
  by_cases h4 : k = 4
  · subst h4
    rw [show gstp32 h 4 n p = releasedS32 h n from rfl]
    have CC := Lib.hid (fun w' (hx : Ext w w') => released32 b h n w' (HH.out _ hx))
    generalize releasedS32 h n = s at *
    go_enter Try.func18, Try.ntmps18
    go_wp2_with fail
    refine (CC.out _ (by repeat (first | with_reducible exact Ext.refl _ | with_reducible assumption | with_reducible refine Ext.alloc ?_ _ | with_reducible refine Ext.drew ?_ | with_reducible refine Ext.drewN ?_ _ | with_reducible refine Ext.setCell ?_ (by simp <;> omega) _ | with_reducible refine Ext.trans ?_ (by assumption)))).mono ?_
    rintro e w4 ⟨rfl, G4, B4⟩
    have R := Lib.hid (fun w5 hy => gdoes_wrap (v := .bool s.ok) ((Ext.refl w).alloc _) G4 B4 (w3 := w5) hy)
    clear G4 B4
    go_wp2
    first
      | (go_ret; exact R.out _ (by repeat (first | with_reducible exact Ext.refl _ | with_reducible assumption | with_reducible refine Ext.alloc ?_ _ | with_reducible refine Ext.drew ?_ | with_reducible refine Ext.drewN ?_ _ | with_reducible refine Ext.setCell ?_ (by simp <;> omega) _ | with_reducible refine Ext.trans ?_ (by assumption))))
      | exact R.out _ (by repeat (first | with_reducible exact Ext.refl _ | with_reducible assumption | with_reducible refine Ext.alloc ?_ _ | with_reducible refine Ext.drew ?_ | with_reducible refine Ext.drewN ?_ _ | with_reducible refine Ext.setCell ?_ (by simp <;> omega) _ | with_reducible refine Ext.trans ?_ (by assumption)))
  have e4 : (k == 4) = false := by simpa using h4
  rw [show gstp32 h k n p = ⟨h, false⟩ by unfold gstp32; rw [if_neg h1, if_neg h2, if_neg h3, if_neg h4]]
  go_enter Try.func18, Try.ntmps18
  go_wp2
  go_ret
  exact ⟨rfl, HH.out _ (by repeat (first | with_reducible exact Ext.refl _ | with_reducible assumption | with_reducible refine Ext.alloc ?_ _ | with_reducible refine Ext.drew ?_ | with_reducible refine Ext.drewN ?_ _ | with_reducible refine Ext.setCell ?_ (by simp <;> omega) _ | with_reducible refine Ext.trans ?_ (by assumption))), Ext.but (by repeat (first | with_reducible exact Ext.refl _ | with_reducible assumption | with_reducible refine Ext.alloc ?_ _ | with_reducible refine Ext.drew ?_ | with_reducible refine Ext.drewN ?_ _ | with_reducible refine Ext.setCell ?_ (by simp <;> omega) _ | with_reducible refine Ext.trans ?_ (by assumption))) _⟩
theorem small_nil (k n p op m : Int) (u : Value) (w : World) (p0 : 0 ≤ p) (p1 : p < 18446744073709551616) : Calls Try.prog 18 #[.pointer none, .agg #[.int .i64 k, .int .i64 n, .int .u64 p, .int .i64 op, .int .i64 m, u]] w fun e w' => e = .returned (.bool false) ∧ Ext w w' := by
  by_cases h1 : k = 1
  · subst h1
    go_enter Try.func18, Try.ntmps18
    go_upto_region 3 with (fail)
    refine settle_wp ?_
    intro w1 hb1
    have qd_1 : w1.cell? ⟨w.heap.size, 1, none⟩ = some (.int .i64 n) := hb1.cell (by simp [go_sem])
    have qd_2 : w1.cell? ⟨w.heap.size, 2, none⟩ = some (.int .u64 p) := hb1.cell (by simp [go_sem])
    have X1 : Ext w w1 := Ext.trans ((Ext.refl w).alloc _) hb1
    clear hb1
    refine wp_region_later_tail 7 (by kernel_rfl) (by kernel_rfl) ?_
    simp only [List.take_succ_cons, List.take_zero, List.drop_succ_cons, List.drop_zero]
    have l_1 := fun (g : Later w1) => g.ok.cell qd_1
    have l_2 := fun (g : Later w1) => g.ok.cell qd_2
    repeat (go_big_quiet_step ((fail)))
    go_big_quiet_step ((go_at_call 7; exact laterS (ofU32 _ _)))
    repeat (go_big_quiet_step ((fail)))
    refine wpQuiet_nil ?_
    intro w3 hl3
    have X3 := X1.trans (laters_ext hl3)
    clear hl3 l_1 l_2 qd_1 qd_2
    go_wp2_with fail
    refine (claimed32_nil _ _ _).mono ?_
    rintro e w4 ⟨rfl, X4⟩
    have X5 := X3.trans X4
    clear X3 X4 X1
    go_wp2
    first
      | (go_ret; exact ⟨rfl, by repeat (first | with_reducible exact Ext.refl _ | with_reducible assumption | with_reducible refine Ext.alloc ?_ _ | with_reducible refine Ext.drew ?_ | with_reducible refine Ext.drewN ?_ _ | with_reducible refine Ext.setCell ?_ (by simp <;> omega) _ | with_reducible refine Ext.trans ?_ (by assumption))⟩)
      | exact ⟨rfl, by repeat (first | with_reducible exact Ext.refl _ | with_reducible assumption | with_reducible refine Ext.alloc ?_ _ | with_reducible refine Ext.drew ?_ | with_reducible refine Ext.drewN ?_ _ | with_reducible refine Ext.setCell ?_ (by simp <;> omega) _ | with_reducible refine Ext.trans ?_ (by assumption))⟩
  have e1 : (k == 1) = false := by simpa using h1
  by_cases h2 : k = 2
  · subst h2
    go_enter Try.func18, Try.ntmps18
    go_wp2_with fail
    refine (published32_nil _).mono ?_
    rintro e w' ⟨rfl, rfl⟩
    go_wp2
    go_ret
    exact ⟨rfl, by repeat (first | with_reducible exact Ext.refl _ | with_reducible assumption | with_reducible refine Ext.alloc ?_ _ | with_reducible refine Ext.drew ?_ | with_reducible refine Ext.drewN ?_ _ | with_reducible refine Ext.setCell ?_ (by simp <;> omega) _ | with_reducible refine Ext.trans ?_ (by assumption))⟩
  have e2 : (k == 2) = false := by simpa using h2
  by_cases h3 : k = 3
  · subst h3
    go_enter Try.func18, Try.ntmps18
    go_upto_region 7 with (fail)
    refine settle_wp ?_
    intro w1 hb1
    have qd_1 : w1.cell? ⟨w.heap.size, 1, none⟩ = some (.int .i64 n) := hb1.cell (by simp [go_sem])
    have X1 : Ext w w1 := Ext.trans ((Ext.refl w).alloc _) hb1
    clear hb1
    refine wp_region_later_tail 6 (by kernel_rfl) (by kernel_rfl) ?_
    simp only [List.take_succ_cons, List.take_zero, List.drop_succ_cons, List.drop_zero]
    have l_1 := fun (g : Later w1) => g.ok.cell qd_1
    repeat (go_big_quiet_step ((fail)))
    go_big_quiet_step ((go_at_call 27; exact laterS (gate32_nil _)))
    repeat (go_big_quiet_step ((fail)))
    go_big_quiet_step ((go_at_call 42; exact laterS (addU32 _ _ _)))
    repeat (go_big_quiet_step ((fail)))
    refine wpQuiet_nil ?_
    intro w3 hl3
    have X3 := X1.trans (laters_ext hl3)
    clear hl3 l_1 qd_1
    go_wp2_with fail
    refine (saw32_nil _ _).mono ?_
    rintro e w4 ⟨rfl, rfl⟩
    go_wp2
    first
      | (go_ret; exact ⟨rfl, by repeat (first | with_reducible exact Ext.refl _ | with_reducible assumption | with_reducible refine Ext.alloc ?_ _ | with_reducible refine Ext.drew ?_ | with_reducible refine Ext.drewN ?_ _ | with_reducible refine Ext.setCell ?_ (by simp <;> omega) _ | with_reducible refine Ext.trans ?_ (by assumption))⟩)
      | exact ⟨rfl, by repeat (first | with_reducible exact Ext.refl _ | with_reducible assumption | with_reducible refine Ext.alloc ?_ _ | with_reducible refine Ext.drew ?_ | with_reducible refine Ext.drewN ?_ _ | with_reducible refine Ext.setCell ?_ (by simp <;> omega) _ | with_reducible refine Ext.trans ?_ (by assumption))⟩
  have e3 : (k == 3) = false := by simpa using h3
  by_cases h4 : k = 4
  · subst h4
    go_enter Try.func18, Try.ntmps18
    go_wp2_with fail
    refine (released32_nil _ _).mono ?_
    rintro e w' ⟨rfl, rfl⟩
    go_wp2
    go_ret
    exact ⟨rfl, by repeat (first | with_reducible exact Ext.refl _ | with_reducible assumption | with_reducible refine Ext.alloc ?_ _ | with_reducible refine Ext.drew ?_ | with_reducible refine Ext.drewN ?_ _ | with_reducible refine Ext.setCell ?_ (by simp <;> omega) _ | with_reducible refine Ext.trans ?_ (by assumption))⟩
  have e4 : (k == 4) = false := by simpa using h4
  go_enter Try.func18, Try.ntmps18
  go_wp2
  go_ret
  exact ⟨rfl, by repeat (first | with_reducible exact Ext.refl _ | with_reducible assumption | with_reducible refine Ext.alloc ?_ _ | with_reducible refine Ext.drew ?_ | with_reducible refine Ext.drewN ?_ _ | with_reducible refine Ext.setCell ?_ (by simp <;> omega) _ | with_reducible refine Ext.trans ?_ (by assumption))⟩
def gstp64 (h : HS) (k n p : Int) : GS := if k = 1 then claimedS h (p) n else if k = 2 then publishedS h else if k = 3 then sawS64 h (U64 (h.G + n)) else if k = 4 then releasedS64 h n else ⟨h, false⟩
theorem great_ok (b : Nat) (h : HS) (k n p op m : Int) (u : Value) (w : World) (H : HD .u64 w b h) (p0 : 0 ≤ p) (p1 : p < 18446744073709551616) : Calls Try.prog 19 #[.pointer (some ⟨b, 0, none⟩), .agg #[.int .i64 k, .int .i64 n, .int .u64 p, .int .i64 op, .int .i64 m, u]] w (GDoes .u64 b (gstp64 h k n p).h (.bool (gstp64 h k n p).ok) w) := by
  have HH := Lib.hid (fun w' (hx : Ext w w') => H.ext hx)
  clear H
  by_cases h1 : k = 1
  · subst h1
    rw [show gstp64 h 1 n p = claimedS h (p) n from rfl]
    have CC := Lib.hid (fun w' (hx : Ext w w') => claimed64 b h (p) n w' (HH.out _ hx))
    generalize claimedS h (p) n = s at *
    go_enter Try.func19, Try.ntmps19
    go_wp2_with fail
    refine (CC.out _ (by repeat (first | with_reducible exact Ext.refl _ | with_reducible assumption | with_reducible refine Ext.alloc ?_ _ | with_reducible refine Ext.drew ?_ | with_reducible refine Ext.drewN ?_ _ | with_reducible refine Ext.setCell ?_ (by simp <;> omega) _ | with_reducible refine Ext.trans ?_ (by assumption)))).mono ?_
    rintro e w4 ⟨rfl, G4, B4⟩
    have R := Lib.hid (fun w5 hy => gdoes_wrap (v := .bool s.ok) ((Ext.refl w).alloc _) G4 B4 (w3 := w5) hy)
    clear G4 B4
    go_wp2
    first
      | (go_ret; exact R.out _ (by repeat (first | with_reducible exact Ext.refl _ | with_reducible assumption | with_reducible refine Ext.alloc ?_ _ | with_reducible refine Ext.drew ?_ | with_reducible refine Ext.drewN ?_ _ | with_reducible refine Ext.setCell ?_ (by simp <;> omega) _ | with_reducible refine Ext.trans ?_ (by assumption))))
      | exact R.out _ (by repeat (first | with_reducible exact Ext.refl _ | with_reducible assumption | with_reducible refine Ext.alloc ?_ _ | with_reducible refine Ext.drew ?_ | with_reducible refine Ext.drewN ?_ _ | with_reducible refine Ext.setCell ?_ (by simp <;> omega) _ | with_reducible refine Ext.trans ?_ (by assumption)))
  have e1 : (k == 1) = false := by simpa using h1
  by_cases h2 : k = 2
  · subst h2
    rw [show gstp64 h 2 n p = publishedS h from rfl]
    have CC := Lib.hid (fun w' (hx : Ext w w') => published64 b h w' (HH.out _ hx))
    generalize publishedS h = s at *
    go_enter Try.func19, Try.ntmps19
    go_wp2_with fail
    refine (CC.out _ (by repeat (first | with_reducible exact Ext.refl _ | with_reducible assumption | with_reducible refine Ext.alloc ?_ _ | with_reducible refine Ext.drew ?_ | with_reducible refine Ext.drewN ?_ _ | with_reducible refine Ext.setCell ?_ (by simp <;> omega) _ | with_reducible refine Ext.trans ?_ (by assumption)))).mono ?_
    rintro e w4 ⟨rfl, G4, B4⟩
    have R := Lib.hid (fun w5 hy => gdoes_wrap (v := .bool s.ok) ((Ext.refl w).alloc _) G4 B4 (w3 := w5) hy)
    clear G4 B4
    go_wp2
    first
      | (go_ret; exact R.out _ (by repeat (first | with_reducible exact Ext.refl _ | with_reducible assumption | with_reducible refine Ext.alloc ?_ _ | with_reducible refine Ext.drew ?_ | with_reducible refine Ext.drewN ?_ _ | with_reducible refine Ext.setCell ?_ (by simp <;> omega) _ | with_reducible refine Ext.trans ?_ (by assumption))))
      | exact R.out _ (by repeat (first | with_reducible exact Ext.refl _ | with_reducible assumption | with_reducible refine Ext.alloc ?_ _ | with_reducible refine Ext.drew ?_ | with_reducible refine Ext.drewN ?_ _ | with_reducible refine Ext.setCell ?_ (by simp <;> omega) _ | with_reducible refine Ext.trans ?_ (by assumption)))
  have e2 : (k == 2) = false := by simpa using h2
  by_cases h3 : k = 3
  · subst h3
    rw [show gstp64 h 3 n p = sawS64 h (U64 (h.G + n)) from rfl]
    have CC := Lib.hid (fun w' (hx : Ext w w') => saw64 b h (U64 (h.G + n)) w' (HH.out _ hx))
    have CG := Lib.hid (fun w' (hx : Ext w w') => gate64 b h w' (HH.out _ hx))
    generalize sawS64 h (U64 (h.G + n)) = s at *
    go_enter Try.func19, Try.ntmps19
    go_upto_region 7 with (fail)
    refine settle_wp ?_
    intro w1 hb1
    have qd_1 : w1.cell? ⟨w.heap.size, 1, none⟩ = some (.int .i64 n) := hb1.cell (by simp [go_sem])
    have X1 : Ext w w1 := Ext.trans ((Ext.refl w).alloc _) hb1
    clear hb1
    refine wp_region_later_tail 6 (by kernel_rfl) (by kernel_rfl) ?_
    simp only [List.take_succ_cons, List.take_zero, List.drop_succ_cons, List.drop_zero]
    have l_1 := fun (g : Later w1) => g.ok.cell qd_1
    repeat (go_big_quiet_step ((fail)))
    go_big_quiet_step ((go_at_call 21; exact laterS (CG.out _ (X1.trans (Later.ok _)))))
    repeat (go_big_quiet_step ((fail)))
    go_big_quiet_step ((go_at_call 46; exact laterS (addU64 _ _ _)))
    repeat (go_big_quiet_step ((fail)))
    refine wpQuiet_nil ?_
    intro w3 hl3
    have X3 := X1.trans (laters_ext hl3)
    clear hl3 l_1 qd_1
    go_wp2_with fail
    refine (CC.out _ X3).mono ?_
    rintro e w4 ⟨rfl, G4, B4⟩
    have R := Lib.hid (fun w5 hy => gdoes_wrap (v := .bool s.ok) X3 G4 B4 (w3 := w5) hy)
    clear G4 B4
    go_wp2
    first
      | (go_ret; exact R.out _ (by repeat (first | with_reducible exact Ext.refl _ | with_reducible assumption | with_reducible refine Ext.alloc ?_ _ | with_reducible refine Ext.drew ?_ | with_reducible refine Ext.drewN ?_ _ | with_reducible refine Ext.setCell ?_ (by simp <;> omega) _ | with_reducible refine Ext.trans ?_ (by assumption))))
      | exact R.out _ (by repeat (first | with_reducible exact Ext.refl _ | with_reducible assumption | with_reducible refine Ext.alloc ?_ _ | with_reducible refine Ext.drew ?_ | with_reducible refine Ext.drewN ?_ _ | with_reducible refine Ext.setCell ?_ (by simp <;> omega) _ | with_reducible refine Ext.trans ?_ (by assumption)))
  have e3 : (k == 3) = false := by simpa using h3
  by_cases h4 : k = 4
  · subst h4
    rw [show gstp64 h 4 n p = releasedS64 h n from rfl]
    have CC := Lib.hid (fun w' (hx : Ext w w') => released64 b h n w' (HH.out _ hx))
    generalize releasedS64 h n = s at *
    go_enter Try.func19, Try.ntmps19
    go_wp2_with fail
    refine (CC.out _ (by repeat (first | with_reducible exact Ext.refl _ | with_reducible assumption | with_reducible refine Ext.alloc ?_ _ | with_reducible refine Ext.drew ?_ | with_reducible refine Ext.drewN ?_ _ | with_reducible refine Ext.setCell ?_ (by simp <;> omega) _ | with_reducible refine Ext.trans ?_ (by assumption)))).mono ?_
    rintro e w4 ⟨rfl, G4, B4⟩
    have R := Lib.hid (fun w5 hy => gdoes_wrap (v := .bool s.ok) ((Ext.refl w).alloc _) G4 B4 (w3 := w5) hy)
    clear G4 B4
    go_wp2
    first
      | (go_ret; exact R.out _ (by repeat (first | with_reducible exact Ext.refl _ | with_reducible assumption | with_reducible refine Ext.alloc ?_ _ | with_reducible refine Ext.drew ?_ | with_reducible refine Ext.drewN ?_ _ | with_reducible refine Ext.setCell ?_ (by simp <;> omega) _ | with_reducible refine Ext.trans ?_ (by assumption))))
      | exact R.out _ (by repeat (first | with_reducible exact Ext.refl _ | with_reducible assumption | with_reducible refine Ext.alloc ?_ _ | with_reducible refine Ext.drew ?_ | with_reducible refine Ext.drewN ?_ _ | with_reducible refine Ext.setCell ?_ (by simp <;> omega) _ | with_reducible refine Ext.trans ?_ (by assumption)))
  have e4 : (k == 4) = false := by simpa using h4
  rw [show gstp64 h k n p = ⟨h, false⟩ by unfold gstp64; rw [if_neg h1, if_neg h2, if_neg h3, if_neg h4]]
  go_enter Try.func19, Try.ntmps19
  go_wp2
  go_ret
  exact ⟨rfl, HH.out _ (by repeat (first | with_reducible exact Ext.refl _ | with_reducible assumption | with_reducible refine Ext.alloc ?_ _ | with_reducible refine Ext.drew ?_ | with_reducible refine Ext.drewN ?_ _ | with_reducible refine Ext.setCell ?_ (by simp <;> omega) _ | with_reducible refine Ext.trans ?_ (by assumption))), Ext.but (by repeat (first | with_reducible exact Ext.refl _ | with_reducible assumption | with_reducible refine Ext.alloc ?_ _ | with_reducible refine Ext.drew ?_ | with_reducible refine Ext.drewN ?_ _ | with_reducible refine Ext.setCell ?_ (by simp <;> omega) _ | with_reducible refine Ext.trans ?_ (by assumption))) _⟩
theorem great_nil (k n p op m : Int) (u : Value) (w : World) (p0 : 0 ≤ p) (p1 : p < 18446744073709551616) : Calls Try.prog 19 #[.pointer none, .agg #[.int .i64 k, .int .i64 n, .int .u64 p, .int .i64 op, .int .i64 m, u]] w fun e w' => e = .returned (.bool false) ∧ Ext w w' := by
  by_cases h1 : k = 1
  · subst h1
    go_enter Try.func19, Try.ntmps19
    go_wp2_with fail
    refine (claimed64_nil _ _ _).mono ?_
    rintro e w4 ⟨rfl, X4⟩
    go_wp2
    go_ret
    exact ⟨rfl, Ext.trans ((Ext.refl w).alloc _) X4⟩
  have e1 : (k == 1) = false := by simpa using h1
  by_cases h2 : k = 2
  · subst h2
    go_enter Try.func19, Try.ntmps19
    go_wp2_with fail
    refine (published64_nil _).mono ?_
    rintro e w' ⟨rfl, rfl⟩
    go_wp2
    go_ret
    exact ⟨rfl, by repeat (first | with_reducible exact Ext.refl _ | with_reducible assumption | with_reducible refine Ext.alloc ?_ _ | with_reducible refine Ext.drew ?_ | with_reducible refine Ext.drewN ?_ _ | with_reducible refine Ext.setCell ?_ (by simp <;> omega) _ | with_reducible refine Ext.trans ?_ (by assumption))⟩
  have e2 : (k == 2) = false := by simpa using h2
  by_cases h3 : k = 3
  · subst h3
    go_enter Try.func19, Try.ntmps19
    go_upto_region 7 with (fail)
    refine settle_wp ?_
    intro w1 hb1
    have qd_1 : w1.cell? ⟨w.heap.size, 1, none⟩ = some (.int .i64 n) := hb1.cell (by simp [go_sem])
    have X1 : Ext w w1 := Ext.trans ((Ext.refl w).alloc _) hb1
    clear hb1
    refine wp_region_later_tail 6 (by kernel_rfl) (by kernel_rfl) ?_
    simp only [List.take_succ_cons, List.take_zero, List.drop_succ_cons, List.drop_zero]
    have l_1 := fun (g : Later w1) => g.ok.cell qd_1
    repeat (go_big_quiet_step ((fail)))
    go_big_quiet_step ((go_at_call 21; exact laterS (gate64_nil _)))
    repeat (go_big_quiet_step ((fail)))
    go_big_quiet_step ((go_at_call 46; exact laterS (addU64 _ _ _)))
    repeat (go_big_quiet_step ((fail)))
    refine wpQuiet_nil ?_
    intro w3 hl3
    have X3 := X1.trans (laters_ext hl3)
    clear hl3 l_1 qd_1
    go_wp2_with fail
    refine (saw64_nil _ _).mono ?_
    rintro e w4 ⟨rfl, rfl⟩
    go_wp2
    first
      | (go_ret; exact ⟨rfl, by repeat (first | with_reducible exact Ext.refl _ | with_reducible assumption | with_reducible refine Ext.alloc ?_ _ | with_reducible refine Ext.drew ?_ | with_reducible refine Ext.drewN ?_ _ | with_reducible refine Ext.setCell ?_ (by simp <;> omega) _ | with_reducible refine Ext.trans ?_ (by assumption))⟩)
      | exact ⟨rfl, by repeat (first | with_reducible exact Ext.refl _ | with_reducible assumption | with_reducible refine Ext.alloc ?_ _ | with_reducible refine Ext.drew ?_ | with_reducible refine Ext.drewN ?_ _ | with_reducible refine Ext.setCell ?_ (by simp <;> omega) _ | with_reducible refine Ext.trans ?_ (by assumption))⟩
  have e3 : (k == 3) = false := by simpa using h3
  by_cases h4 : k = 4
  · subst h4
    go_enter Try.func19, Try.ntmps19
    go_wp2_with fail
    refine (released64_nil _ _).mono ?_
    rintro e w' ⟨rfl, rfl⟩
    go_wp2
    go_ret
    exact ⟨rfl, by repeat (first | with_reducible exact Ext.refl _ | with_reducible assumption | with_reducible refine Ext.alloc ?_ _ | with_reducible refine Ext.drew ?_ | with_reducible refine Ext.drewN ?_ _ | with_reducible refine Ext.setCell ?_ (by simp <;> omega) _ | with_reducible refine Ext.trans ?_ (by assumption))⟩
  have e4 : (k == 4) = false := by simpa using h4
  go_enter Try.func19, Try.ntmps19
  go_wp2
  go_ret
  exact ⟨rfl, by repeat (first | with_reducible exact Ext.refl _ | with_reducible assumption | with_reducible refine Ext.alloc ?_ _ | with_reducible refine Ext.drew ?_ | with_reducible refine Ext.drewN ?_ _ | with_reducible refine Ext.setCell ?_ (by simp <;> omega) _ | with_reducible refine Ext.trans ?_ (by assumption))⟩
end Go.Proofs.Ytoaifbengichbab

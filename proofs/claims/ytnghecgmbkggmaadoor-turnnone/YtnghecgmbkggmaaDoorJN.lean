import Derived.Test.YtnghecgmbkggmaaDoorJT
import Derived.Test.YtnghecgmbkggmaaDoorLong
import Derived.Test.YtnghecgmbkggmaaDoorOpenC
import Derived.Test.YtnghecgmbkggmaaDoorCf2
/- The walk of TurnNone. -/
namespace Go.Proofs.YtnghecgmbkggmaaDoor
open Go.RowKit
set_option linter.unusedVariables false
set_option linter.unusedSimpArgs false
set_option maxHeartbeats 4000000
attribute [local go_sem] later_cell later_frozen later_const
set_option maxRecDepth 100000 in
theorem turnNone_walk (V W C P S : Int) (a : Option Addr) (len cap : Nat) (ups : List (List Int)) (t pv : Int) (w : World) (wf : (Lit.int .i64 V).wf = true ∧ (Lit.int .i64 W).wf = true ∧ (Lit.int .i64 C).wf = true ∧ (Lit.int .i64 P).wf = true ∧ (Lit.int .u64 S).wf = true) (h : Came w a len cap ups) (wt : (Lit.int .i64 t).wf = true) (wp : (Lit.int .i64 pv).wf = true) (E : Parts w) :
    Calls Tryd.prog 6 #[(.agg #[.int .i64 V, .int .i64 W, .int .i64 C, .int .i64 P, .int .u64 (S), .slice a len cap]), .int .i64 t, .int .i64 pv] w fun e w' => e = .returned (.bool true) ∧ Below w.heap.size w w' := by
  have hS := wf_u64 wf.2.2.2.2
  obtain ⟨hS0, hS1⟩ := hS
  clear wf wt wp
  have CL := fun w' (hx : Ext w w') => long _ ups w' (h.l.ext hx) (by rw [h.n]; exact h.m) (fun l hl => (h.each l hl).1)
  have CV := Lib.hid (fun w' (hx : Ext w w') => live18 w' (E.ext hx))
  cases hb : longB ups
  case true =>
    rw [hb] at CL
    have HCL := Lib.hid CL
    clear CL h hb E
    go_enter Tryd.func6, Tryd.ntmps6
    go_wp2_with fail
    refine (HCL.out _ (by repeat (first | with_reducible exact Ext.refl _ | with_reducible assumption | with_reducible refine Ext.alloc ?_ _ | with_reducible refine Ext.drew ?_ | with_reducible refine Ext.drewN ?_ _ | with_reducible refine Ext.setCell ?_ (by simp <;> omega) _ | with_reducible refine Ext.trans ?_ (by assumption)))).mono ?_
    rintro e w' ⟨rfl, rfl⟩
    go_wp2_with fail
    refine (CV.out _ (by repeat (first | with_reducible exact Ext.refl _ | with_reducible assumption | with_reducible refine Ext.alloc ?_ _ | with_reducible refine Ext.drew ?_ | with_reducible refine Ext.drewN ?_ _ | with_reducible refine Ext.setCell ?_ (by simp <;> omega) _ | with_reducible refine Ext.trans ?_ (by assumption)))).mono ?_
    rintro e w1 ⟨rfl, hb1⟩
    obtain ⟨hc1, hf1⟩ := hb1.cells
    go_wp2
    go_ret
    refine ⟨rfl, Ext.below ?_⟩
    repeat (first | with_reducible exact Ext.refl _ | with_reducible assumption | with_reducible refine Ext.alloc ?_ _ | with_reducible refine Ext.drew ?_ | with_reducible refine Ext.drewN ?_ _ | with_reducible refine Ext.setCell ?_ (by simp <;> omega) _ | with_reducible refine Ext.trans ?_ (by assumption))
  rw [hb] at CL
  have HCL := Lib.hid CL
  obtain ⟨hll, hn⟩ := came_small h hb
  obtain rfl := h.n
  have CR := fun w' (hx : Ext w w') => r10Right V W C P S _ ups w' (h.l.ext hx) hll hn
  by_cases hg : ckC V W C P ups = 0
  case neg =>
    rw [show (ckC V W C P ups == 0) = false by simpa using hg] at CR
    have HCR := Lib.hid CR
    clear CL CR h hb E hll hg hn
    generalize ups.length = n at *
    go_enter Tryd.func6, Tryd.ntmps6
    go_wp2_with fail
    refine (HCL.out _ (by repeat (first | with_reducible exact Ext.refl _ | with_reducible assumption | with_reducible refine Ext.alloc ?_ _ | with_reducible refine Ext.drew ?_ | with_reducible refine Ext.drewN ?_ _ | with_reducible refine Ext.setCell ?_ (by simp <;> omega) _ | with_reducible refine Ext.trans ?_ (by assumption)))).mono ?_
    rintro e w' ⟨rfl, rfl⟩
    go_wp2_with fail
    refine (HCR.out _ (by repeat (first | with_reducible exact Ext.refl _ | with_reducible assumption | with_reducible refine Ext.alloc ?_ _ | with_reducible refine Ext.drew ?_ | with_reducible refine Ext.drewN ?_ _ | with_reducible refine Ext.setCell ?_ (by simp <;> omega) _ | with_reducible refine Ext.trans ?_ (by assumption)))).mono ?_
    rintro e w2 ⟨rfl, hb2⟩
    obtain ⟨hc2, hf2⟩ := hb2.cells
    go_wp2_with fail
    refine (CV.out _ (by repeat (first | with_reducible exact Ext.refl _ | with_reducible assumption | with_reducible refine Ext.alloc ?_ _ | with_reducible refine Ext.drew ?_ | with_reducible refine Ext.drewN ?_ _ | with_reducible refine Ext.setCell ?_ (by simp <;> omega) _ | with_reducible refine Ext.trans ?_ (by assumption)))).mono ?_
    rintro e w3 ⟨rfl, hb3⟩
    obtain ⟨hc3, hf3⟩ := hb3.cells
    go_wp2
    go_ret
    refine ⟨rfl, Ext.below ?_⟩
    repeat (first | with_reducible exact Ext.refl _ | with_reducible assumption | with_reducible refine Ext.alloc ?_ _ | with_reducible refine Ext.drew ?_ | with_reducible refine Ext.drewN ?_ _ | with_reducible refine Ext.setCell ?_ (by simp <;> omega) _ | with_reducible refine Ext.trans ?_ (by assumption))
  rw [show (ckC V W C P ups == 0) = true by simpa using hg] at CR
  by_cases hw : W = 64
  case neg =>
    have HCR := Lib.hid CR
    have dw : (W == 64) = false := by simpa using hw
    clear CL CR h hb E hll hg hn hw
    generalize ups.length = n at *
    go_enter Tryd.func6, Tryd.ntmps6
    go_wp2_with fail
    refine (HCL.out _ (by repeat (first | with_reducible exact Ext.refl _ | with_reducible assumption | with_reducible refine Ext.alloc ?_ _ | with_reducible refine Ext.drew ?_ | with_reducible refine Ext.drewN ?_ _ | with_reducible refine Ext.setCell ?_ (by simp <;> omega) _ | with_reducible refine Ext.trans ?_ (by assumption)))).mono ?_
    rintro e w' ⟨rfl, rfl⟩
    go_wp2_with fail
    refine (HCR.out _ (by repeat (first | with_reducible exact Ext.refl _ | with_reducible assumption | with_reducible refine Ext.alloc ?_ _ | with_reducible refine Ext.drew ?_ | with_reducible refine Ext.drewN ?_ _ | with_reducible refine Ext.setCell ?_ (by simp <;> omega) _ | with_reducible refine Ext.trans ?_ (by assumption)))).mono ?_
    rintro e w4 ⟨rfl, hb4⟩
    obtain ⟨hc4, hf4⟩ := hb4.cells
    clear hc4 hf4
    have qc_0 : w4.cell? ⟨w.heap.size, 0, none⟩ = some (.int .i64 V) := (hb4.cells.1 _ _ (by simp <;> omega)).trans (by simp [go_sem])
    have qc_1 : w4.cell? ⟨w.heap.size, 1, none⟩ = some (.int .i64 W) := (hb4.cells.1 _ _ (by simp <;> omega)).trans (by simp [go_sem])
    have qc_2 : w4.cell? ⟨w.heap.size, 2, none⟩ = some (.int .i64 C) := (hb4.cells.1 _ _ (by simp <;> omega)).trans (by simp [go_sem])
    have qc_3 : w4.cell? ⟨w.heap.size, 3, none⟩ = some (.int .i64 P) := (hb4.cells.1 _ _ (by simp <;> omega)).trans (by simp [go_sem])
    have qc_4 : w4.cell? ⟨w.heap.size, 4, none⟩ = some (.int .u64 (S)) := (hb4.cells.1 _ _ (by simp <;> omega)).trans (by simp [go_sem])
    have qc_5 : w4.cell? ⟨w.heap.size, 5, none⟩ = some (.slice a n cap) := (hb4.cells.1 _ _ (by simp <;> omega)).trans (by simp [go_sem])
    have pc := World.block_lt_of_cell? _ ⟨w.heap.size, 0, none⟩ qc_0
    have rc := Nat.lt_succ_of_lt pc
    go_wp2_with fail
    refine (CV.out _ (by repeat (first | with_reducible exact Ext.refl _ | with_reducible assumption | with_reducible refine Ext.alloc ?_ _ | with_reducible refine Ext.drew ?_ | with_reducible refine Ext.drewN ?_ _ | with_reducible refine Ext.setCell ?_ (by simp <;> omega) _ | with_reducible refine Ext.trans ?_ (by assumption)))).mono ?_
    rintro e w5 ⟨rfl, hb5⟩
    have hx5 : Ext w4 w5 := by repeat (first | with_reducible exact Ext.refl _ | with_reducible assumption | with_reducible refine Ext.alloc ?_ _ | with_reducible refine Ext.drew ?_ | with_reducible refine Ext.drewN ?_ _ | with_reducible refine Ext.setCell ?_ (by simp <;> omega) _ | with_reducible refine Ext.trans ?_ (by assumption))
    replace qc_0 := hx5.cell qc_0
    replace qc_1 := hx5.cell qc_1
    replace qc_2 := hx5.cell qc_2
    replace qc_3 := hx5.cell qc_3
    replace qc_4 := hx5.cell qc_4
    replace qc_5 := hx5.cell qc_5
    replace pc := Nat.lt_of_lt_of_le pc hx5.size
    replace rc := Nat.lt_succ_of_lt pc
    clear hx5
    go_wp2
    go_ret
    refine ⟨rfl, Ext.below ?_⟩
    repeat (first | with_reducible exact Ext.refl _ | with_reducible assumption | with_reducible refine Ext.alloc ?_ _ | with_reducible refine Ext.drew ?_ | with_reducible refine Ext.drewN ?_ _ | with_reducible refine Ext.setCell ?_ (by simp <;> omega) _ | with_reducible refine Ext.trans ?_ (by assumption))
  subst hw
  have HCR := Lib.hid CR
  have CO := Lib.hid (fun w' (hx : Ext w w') => of_board V 64 C P S _ ups w' (h.l.ext hx) hll hn hg)
  have CN := Lib.hid (fun (y : LY) w' (K : BK y ups) hw hL h0 h1 => new_board64 y ups w' K hw hL h0 h1)
  generalize ups.length = n at *
  clear CL CR h hb E hll hg hn
  go_enter Tryd.func6, Tryd.ntmps6
  go_wp2_with fail
  refine (HCL.out _ (by repeat (first | with_reducible exact Ext.refl _ | with_reducible assumption | with_reducible refine Ext.alloc ?_ _ | with_reducible refine Ext.drew ?_ | with_reducible refine Ext.drewN ?_ _ | with_reducible refine Ext.setCell ?_ (by simp <;> omega) _ | with_reducible refine Ext.trans ?_ (by assumption)))).mono ?_
  rintro e w' ⟨rfl, rfl⟩
  go_wp2_with fail
  refine (HCR.out _ (by repeat (first | with_reducible exact Ext.refl _ | with_reducible assumption | with_reducible refine Ext.alloc ?_ _ | with_reducible refine Ext.drew ?_ | with_reducible refine Ext.drewN ?_ _ | with_reducible refine Ext.setCell ?_ (by simp <;> omega) _ | with_reducible refine Ext.trans ?_ (by assumption)))).mono ?_
  rintro e w1 ⟨rfl, hb1⟩
  obtain ⟨hc1, hf1⟩ := hb1.cells
  clear hc1 hf1
  have qc_0 : w1.cell? ⟨w.heap.size, 0, none⟩ = some (.int .i64 V) := (hb1.cells.1 _ _ (by simp <;> omega)).trans (by simp [go_sem])
  have qc_1 : w1.cell? ⟨w.heap.size, 1, none⟩ = some (.int .i64 64) := (hb1.cells.1 _ _ (by simp <;> omega)).trans (by simp [go_sem])
  have qc_2 : w1.cell? ⟨w.heap.size, 2, none⟩ = some (.int .i64 C) := (hb1.cells.1 _ _ (by simp <;> omega)).trans (by simp [go_sem])
  have qc_3 : w1.cell? ⟨w.heap.size, 3, none⟩ = some (.int .i64 P) := (hb1.cells.1 _ _ (by simp <;> omega)).trans (by simp [go_sem])
  have qc_4 : w1.cell? ⟨w.heap.size, 4, none⟩ = some (.int .u64 (S)) := (hb1.cells.1 _ _ (by simp <;> omega)).trans (by simp [go_sem])
  have qc_5 : w1.cell? ⟨w.heap.size, 5, none⟩ = some (.slice a n cap) := (hb1.cells.1 _ _ (by simp <;> omega)).trans (by simp [go_sem])
  have pc := World.block_lt_of_cell? _ ⟨w.heap.size, 0, none⟩ qc_0
  have rc := Nat.lt_succ_of_lt pc
  go_wp2_with fail
  have E1 : Ext w w1 := by repeat (first | with_reducible exact Ext.refl _ | with_reducible assumption | with_reducible refine Ext.alloc ?_ _ | with_reducible refine Ext.drew ?_ | with_reducible refine Ext.drewN ?_ _ | with_reducible refine Ext.setCell ?_ (by simp <;> omega) _ | with_reducible refine Ext.trans ?_ (by assumption))
  refine (CO.out _ E1).mono ?_
  rintro e wo ⟨y0, K0, o0, rfl, O0, Xo⟩
  have HE1 := Lib.hid (E1.trans Xo)
  have HK0 := Lib.hid K0
  have Ho0 := Lib.hid o0
  have HO0 := Lib.hid (O0.ext ((Ext.refl wo).alloc (.cells #[.int .i64 y0.V, .int .i64 y0.W, .int .i64 y0.C, .int .i64 y0.P, .int .u64 y0.S, .slice y0.a y0.n y0.cap, .int .i64 y0.Cu, .int .i64 y0.Cl, .int .i64 y0.Ti, .int .i64 y0.Se, .int .i64 y0.Ne, .int .i64 y0.Ma, .int .i64 y0.Sl, .int .i64 y0.m] 30)))
  replace qc_0 := Xo.cell qc_0
  replace qc_1 := Xo.cell qc_1
  replace qc_2 := Xo.cell qc_2
  replace qc_3 := Xo.cell qc_3
  replace qc_4 := Xo.cell qc_4
  replace qc_5 := Xo.cell qc_5
  replace pc := Nat.lt_of_lt_of_le pc Xo.size
  replace rc := Nat.lt_succ_of_lt pc
  clear E1 Xo O0 K0 o0 hb1 CO
  go_wp2_with fail
  refine (CN.out y0 _ HK0.out Ho0.out.w HO0.out (by rw [Ho0.out.s]; exact hS0) (by rw [Ho0.out.s]; exact hS1)).mono ?_
  rintro e wn ⟨b, g, y, rfl, K, o, B, Xn, hbn, hgn⟩
  have Xn2 : Ext wo wn := Ext.trans ((Ext.refl wo).alloc _) Xn
  replace qc_0 := Xn2.cell qc_0
  replace qc_1 := Xn2.cell qc_1
  replace qc_2 := Xn2.cell qc_2
  replace qc_3 := Xn2.cell qc_3
  replace qc_4 := Xn2.cell qc_4
  replace qc_5 := Xn2.cell qc_5
  replace pc := Nat.lt_of_lt_of_le pc Xn2.size
  replace rc := Nat.lt_succ_of_lt pc
  have HK := Lib.hid K
  have HB0 := Lib.hid B
  have hyV : y.V = V := o.v.trans Ho0.out.v
  have HE2 := Lib.hid (HE1.out.trans Xn2)
  clear Xn Xn2 K o B hbn hgn HK0 Ho0 HO0 HE1 CN
  go_upto_region 7 with (fail)
  refine settle_wp ?_
  intro w2 hb2
  have hx2 : Ext wn w2 := by repeat (first | with_reducible exact Ext.refl _ | with_reducible assumption | with_reducible refine Ext.alloc ?_ _ | with_reducible refine Ext.drew ?_ | with_reducible refine Ext.drewN ?_ _ | with_reducible refine Ext.setCell ?_ (by simp <;> omega) _ | with_reducible refine Ext.trans ?_ (by assumption))
  replace qc_0 := hx2.cell qc_0
  replace qc_1 := hx2.cell qc_1
  replace qc_2 := hx2.cell qc_2
  replace qc_3 := hx2.cell qc_3
  replace qc_4 := hx2.cell qc_4
  replace qc_5 := hx2.cell qc_5
  replace pc := Nat.lt_of_lt_of_le pc hx2.size
  replace rc := Nat.lt_succ_of_lt pc
  clear hx2
  have qf_0 : w2.cell? ⟨wn.heap.size, 0, none⟩ = some (.int .i64 0) := (hb2.cells.1 _ _ (by simp <;> omega)).trans (by simp [go_sem])
  have qf_1 : w2.cell? ⟨wn.heap.size, 1, none⟩ = some (.int .i64 0) := (hb2.cells.1 _ _ (by simp <;> omega)).trans (by simp [go_sem])
  have qf_2 : w2.cell? ⟨wn.heap.size, 2, none⟩ = some (.int .i64 0) := (hb2.cells.1 _ _ (by simp <;> omega)).trans (by simp [go_sem])
  have qf_3 : w2.cell? ⟨wn.heap.size, 3, none⟩ = some (.int .i64 pv) := (hb2.cells.1 _ _ (by simp <;> omega)).trans (by simp [go_sem])
  have qf_4 : w2.cell? ⟨wn.heap.size, 4, none⟩ = some (.int .i64 0) := (hb2.cells.1 _ _ (by simp <;> omega)).trans (by simp [go_sem])
  have qf_5 : w2.cell? ⟨wn.heap.size, 5, none⟩ = some (.int .i64 0) := (hb2.cells.1 _ _ (by simp <;> omega)).trans (by simp [go_sem])
  have qf_6 : w2.cell? ⟨wn.heap.size, 6, none⟩ = some (.int .u64 0) := (hb2.cells.1 _ _ (by simp <;> omega)).trans (by simp [go_sem])
  have qf_7 : w2.cell? ⟨wn.heap.size, 7, none⟩ = some (.int .u64 0) := (hb2.cells.1 _ _ (by simp <;> omega)).trans (by simp [go_sem])
  have qf_8 : w2.cell? ⟨wn.heap.size, 8, none⟩ = some (.int .u64 0) := (hb2.cells.1 _ _ (by simp <;> omega)).trans (by simp [go_sem])
  have qf_9 : w2.cell? ⟨wn.heap.size, 9, none⟩ = some (.int .u64 0) := (hb2.cells.1 _ _ (by simp <;> omega)).trans (by simp [go_sem])
  have qf_10 : w2.cell? ⟨wn.heap.size, 10, none⟩ = some (.slice none 0 0) := (hb2.cells.1 _ _ (by simp <;> omega)).trans (by simp [go_sem])
  have pf := World.block_lt_of_cell? _ ⟨wn.heap.size, 0, none⟩ qf_0
  have rf := Nat.lt_succ_of_lt pf
  have X22 : Ext wn w2 := by repeat (first | with_reducible exact Ext.refl _ | with_reducible assumption | with_reducible refine Ext.alloc ?_ _ | with_reducible refine Ext.drew ?_ | with_reducible refine Ext.drewN ?_ _ | with_reducible refine Ext.setCell ?_ (by simp <;> omega) _ | with_reducible refine Ext.trans ?_ (by assumption))
  have HB : Hid (∀ w', Ext w2 w' → BW w' 73 b g y (fsC y.V y.W y.C y.S y.n) (.slice none 0 0) [] ups) := Lib.hid (fun w' hx => HB0.out.ext (X22.trans hx))
  have HX22 := Lib.hid X22
  clear X22 hb2 HB0
  generalize fsC y.V y.W y.C y.S y.n = f at *
  generalize wn.heap.size = fb at *
  go_wp2_with fail
  refine (Leave64_nil t _).mono ?_
  rintro e w3 ⟨rfl, hb3⟩
  have hx3 : Ext w2 w3 := by repeat (first | with_reducible exact Ext.refl _ | with_reducible assumption | with_reducible refine Ext.alloc ?_ _ | with_reducible refine Ext.drew ?_ | with_reducible refine Ext.drewN ?_ _ | with_reducible refine Ext.setCell ?_ (by simp <;> omega) _ | with_reducible refine Ext.trans ?_ (by assumption))
  replace qc_0 := hx3.cell qc_0
  replace qc_1 := hx3.cell qc_1
  replace qc_2 := hx3.cell qc_2
  replace qc_3 := hx3.cell qc_3
  replace qc_4 := hx3.cell qc_4
  replace qc_5 := hx3.cell qc_5
  replace pc := Nat.lt_of_lt_of_le pc hx3.size
  replace rc := Nat.lt_succ_of_lt pc
  replace qf_0 := hx3.cell qf_0
  replace qf_1 := hx3.cell qf_1
  replace qf_2 := hx3.cell qf_2
  replace qf_3 := hx3.cell qf_3
  replace qf_4 := hx3.cell qf_4
  replace qf_5 := hx3.cell qf_5
  replace qf_6 := hx3.cell qf_6
  replace qf_7 := hx3.cell qf_7
  replace qf_8 := hx3.cell qf_8
  replace qf_9 := hx3.cell qf_9
  replace qf_10 := hx3.cell qf_10
  replace pf := Nat.lt_of_lt_of_le pf hx3.size
  replace rf := Nat.lt_succ_of_lt pf
  clear hx3
  go_wp2_with fail
  refine (Enter64_nilb t _ _).mono ?_
  rintro e w4 ⟨rfl, hb4⟩
  have hx4 : Ext w3 w4 := by repeat (first | with_reducible exact Ext.refl _ | with_reducible assumption | with_reducible refine Ext.alloc ?_ _ | with_reducible refine Ext.drew ?_ | with_reducible refine Ext.drewN ?_ _ | with_reducible refine Ext.setCell ?_ (by simp <;> omega) _ | with_reducible refine Ext.trans ?_ (by assumption))
  replace qc_0 := hx4.cell qc_0
  replace qc_1 := hx4.cell qc_1
  replace qc_2 := hx4.cell qc_2
  replace qc_3 := hx4.cell qc_3
  replace qc_4 := hx4.cell qc_4
  replace qc_5 := hx4.cell qc_5
  replace pc := Nat.lt_of_lt_of_le pc hx4.size
  replace rc := Nat.lt_succ_of_lt pc
  replace qf_0 := hx4.cell qf_0
  replace qf_1 := hx4.cell qf_1
  replace qf_2 := hx4.cell qf_2
  replace qf_3 := hx4.cell qf_3
  replace qf_4 := hx4.cell qf_4
  replace qf_5 := hx4.cell qf_5
  replace qf_6 := hx4.cell qf_6
  replace qf_7 := hx4.cell qf_7
  replace qf_8 := hx4.cell qf_8
  replace qf_9 := hx4.cell qf_9
  replace qf_10 := hx4.cell qf_10
  replace pf := Nat.lt_of_lt_of_le pf hx4.size
  replace rf := Nat.lt_succ_of_lt pf
  clear hx4
  go_wp2_with fail
  refine (Enter64_nilf b g y _ _ _ ups t _ HK.out (HB.out _ (by repeat (first | with_reducible exact Ext.refl _ | with_reducible assumption | with_reducible refine Ext.alloc ?_ _ | with_reducible refine Ext.drew ?_ | with_reducible refine Ext.drewN ?_ _ | with_reducible refine Ext.setCell ?_ (by simp <;> omega) _ | with_reducible refine Ext.trans ?_ (by assumption))))).mono ?_
  rintro e w5 ⟨rfl, hb5⟩
  have hx5 : Ext w4 w5 := by repeat (first | with_reducible exact Ext.refl _ | with_reducible assumption | with_reducible refine Ext.alloc ?_ _ | with_reducible refine Ext.drew ?_ | with_reducible refine Ext.drewN ?_ _ | with_reducible refine Ext.setCell ?_ (by simp <;> omega) _ | with_reducible refine Ext.trans ?_ (by assumption))
  replace qc_0 := hx5.cell qc_0
  replace qc_1 := hx5.cell qc_1
  replace qc_2 := hx5.cell qc_2
  replace qc_3 := hx5.cell qc_3
  replace qc_4 := hx5.cell qc_4
  replace qc_5 := hx5.cell qc_5
  replace pc := Nat.lt_of_lt_of_le pc hx5.size
  replace rc := Nat.lt_succ_of_lt pc
  replace qf_0 := hx5.cell qf_0
  replace qf_1 := hx5.cell qf_1
  replace qf_2 := hx5.cell qf_2
  replace qf_3 := hx5.cell qf_3
  replace qf_4 := hx5.cell qf_4
  replace qf_5 := hx5.cell qf_5
  replace qf_6 := hx5.cell qf_6
  replace qf_7 := hx5.cell qf_7
  replace qf_8 := hx5.cell qf_8
  replace qf_9 := hx5.cell qf_9
  replace qf_10 := hx5.cell qf_10
  replace pf := Nat.lt_of_lt_of_le pf hx5.size
  replace rf := Nat.lt_succ_of_lt pf
  clear hx5
  go_wp2_with fail
  refine (tnHas64_nil _).mono ?_
  rintro e w6 ⟨rfl, hb6⟩
  have hx6 : Ext w5 w6 := by repeat (first | with_reducible exact Ext.refl _ | with_reducible assumption | with_reducible refine Ext.alloc ?_ _ | with_reducible refine Ext.drew ?_ | with_reducible refine Ext.drewN ?_ _ | with_reducible refine Ext.setCell ?_ (by simp <;> omega) _ | with_reducible refine Ext.trans ?_ (by assumption))
  replace qc_0 := hx6.cell qc_0
  replace qc_1 := hx6.cell qc_1
  replace qc_2 := hx6.cell qc_2
  replace qc_3 := hx6.cell qc_3
  replace qc_4 := hx6.cell qc_4
  replace qc_5 := hx6.cell qc_5
  replace pc := Nat.lt_of_lt_of_le pc hx6.size
  replace rc := Nat.lt_succ_of_lt pc
  replace qf_0 := hx6.cell qf_0
  replace qf_1 := hx6.cell qf_1
  replace qf_2 := hx6.cell qf_2
  replace qf_3 := hx6.cell qf_3
  replace qf_4 := hx6.cell qf_4
  replace qf_5 := hx6.cell qf_5
  replace qf_6 := hx6.cell qf_6
  replace qf_7 := hx6.cell qf_7
  replace qf_8 := hx6.cell qf_8
  replace qf_9 := hx6.cell qf_9
  replace qf_10 := hx6.cell qf_10
  replace pf := Nat.lt_of_lt_of_le pf hx6.size
  replace rf := Nat.lt_succ_of_lt pf
  clear hx6
  go_wp2_with fail
  refine (Waiting64_nil _).mono ?_
  rintro e w7 ⟨rfl, hb7⟩
  have hx7 : Ext w6 w7 := by repeat (first | with_reducible exact Ext.refl _ | with_reducible assumption | with_reducible refine Ext.alloc ?_ _ | with_reducible refine Ext.drew ?_ | with_reducible refine Ext.drewN ?_ _ | with_reducible refine Ext.setCell ?_ (by simp <;> omega) _ | with_reducible refine Ext.trans ?_ (by assumption))
  replace qc_0 := hx7.cell qc_0
  replace qc_1 := hx7.cell qc_1
  replace qc_2 := hx7.cell qc_2
  replace qc_3 := hx7.cell qc_3
  replace qc_4 := hx7.cell qc_4
  replace qc_5 := hx7.cell qc_5
  replace pc := Nat.lt_of_lt_of_le pc hx7.size
  replace rc := Nat.lt_succ_of_lt pc
  replace qf_0 := hx7.cell qf_0
  replace qf_1 := hx7.cell qf_1
  replace qf_2 := hx7.cell qf_2
  replace qf_3 := hx7.cell qf_3
  replace qf_4 := hx7.cell qf_4
  replace qf_5 := hx7.cell qf_5
  replace qf_6 := hx7.cell qf_6
  replace qf_7 := hx7.cell qf_7
  replace qf_8 := hx7.cell qf_8
  replace qf_9 := hx7.cell qf_9
  replace qf_10 := hx7.cell qf_10
  replace pf := Nat.lt_of_lt_of_le pf hx7.size
  replace rf := Nat.lt_succ_of_lt pf
  clear hx7
  go_wp2_with fail
  refine (Len64 b g y _ _ [] _ (HB.out _ (by repeat (first | with_reducible exact Ext.refl _ | with_reducible assumption | with_reducible refine Ext.alloc ?_ _ | with_reducible refine Ext.drew ?_ | with_reducible refine Ext.drewN ?_ _ | with_reducible refine Ext.setCell ?_ (by simp <;> omega) _ | with_reducible refine Ext.trans ?_ (by assumption)))).B).mono ?_
  rintro e w' ⟨rfl, rfl⟩
  have XF : Ext w2 w7 := by repeat (first | with_reducible exact Ext.refl _ | with_reducible assumption | with_reducible refine Ext.alloc ?_ _ | with_reducible refine Ext.drew ?_ | with_reducible refine Ext.drewN ?_ _ | with_reducible refine Ext.setCell ?_ (by simp <;> omega) _ | with_reducible refine Ext.trans ?_ (by assumption))
  have HB8 := Lib.hid (fun w' (hx : Ext w7 w') => HB.out w' (XF.trans hx))
  have HX8 := Lib.hid (HE2.out.trans (HX22.out.trans XF))
  clear XF HB HE2 HX22 hb3 hb4 hb5 hb6 hb7
  by_cases hV : V = 5
  · have d5 : (V == 5) = true := by simpa using hV
    have CH := Lib.hid (fun w' h => tnHas64 b g y f (.slice none 0 0) [] ups w' HK.out h)
    rw [show (y.V == 5) = true by rw [hyV]; exact d5] at CH
    clear hV hyV
    go_wp2_with fail
    refine (CH.out _ (HB8.out _ (by repeat (first | with_reducible exact Ext.refl _ | with_reducible assumption | with_reducible refine Ext.alloc ?_ _ | with_reducible refine Ext.drew ?_ | with_reducible refine Ext.drewN ?_ _ | with_reducible refine Ext.setCell ?_ (by simp <;> omega) _ | with_reducible refine Ext.trans ?_ (by assumption))))).mono ?_
    rintro e w8 ⟨rfl, hb8⟩
    have hx8 : Ext w7 w8 := by repeat (first | with_reducible exact Ext.refl _ | with_reducible assumption | with_reducible refine Ext.alloc ?_ _ | with_reducible refine Ext.drew ?_ | with_reducible refine Ext.drewN ?_ _ | with_reducible refine Ext.setCell ?_ (by simp <;> omega) _ | with_reducible refine Ext.trans ?_ (by assumption))
    replace qc_0 := hx8.cell qc_0
    replace qc_1 := hx8.cell qc_1
    replace qc_2 := hx8.cell qc_2
    replace qc_3 := hx8.cell qc_3
    replace qc_4 := hx8.cell qc_4
    replace qc_5 := hx8.cell qc_5
    replace pc := Nat.lt_of_lt_of_le pc hx8.size
    replace rc := Nat.lt_succ_of_lt pc
    replace qf_0 := hx8.cell qf_0
    replace qf_1 := hx8.cell qf_1
    replace qf_2 := hx8.cell qf_2
    replace qf_3 := hx8.cell qf_3
    replace qf_4 := hx8.cell qf_4
    replace qf_5 := hx8.cell qf_5
    replace qf_6 := hx8.cell qf_6
    replace qf_7 := hx8.cell qf_7
    replace qf_8 := hx8.cell qf_8
    replace qf_9 := hx8.cell qf_9
    replace qf_10 := hx8.cell qf_10
    replace pf := Nat.lt_of_lt_of_le pf hx8.size
    replace rf := Nat.lt_succ_of_lt pf
    clear hx8
    go_wp2_with fail
    refine (CV.out _ (HX8.out.trans (by repeat (first | with_reducible exact Ext.refl _ | with_reducible assumption | with_reducible refine Ext.alloc ?_ _ | with_reducible refine Ext.drew ?_ | with_reducible refine Ext.drewN ?_ _ | with_reducible refine Ext.setCell ?_ (by simp <;> omega) _ | with_reducible refine Ext.trans ?_ (by assumption))))).mono ?_
    rintro e w9 ⟨rfl, hb9⟩
    have hx9 : Ext w8 w9 := by repeat (first | with_reducible exact Ext.refl _ | with_reducible assumption | with_reducible refine Ext.alloc ?_ _ | with_reducible refine Ext.drew ?_ | with_reducible refine Ext.drewN ?_ _ | with_reducible refine Ext.setCell ?_ (by simp <;> omega) _ | with_reducible refine Ext.trans ?_ (by assumption))
    replace qc_0 := hx9.cell qc_0
    replace qc_1 := hx9.cell qc_1
    replace qc_2 := hx9.cell qc_2
    replace qc_3 := hx9.cell qc_3
    replace qc_4 := hx9.cell qc_4
    replace qc_5 := hx9.cell qc_5
    replace pc := Nat.lt_of_lt_of_le pc hx9.size
    replace rc := Nat.lt_succ_of_lt pc
    replace qf_0 := hx9.cell qf_0
    replace qf_1 := hx9.cell qf_1
    replace qf_2 := hx9.cell qf_2
    replace qf_3 := hx9.cell qf_3
    replace qf_4 := hx9.cell qf_4
    replace qf_5 := hx9.cell qf_5
    replace qf_6 := hx9.cell qf_6
    replace qf_7 := hx9.cell qf_7
    replace qf_8 := hx9.cell qf_8
    replace qf_9 := hx9.cell qf_9
    replace qf_10 := hx9.cell qf_10
    replace pf := Nat.lt_of_lt_of_le pf hx9.size
    replace rf := Nat.lt_succ_of_lt pf
    clear hx9
    go_wp2
    go_ret
    refine ⟨rfl, Ext.below (HX8.out.trans ?_)⟩
    repeat (first | with_reducible exact Ext.refl _ | with_reducible assumption | with_reducible refine Ext.alloc ?_ _ | with_reducible refine Ext.drew ?_ | with_reducible refine Ext.drewN ?_ _ | with_reducible refine Ext.setCell ?_ (by simp <;> omega) _ | with_reducible refine Ext.trans ?_ (by assumption))
  · have d5 : (V == 5) = false := by simpa using hV
    have hyV5 : ¬ y.V = 5 := by rw [hyV]; exact hV
    have CH := Lib.hid (fun w' h => tnHas64 b g y f (.slice none 0 0) [] ups w' HK.out h)
    rw [show (y.V == 5) = false by simpa using hyV5] at CH
    have CE := Lib.hid (fun w' h => Enter64_no b g y f (.slice none 0 0) [] ups t (.pointer (some ⟨fb, 0, none⟩)) w' HK.out h hyV5 (.inl ⟨_, rfl⟩))
    have CLv := Lib.hid (fun w' h => Leave64_no b g y f (.slice none 0 0) [] ups t w' HK.out h hyV5)
    clear hV hyV hyV5
    go_wp2_with fail
    refine (CLv.out _ (HB8.out _ (by repeat (first | with_reducible exact Ext.refl _ | with_reducible assumption | with_reducible refine Ext.alloc ?_ _ | with_reducible refine Ext.drew ?_ | with_reducible refine Ext.drewN ?_ _ | with_reducible refine Ext.setCell ?_ (by simp <;> omega) _ | with_reducible refine Ext.trans ?_ (by assumption))))).mono ?_
    rintro e w10 ⟨rfl, hb10⟩
    have hx10 : Ext w7 w10 := by repeat (first | with_reducible exact Ext.refl _ | with_reducible assumption | with_reducible refine Ext.alloc ?_ _ | with_reducible refine Ext.drew ?_ | with_reducible refine Ext.drewN ?_ _ | with_reducible refine Ext.setCell ?_ (by simp <;> omega) _ | with_reducible refine Ext.trans ?_ (by assumption))
    replace qc_0 := hx10.cell qc_0
    replace qc_1 := hx10.cell qc_1
    replace qc_2 := hx10.cell qc_2
    replace qc_3 := hx10.cell qc_3
    replace qc_4 := hx10.cell qc_4
    replace qc_5 := hx10.cell qc_5
    replace pc := Nat.lt_of_lt_of_le pc hx10.size
    replace rc := Nat.lt_succ_of_lt pc
    replace qf_0 := hx10.cell qf_0
    replace qf_1 := hx10.cell qf_1
    replace qf_2 := hx10.cell qf_2
    replace qf_3 := hx10.cell qf_3
    replace qf_4 := hx10.cell qf_4
    replace qf_5 := hx10.cell qf_5
    replace qf_6 := hx10.cell qf_6
    replace qf_7 := hx10.cell qf_7
    replace qf_8 := hx10.cell qf_8
    replace qf_9 := hx10.cell qf_9
    replace qf_10 := hx10.cell qf_10
    replace pf := Nat.lt_of_lt_of_le pf hx10.size
    replace rf := Nat.lt_succ_of_lt pf
    clear hx10
    go_wp2_with fail
    refine (CE.out _ (HB8.out _ (by repeat (first | with_reducible exact Ext.refl _ | with_reducible assumption | with_reducible refine Ext.alloc ?_ _ | with_reducible refine Ext.drew ?_ | with_reducible refine Ext.drewN ?_ _ | with_reducible refine Ext.setCell ?_ (by simp <;> omega) _ | with_reducible refine Ext.trans ?_ (by assumption))))).mono ?_
    rintro e w11 ⟨rfl, hb11⟩
    have hx11 : Ext w10 w11 := by repeat (first | with_reducible exact Ext.refl _ | with_reducible assumption | with_reducible refine Ext.alloc ?_ _ | with_reducible refine Ext.drew ?_ | with_reducible refine Ext.drewN ?_ _ | with_reducible refine Ext.setCell ?_ (by simp <;> omega) _ | with_reducible refine Ext.trans ?_ (by assumption))
    replace qc_0 := hx11.cell qc_0
    replace qc_1 := hx11.cell qc_1
    replace qc_2 := hx11.cell qc_2
    replace qc_3 := hx11.cell qc_3
    replace qc_4 := hx11.cell qc_4
    replace qc_5 := hx11.cell qc_5
    replace pc := Nat.lt_of_lt_of_le pc hx11.size
    replace rc := Nat.lt_succ_of_lt pc
    replace qf_0 := hx11.cell qf_0
    replace qf_1 := hx11.cell qf_1
    replace qf_2 := hx11.cell qf_2
    replace qf_3 := hx11.cell qf_3
    replace qf_4 := hx11.cell qf_4
    replace qf_5 := hx11.cell qf_5
    replace qf_6 := hx11.cell qf_6
    replace qf_7 := hx11.cell qf_7
    replace qf_8 := hx11.cell qf_8
    replace qf_9 := hx11.cell qf_9
    replace qf_10 := hx11.cell qf_10
    replace pf := Nat.lt_of_lt_of_le pf hx11.size
    replace rf := Nat.lt_succ_of_lt pf
    clear hx11
    go_wp2_with fail
    refine (CH.out _ (HB8.out _ (by repeat (first | with_reducible exact Ext.refl _ | with_reducible assumption | with_reducible refine Ext.alloc ?_ _ | with_reducible refine Ext.drew ?_ | with_reducible refine Ext.drewN ?_ _ | with_reducible refine Ext.setCell ?_ (by simp <;> omega) _ | with_reducible refine Ext.trans ?_ (by assumption))))).mono ?_
    rintro e w12 ⟨rfl, hb12⟩
    have hx12 : Ext w11 w12 := by repeat (first | with_reducible exact Ext.refl _ | with_reducible assumption | with_reducible refine Ext.alloc ?_ _ | with_reducible refine Ext.drew ?_ | with_reducible refine Ext.drewN ?_ _ | with_reducible refine Ext.setCell ?_ (by simp <;> omega) _ | with_reducible refine Ext.trans ?_ (by assumption))
    replace qc_0 := hx12.cell qc_0
    replace qc_1 := hx12.cell qc_1
    replace qc_2 := hx12.cell qc_2
    replace qc_3 := hx12.cell qc_3
    replace qc_4 := hx12.cell qc_4
    replace qc_5 := hx12.cell qc_5
    replace pc := Nat.lt_of_lt_of_le pc hx12.size
    replace rc := Nat.lt_succ_of_lt pc
    replace qf_0 := hx12.cell qf_0
    replace qf_1 := hx12.cell qf_1
    replace qf_2 := hx12.cell qf_2
    replace qf_3 := hx12.cell qf_3
    replace qf_4 := hx12.cell qf_4
    replace qf_5 := hx12.cell qf_5
    replace qf_6 := hx12.cell qf_6
    replace qf_7 := hx12.cell qf_7
    replace qf_8 := hx12.cell qf_8
    replace qf_9 := hx12.cell qf_9
    replace qf_10 := hx12.cell qf_10
    replace pf := Nat.lt_of_lt_of_le pf hx12.size
    replace rf := Nat.lt_succ_of_lt pf
    clear hx12
    go_wp2_with fail
    refine (Len64 b g y _ _ [] _ (HB8.out _ (by repeat (first | with_reducible exact Ext.refl _ | with_reducible assumption | with_reducible refine Ext.alloc ?_ _ | with_reducible refine Ext.drew ?_ | with_reducible refine Ext.drewN ?_ _ | with_reducible refine Ext.setCell ?_ (by simp <;> omega) _ | with_reducible refine Ext.trans ?_ (by assumption)))).B).mono ?_
    rintro e w' ⟨rfl, rfl⟩
    go_wp2_with fail
    refine (CV.out _ (HX8.out.trans (by repeat (first | with_reducible exact Ext.refl _ | with_reducible assumption | with_reducible refine Ext.alloc ?_ _ | with_reducible refine Ext.drew ?_ | with_reducible refine Ext.drewN ?_ _ | with_reducible refine Ext.setCell ?_ (by simp <;> omega) _ | with_reducible refine Ext.trans ?_ (by assumption))))).mono ?_
    rintro e w13 ⟨rfl, hb13⟩
    have hx13 : Ext w12 w13 := by repeat (first | with_reducible exact Ext.refl _ | with_reducible assumption | with_reducible refine Ext.alloc ?_ _ | with_reducible refine Ext.drew ?_ | with_reducible refine Ext.drewN ?_ _ | with_reducible refine Ext.setCell ?_ (by simp <;> omega) _ | with_reducible refine Ext.trans ?_ (by assumption))
    replace qc_0 := hx13.cell qc_0
    replace qc_1 := hx13.cell qc_1
    replace qc_2 := hx13.cell qc_2
    replace qc_3 := hx13.cell qc_3
    replace qc_4 := hx13.cell qc_4
    replace qc_5 := hx13.cell qc_5
    replace pc := Nat.lt_of_lt_of_le pc hx13.size
    replace rc := Nat.lt_succ_of_lt pc
    replace qf_0 := hx13.cell qf_0
    replace qf_1 := hx13.cell qf_1
    replace qf_2 := hx13.cell qf_2
    replace qf_3 := hx13.cell qf_3
    replace qf_4 := hx13.cell qf_4
    replace qf_5 := hx13.cell qf_5
    replace qf_6 := hx13.cell qf_6
    replace qf_7 := hx13.cell qf_7
    replace qf_8 := hx13.cell qf_8
    replace qf_9 := hx13.cell qf_9
    replace qf_10 := hx13.cell qf_10
    replace pf := Nat.lt_of_lt_of_le pf hx13.size
    replace rf := Nat.lt_succ_of_lt pf
    clear hx13
    go_wp2
    go_ret
    refine ⟨rfl, Ext.below (HX8.out.trans ?_)⟩
    repeat (first | with_reducible exact Ext.refl _ | with_reducible assumption | with_reducible refine Ext.alloc ?_ _ | with_reducible refine Ext.drew ?_ | with_reducible refine Ext.drewN ?_ _ | with_reducible refine Ext.setCell ?_ (by simp <;> omega) _ | with_reducible refine Ext.trans ?_ (by assumption))
end Go.Proofs.YtnghecgmbkggmaaDoor

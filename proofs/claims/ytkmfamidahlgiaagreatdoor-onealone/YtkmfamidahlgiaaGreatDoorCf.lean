/- conf.Check, and the document's. -/
import Derived.Test.YtkmfamidahlgiaaGreatDoorGrc
import Derived.Test.YtkmfamidahlgiaaGreatDoorGr9
import Derived.Test.YtkmfamidahlgiaaGreatDoorLap
import Derived.Test.YtkmfamidahlgiaaGreatDoorRef02
namespace Go.Proofs.YtkmfamidahlgiaaGreatDoor
open Go.RowKit
set_option linter.unusedVariables false
set_option maxHeartbeats 1000000
attribute [local go_sem] later_cell later_frozen later_const
/-- what is wrong first with a configuration -/
def mostOf (V : Int) : Int := if V = 1 then 1 else 4
def ckC (V W C P : Int) (ups : List (List Int)) : Int :=
  if V < 1 ∨ 5 < V then 2 else if ¬ (W = 32 ∨ W = 64) then 3 else if rightB C = false then 4 else if P < 1 ∨ mostOf V < P then 5 else if chk ups ≠ 0 then chk ups
  else if W = 32 ∧ 2147483648 ≤ (P + 2) * C then 9 else if 64 < C then 10 else 0
theorem cMost (V : Int) (w : World) : Calls Tryz.prog 103 #[.int .i64 V] w fun e w' => e = .returned (.int .i64 (mostOf V)) ∧ w = w' := by
  by_cases h : V = 1
  · have d : (V == 1) = true := by simpa using h
    rw [show mostOf V = 1 by simp [mostOf, h]]
    clear h
    go_enter Tryz.func103, Tryz.ntmps103
    go_wp2
    go_ret
    exact ⟨rfl, rfl⟩
  · have d : (V == 1) = false := by simpa using h
    rw [show mostOf V = 4 by simp [mostOf, h]]
    clear h
    go_enter Tryz.func103, Tryz.ntmps103
    go_wp2
    go_ret
    exact ⟨rfl, rfl⟩
theorem most_le (V : Int) : 1 ≤ mostOf V ∧ mostOf V ≤ 4 := by unfold mostOf; split <;> omega
theorem bound_le {P C : Int} (h1 : 1 ≤ P) (h2 : P ≤ 4) (h3 : 2 ≤ C) (h4 : C ≤ 1073741824) : 6 ≤ (P + 2) * C ∧ (P + 2) * C ≤ 6442450944 := by
  have : P = 1 ∨ P = 2 ∨ P = 3 ∨ P = 4 := by omega
  rcases this with rfl | rfl | rfl | rfl <;> omega
theorem cCheck (V W C P S : Int) (u : Value) (ups : List (List Int)) (w : World) (hL : ListsV w u ups) (hll : ∀ l ∈ ups, l.length ≤ 1000000) (hn : ups.length ≤ 1000000) :
    Calls Tryz.prog 51 #[(.agg #[.int .i64 V, .int .i64 W, .int .i64 C, .int .i64 P, .int .u64 (S), u])] w fun e w' => e = .returned (.int .i64 (ckC V W C P ups)) ∧ Ext w w' := by
  obtain ⟨a, cap, e, -⟩ := id hL
  subst e
  have HL := Lib.hid hL
  have CG := Lib.hid (fun w' (hx : Ext w w') => gCheck _ ups w' (hL.ext hx) hll hn)
  clear hL hll HL
  generalize ups.length = n at *
  by_cases hV1 : V < 1
  · rw [show ckC V W C P ups = 2 by simp [ckC, hV1]]
    have d : decide (V < 1) = true := by simpa using hV1
    clear hV1
    go_enter Tryz.func51, Tryz.ntmps51
    go_wp2
    go_ret
    refine ⟨rfl, ?_⟩
    repeat (first | with_reducible exact Ext.refl _ | with_reducible assumption | with_reducible refine Ext.alloc ?_ _ | with_reducible refine Ext.drew ?_ | with_reducible refine Ext.drewN ?_ _ | with_reducible refine Ext.setCell ?_ (by simp <;> omega) _ | with_reducible refine Ext.trans ?_ (by assumption))
  have d1 : decide (V < 1) = false := by simpa using hV1
  by_cases hV5 : 5 < V
  · rw [show ckC V W C P ups = 2 by simp [ckC, hV5]]
    clear hV1
    go_enter Tryz.func51, Tryz.ntmps51
    go_wp2
    go_ret
    refine ⟨rfl, ?_⟩
    repeat (first | with_reducible exact Ext.refl _ | with_reducible assumption | with_reducible refine Ext.alloc ?_ _ | with_reducible refine Ext.drew ?_ | with_reducible refine Ext.drewN ?_ _ | with_reducible refine Ext.setCell ?_ (by simp <;> omega) _ | with_reducible refine Ext.trans ?_ (by assumption))
  have hVV : ¬ (V < 1 ∨ 5 < V) := by omega
  by_cases hW : ¬ (W = 32 ∨ W = 64)
  · rw [show ckC V W C P ups = 3 by rw [ckC, if_neg hVV, if_pos hW]]
    have k1 : (W == 32) = false := by simp; omega
    have k2 : (W == 64) = false := by simp; omega
    clear hV1 hVV hW
    go_enter Tryz.func51, Tryz.ntmps51
    go_wp2_with fail
    refine (wRight_no _ _ k1 k2).mono ?_
    rintro e w' ⟨rfl, rfl⟩
    go_wp2
    go_ret
    refine ⟨rfl, ?_⟩
    repeat (first | with_reducible exact Ext.refl _ | with_reducible assumption | with_reducible refine Ext.alloc ?_ _ | with_reducible refine Ext.drew ?_ | with_reducible refine Ext.drewN ?_ _ | with_reducible refine Ext.setCell ?_ (by simp <;> omega) _ | with_reducible refine Ext.trans ?_ (by assumption))
  have hW2 : W = 32 ∨ W = 64 := by omega
  by_cases hC : rightB C = false
  · rw [show ckC V W C P ups = 4 by rw [ckC, if_neg hVV, if_neg hW, if_pos hC]]
    have CR := fun w => lRight C w
    rw [hC] at CR
    have HCR := Lib.hid CR
    clear hV1 hVV hW CR hC
    go_enter Tryz.func51, Tryz.ntmps51
    go_wp2_with fail
    refine (wRight_yes _ _ hW2).mono ?_
    rintro e w' ⟨rfl, rfl⟩
    go_wp2_with fail
    refine (HCR.out _).mono ?_
    rintro e w' ⟨rfl, rfl⟩
    go_wp2
    go_ret
    refine ⟨rfl, ?_⟩
    repeat (first | with_reducible exact Ext.refl _ | with_reducible assumption | with_reducible refine Ext.alloc ?_ _ | with_reducible refine Ext.drew ?_ | with_reducible refine Ext.drewN ?_ _ | with_reducible refine Ext.setCell ?_ (by simp <;> omega) _ | with_reducible refine Ext.trans ?_ (by assumption))
  have hCt : rightB C = true := by cases h : rightB C <;> simp_all
  have hCr := right_range hCt
  have CR := fun w => lRight C w
  rw [hCt] at CR
  have HCR := Lib.hid CR
  clear CR
  by_cases hP1 : P < 1
  · rw [show ckC V W C P ups = 5 by rw [ckC, if_neg hVV, if_neg hW, if_neg hC, if_pos (.inl hP1)]]
    have k1 : decide (P < 1) = true := by simpa using hP1
    clear hV1 hVV hW hC hP1 hCt hCr
    go_enter Tryz.func51, Tryz.ntmps51
    go_wp2_with fail
    refine (wRight_yes _ _ hW2).mono ?_
    rintro e w' ⟨rfl, rfl⟩
    go_wp2_with fail
    refine (HCR.out _).mono ?_
    rintro e w' ⟨rfl, rfl⟩
    go_upto_region 7 with (fail)
    refine settle_wp ?_
    intro w1 hb1
    have qc_0 : w1.cell? ⟨w.heap.size, 0, none⟩ = some (.int .i64 V) := (hb1.cells.1 _ _ (by simp <;> omega)).trans (by simp [go_sem])
    have qc_1 : w1.cell? ⟨w.heap.size, 1, none⟩ = some (.int .i64 W) := (hb1.cells.1 _ _ (by simp <;> omega)).trans (by simp [go_sem])
    have qc_2 : w1.cell? ⟨w.heap.size, 2, none⟩ = some (.int .i64 C) := (hb1.cells.1 _ _ (by simp <;> omega)).trans (by simp [go_sem])
    have qc_3 : w1.cell? ⟨w.heap.size, 3, none⟩ = some (.int .i64 P) := (hb1.cells.1 _ _ (by simp <;> omega)).trans (by simp [go_sem])
    have qc_4 : w1.cell? ⟨w.heap.size, 4, none⟩ = some (.int .u64 (S)) := (hb1.cells.1 _ _ (by simp <;> omega)).trans (by simp [go_sem])
    have qc_5 : w1.cell? ⟨w.heap.size, 5, none⟩ = some (.slice a n cap) := (hb1.cells.1 _ _ (by simp <;> omega)).trans (by simp [go_sem])
    have pc := World.block_lt_of_cell? _ ⟨w.heap.size, 0, none⟩ qc_0
    have rc := Nat.lt_succ_of_lt pc
    refine wp_region_later (by kernel_rfl) (by kernel_rfl) ?_
    have lc_0 := fun (g : Later w1) => g.ok.cell qc_0
    have lc_1 := fun (g : Later w1) => g.ok.cell qc_1
    have lc_2 := fun (g : Later w1) => g.ok.cell qc_2
    have lc_3 := fun (g : Later w1) => g.ok.cell qc_3
    have lc_4 := fun (g : Later w1) => g.ok.cell qc_4
    have lc_5 := fun (g : Later w1) => g.ok.cell qc_5
    repeat (go_big_quiet_step ((fail)))
    refine wpQuiet_nil ?_
    intro w2 hl2
    have hb2 := laters_ext hl2
    clear hl2 lc_0 lc_1 lc_2 lc_3 lc_4 lc_5
    have hx2 : Ext w1 w2 := by repeat (first | with_reducible exact Ext.refl _ | with_reducible assumption | with_reducible refine Ext.alloc ?_ _ | with_reducible refine Ext.drew ?_ | with_reducible refine Ext.drewN ?_ _ | with_reducible refine Ext.setCell ?_ (by simp <;> omega) _ | with_reducible refine Ext.trans ?_ (by assumption))
    replace qc_0 := hx2.cell qc_0
    replace qc_1 := hx2.cell qc_1
    replace qc_2 := hx2.cell qc_2
    replace qc_3 := hx2.cell qc_3
    replace qc_4 := hx2.cell qc_4
    replace qc_5 := hx2.cell qc_5
    replace pc := Nat.lt_of_lt_of_le pc hx2.size
    replace rc := Nat.lt_succ_of_lt pc
    clear hx2
    go_wp2
    go_ret
    refine ⟨rfl, ?_⟩
    repeat (first | with_reducible exact Ext.refl _ | with_reducible assumption | with_reducible refine Ext.alloc ?_ _ | with_reducible refine Ext.drew ?_ | with_reducible refine Ext.drewN ?_ _ | with_reducible refine Ext.setCell ?_ (by simp <;> omega) _ | with_reducible refine Ext.trans ?_ (by assumption))
  have k1 : decide (P < 1) = false := by simpa using hP1
  by_cases hPm : mostOf V < P
  · rw [show ckC V W C P ups = 5 by rw [ckC, if_neg hVV, if_neg hW, if_neg hC, if_pos (.inr hPm)]]
    have k2 : decide (mostOf V < P) = true := by simpa using hPm
    have HM := Lib.hid (fun w => cMost V w)
    generalize mostOf V = M at *
    clear hV1 hVV hW hC hP1 hCt hCr hPm
    go_enter Tryz.func51, Tryz.ntmps51
    go_wp2_with fail
    refine (wRight_yes _ _ hW2).mono ?_
    rintro e w' ⟨rfl, rfl⟩
    go_wp2_with fail
    refine (HCR.out _).mono ?_
    rintro e w' ⟨rfl, rfl⟩
    go_upto_region 7 with (fail)
    refine settle_wp ?_
    intro w3 hb3
    have qc_0 : w3.cell? ⟨w.heap.size, 0, none⟩ = some (.int .i64 V) := (hb3.cells.1 _ _ (by simp <;> omega)).trans (by simp [go_sem])
    have qc_1 : w3.cell? ⟨w.heap.size, 1, none⟩ = some (.int .i64 W) := (hb3.cells.1 _ _ (by simp <;> omega)).trans (by simp [go_sem])
    have qc_2 : w3.cell? ⟨w.heap.size, 2, none⟩ = some (.int .i64 C) := (hb3.cells.1 _ _ (by simp <;> omega)).trans (by simp [go_sem])
    have qc_3 : w3.cell? ⟨w.heap.size, 3, none⟩ = some (.int .i64 P) := (hb3.cells.1 _ _ (by simp <;> omega)).trans (by simp [go_sem])
    have qc_4 : w3.cell? ⟨w.heap.size, 4, none⟩ = some (.int .u64 (S)) := (hb3.cells.1 _ _ (by simp <;> omega)).trans (by simp [go_sem])
    have qc_5 : w3.cell? ⟨w.heap.size, 5, none⟩ = some (.slice a n cap) := (hb3.cells.1 _ _ (by simp <;> omega)).trans (by simp [go_sem])
    have pc := World.block_lt_of_cell? _ ⟨w.heap.size, 0, none⟩ qc_0
    have rc := Nat.lt_succ_of_lt pc
    refine wp_region_later (by kernel_rfl) (by kernel_rfl) ?_
    have lc_0 := fun (g : Later w3) => g.ok.cell qc_0
    have lc_1 := fun (g : Later w3) => g.ok.cell qc_1
    have lc_2 := fun (g : Later w3) => g.ok.cell qc_2
    have lc_3 := fun (g : Later w3) => g.ok.cell qc_3
    have lc_4 := fun (g : Later w3) => g.ok.cell qc_4
    have lc_5 := fun (g : Later w3) => g.ok.cell qc_5
    repeat (go_big_quiet_step ((fail)))
    go_big_quiet_step ((go_at_call 103; exact laterS (HM.out _)))
    repeat (go_big_quiet_step ((fail)))
    refine wpQuiet_nil ?_
    intro w4 hl4
    have hb4 := laters_ext hl4
    clear hl4 lc_0 lc_1 lc_2 lc_3 lc_4 lc_5
    have hx4 : Ext w3 w4 := by repeat (first | with_reducible exact Ext.refl _ | with_reducible assumption | with_reducible refine Ext.alloc ?_ _ | with_reducible refine Ext.drew ?_ | with_reducible refine Ext.drewN ?_ _ | with_reducible refine Ext.setCell ?_ (by simp <;> omega) _ | with_reducible refine Ext.trans ?_ (by assumption))
    replace qc_0 := hx4.cell qc_0
    replace qc_1 := hx4.cell qc_1
    replace qc_2 := hx4.cell qc_2
    replace qc_3 := hx4.cell qc_3
    replace qc_4 := hx4.cell qc_4
    replace qc_5 := hx4.cell qc_5
    replace pc := Nat.lt_of_lt_of_le pc hx4.size
    replace rc := Nat.lt_succ_of_lt pc
    clear hx4
    go_wp2
    go_ret
    refine ⟨rfl, ?_⟩
    repeat (first | with_reducible exact Ext.refl _ | with_reducible assumption | with_reducible refine Ext.alloc ?_ _ | with_reducible refine Ext.drew ?_ | with_reducible refine Ext.drewN ?_ _ | with_reducible refine Ext.setCell ?_ (by simp <;> omega) _ | with_reducible refine Ext.trans ?_ (by assumption))
  have k2 : decide (mostOf V < P) = false := by simpa using hPm
  have hP4 : P ≤ 4 := by have := most_le V; omega
  have HM := Lib.hid (fun w => cMost V w)
  have hPP : ¬ (P < 1 ∨ mostOf V < P) := by omega
  have eC : ckC V W C P ups = if chk ups ≠ 0 then chk ups else if W = 32 ∧ 2147483648 ≤ (P + 2) * C then 9 else if 64 < C then 10 else 0 := by rw [ckC, if_neg hVV, if_neg hW, if_neg hC, if_neg hPP]
  rw [eC]
  have hB := bound_le (by omega) hP4 hCr.1 hCr.2
  have hP1' : 1 ≤ P := by omega
  clear eC hPP hVV hW hC hPm hP1 hV1 hCt
  generalize mostOf V = M at *
  generalize chk ups = g at *
  by_cases hg : g = 0
  · have kg : (g == 0) = true := by simpa using hg
    rw [if_neg (by simpa using hg)]
    rcases hW2 with rfl | rfl
    · obtain ⟨T, hT⟩ : ∃ T, T = (P + 2) * C := ⟨_, rfl⟩
      rw [← hT] at hB ⊢
      have hmul : wrap64 ((P + 2) * C) = T := by rw [← hT]; unfold wrap64; omega
      have hadd : wrap64 (P + 2) = P + 2 := by unfold wrap64; omega
      clear hT
      by_cases h9 : 2147483648 ≤ T
      · rw [if_pos ⟨rfl, h9⟩]
        have k3 : (T / 2147483648 == 0) = false := by simp; omega
        clear h9 hB hCr hP4 hP1' hg
        go_enter Tryz.func51, Tryz.ntmps51
        go_wp2_with fail
        refine (wRight_yes 32 _ (.inl rfl)).mono ?_
        rintro e w' ⟨rfl, rfl⟩
        go_wp2_with fail
        refine (HCR.out _).mono ?_
        rintro e w' ⟨rfl, rfl⟩
        go_upto_region 7 with (fail)
        refine settle_wp ?_
        intro w5 hb5
        have qc_0 : w5.cell? ⟨w.heap.size, 0, none⟩ = some (.int .i64 V) := (hb5.cells.1 _ _ (by simp <;> omega)).trans (by simp [go_sem])
        have qc_1 : w5.cell? ⟨w.heap.size, 1, none⟩ = some (.int .i64 32) := (hb5.cells.1 _ _ (by simp <;> omega)).trans (by simp [go_sem])
        have qc_2 : w5.cell? ⟨w.heap.size, 2, none⟩ = some (.int .i64 C) := (hb5.cells.1 _ _ (by simp <;> omega)).trans (by simp [go_sem])
        have qc_3 : w5.cell? ⟨w.heap.size, 3, none⟩ = some (.int .i64 P) := (hb5.cells.1 _ _ (by simp <;> omega)).trans (by simp [go_sem])
        have qc_4 : w5.cell? ⟨w.heap.size, 4, none⟩ = some (.int .u64 (S)) := (hb5.cells.1 _ _ (by simp <;> omega)).trans (by simp [go_sem])
        have qc_5 : w5.cell? ⟨w.heap.size, 5, none⟩ = some (.slice a n cap) := (hb5.cells.1 _ _ (by simp <;> omega)).trans (by simp [go_sem])
        have pc := World.block_lt_of_cell? _ ⟨w.heap.size, 0, none⟩ qc_0
        have rc := Nat.lt_succ_of_lt pc
        refine wp_region_later (by kernel_rfl) (by kernel_rfl) ?_
        have lc_0 := fun (g : Later w5) => g.ok.cell qc_0
        have lc_1 := fun (g : Later w5) => g.ok.cell qc_1
        have lc_2 := fun (g : Later w5) => g.ok.cell qc_2
        have lc_3 := fun (g : Later w5) => g.ok.cell qc_3
        have lc_4 := fun (g : Later w5) => g.ok.cell qc_4
        have lc_5 := fun (g : Later w5) => g.ok.cell qc_5
        repeat (go_big_quiet_step ((fail)))
        go_big_quiet_step ((go_at_call 103; exact laterS (HM.out _)))
        repeat (go_big_quiet_step ((fail)))
        refine wpQuiet_nil ?_
        intro w6 hl6
        have hb6 := laters_ext hl6
        clear hl6 lc_0 lc_1 lc_2 lc_3 lc_4 lc_5
        have hx6 : Ext w5 w6 := by repeat (first | with_reducible exact Ext.refl _ | with_reducible assumption | with_reducible refine Ext.alloc ?_ _ | with_reducible refine Ext.drew ?_ | with_reducible refine Ext.drewN ?_ _ | with_reducible refine Ext.setCell ?_ (by simp <;> omega) _ | with_reducible refine Ext.trans ?_ (by assumption))
        replace qc_0 := hx6.cell qc_0
        replace qc_1 := hx6.cell qc_1
        replace qc_2 := hx6.cell qc_2
        replace qc_3 := hx6.cell qc_3
        replace qc_4 := hx6.cell qc_4
        replace qc_5 := hx6.cell qc_5
        replace pc := Nat.lt_of_lt_of_le pc hx6.size
        replace rc := Nat.lt_succ_of_lt pc
        clear hx6
        have hxx : Ext w w6 := by repeat (first | with_reducible exact Ext.refl _ | with_reducible assumption | with_reducible refine Ext.alloc ?_ _ | with_reducible refine Ext.drew ?_ | with_reducible refine Ext.drewN ?_ _ | with_reducible refine Ext.setCell ?_ (by simp <;> omega) _ | with_reducible refine Ext.trans ?_ (by assumption))
        go_wp2_with fail
        refine (CG.out _ hxx).mono ?_
        rintro e w7 ⟨rfl, hb7⟩
        have hx7 : Ext w6 w7 := by repeat (first | with_reducible exact Ext.refl _ | with_reducible assumption | with_reducible refine Ext.alloc ?_ _ | with_reducible refine Ext.drew ?_ | with_reducible refine Ext.drewN ?_ _ | with_reducible refine Ext.setCell ?_ (by simp <;> omega) _ | with_reducible refine Ext.trans ?_ (by assumption))
        replace qc_0 := hx7.cell qc_0
        replace qc_1 := hx7.cell qc_1
        replace qc_2 := hx7.cell qc_2
        replace qc_3 := hx7.cell qc_3
        replace qc_4 := hx7.cell qc_4
        replace qc_5 := hx7.cell qc_5
        replace pc := Nat.lt_of_lt_of_le pc hx7.size
        replace rc := Nat.lt_succ_of_lt pc
        clear hx7
        go_wp2
        go_ret
        refine ⟨rfl, ?_⟩
        repeat (first | with_reducible exact Ext.refl _ | with_reducible assumption | with_reducible refine Ext.alloc ?_ _ | with_reducible refine Ext.drew ?_ | with_reducible refine Ext.drewN ?_ _ | with_reducible refine Ext.setCell ?_ (by simp <;> omega) _ | with_reducible refine Ext.trans ?_ (by assumption))
      · rw [if_neg (by omega)]
        have k3 : (T / 2147483648 == 0) = true := by simp; omega
        by_cases h64 : 64 < C
        · rw [if_pos h64]
          clear h9 hB hCr hP4 hP1' hg
          go_enter Tryz.func51, Tryz.ntmps51
          go_wp2_with fail
          refine (wRight_yes 32 _ (.inl rfl)).mono ?_
          rintro e w' ⟨rfl, rfl⟩
          go_wp2_with fail
          refine (HCR.out _).mono ?_
          rintro e w' ⟨rfl, rfl⟩
          go_upto_region 7 with (fail)
          refine settle_wp ?_
          intro w8 hb8
          have qc_0 : w8.cell? ⟨w.heap.size, 0, none⟩ = some (.int .i64 V) := (hb8.cells.1 _ _ (by simp <;> omega)).trans (by simp [go_sem])
          have qc_1 : w8.cell? ⟨w.heap.size, 1, none⟩ = some (.int .i64 32) := (hb8.cells.1 _ _ (by simp <;> omega)).trans (by simp [go_sem])
          have qc_2 : w8.cell? ⟨w.heap.size, 2, none⟩ = some (.int .i64 C) := (hb8.cells.1 _ _ (by simp <;> omega)).trans (by simp [go_sem])
          have qc_3 : w8.cell? ⟨w.heap.size, 3, none⟩ = some (.int .i64 P) := (hb8.cells.1 _ _ (by simp <;> omega)).trans (by simp [go_sem])
          have qc_4 : w8.cell? ⟨w.heap.size, 4, none⟩ = some (.int .u64 (S)) := (hb8.cells.1 _ _ (by simp <;> omega)).trans (by simp [go_sem])
          have qc_5 : w8.cell? ⟨w.heap.size, 5, none⟩ = some (.slice a n cap) := (hb8.cells.1 _ _ (by simp <;> omega)).trans (by simp [go_sem])
          have pc := World.block_lt_of_cell? _ ⟨w.heap.size, 0, none⟩ qc_0
          have rc := Nat.lt_succ_of_lt pc
          refine wp_region_later (by kernel_rfl) (by kernel_rfl) ?_
          have lc_0 := fun (g : Later w8) => g.ok.cell qc_0
          have lc_1 := fun (g : Later w8) => g.ok.cell qc_1
          have lc_2 := fun (g : Later w8) => g.ok.cell qc_2
          have lc_3 := fun (g : Later w8) => g.ok.cell qc_3
          have lc_4 := fun (g : Later w8) => g.ok.cell qc_4
          have lc_5 := fun (g : Later w8) => g.ok.cell qc_5
          repeat (go_big_quiet_step ((fail)))
          go_big_quiet_step ((go_at_call 103; exact laterS (HM.out _)))
          repeat (go_big_quiet_step ((fail)))
          refine wpQuiet_nil ?_
          intro w9 hl9
          have hb9 := laters_ext hl9
          clear hl9 lc_0 lc_1 lc_2 lc_3 lc_4 lc_5
          have hx9 : Ext w8 w9 := by repeat (first | with_reducible exact Ext.refl _ | with_reducible assumption | with_reducible refine Ext.alloc ?_ _ | with_reducible refine Ext.drew ?_ | with_reducible refine Ext.drewN ?_ _ | with_reducible refine Ext.setCell ?_ (by simp <;> omega) _ | with_reducible refine Ext.trans ?_ (by assumption))
          replace qc_0 := hx9.cell qc_0
          replace qc_1 := hx9.cell qc_1
          replace qc_2 := hx9.cell qc_2
          replace qc_3 := hx9.cell qc_3
          replace qc_4 := hx9.cell qc_4
          replace qc_5 := hx9.cell qc_5
          replace pc := Nat.lt_of_lt_of_le pc hx9.size
          replace rc := Nat.lt_succ_of_lt pc
          clear hx9
          have hxx : Ext w w9 := by repeat (first | with_reducible exact Ext.refl _ | with_reducible assumption | with_reducible refine Ext.alloc ?_ _ | with_reducible refine Ext.drew ?_ | with_reducible refine Ext.drewN ?_ _ | with_reducible refine Ext.setCell ?_ (by simp <;> omega) _ | with_reducible refine Ext.trans ?_ (by assumption))
          go_wp2_with fail
          refine (CG.out _ hxx).mono ?_
          rintro e w10 ⟨rfl, hb10⟩
          have hx10 : Ext w9 w10 := by repeat (first | with_reducible exact Ext.refl _ | with_reducible assumption | with_reducible refine Ext.alloc ?_ _ | with_reducible refine Ext.drew ?_ | with_reducible refine Ext.drewN ?_ _ | with_reducible refine Ext.setCell ?_ (by simp <;> omega) _ | with_reducible refine Ext.trans ?_ (by assumption))
          replace qc_0 := hx10.cell qc_0
          replace qc_1 := hx10.cell qc_1
          replace qc_2 := hx10.cell qc_2
          replace qc_3 := hx10.cell qc_3
          replace qc_4 := hx10.cell qc_4
          replace qc_5 := hx10.cell qc_5
          replace pc := Nat.lt_of_lt_of_le pc hx10.size
          replace rc := Nat.lt_succ_of_lt pc
          clear hx10
          go_wp2
          go_ret
          refine ⟨rfl, ?_⟩
          repeat (first | with_reducible exact Ext.refl _ | with_reducible assumption | with_reducible refine Ext.alloc ?_ _ | with_reducible refine Ext.drew ?_ | with_reducible refine Ext.drewN ?_ _ | with_reducible refine Ext.setCell ?_ (by simp <;> omega) _ | with_reducible refine Ext.trans ?_ (by assumption))
        · rw [if_neg h64]
          have k4 : decide (64 < C) = false := by simpa using h64
          clear h9 hB hCr hP4 hP1' hg
          go_enter Tryz.func51, Tryz.ntmps51
          go_wp2_with fail
          refine (wRight_yes 32 _ (.inl rfl)).mono ?_
          rintro e w' ⟨rfl, rfl⟩
          go_wp2_with fail
          refine (HCR.out _).mono ?_
          rintro e w' ⟨rfl, rfl⟩
          go_upto_region 7 with (fail)
          refine settle_wp ?_
          intro w11 hb11
          have qc_0 : w11.cell? ⟨w.heap.size, 0, none⟩ = some (.int .i64 V) := (hb11.cells.1 _ _ (by simp <;> omega)).trans (by simp [go_sem])
          have qc_1 : w11.cell? ⟨w.heap.size, 1, none⟩ = some (.int .i64 32) := (hb11.cells.1 _ _ (by simp <;> omega)).trans (by simp [go_sem])
          have qc_2 : w11.cell? ⟨w.heap.size, 2, none⟩ = some (.int .i64 C) := (hb11.cells.1 _ _ (by simp <;> omega)).trans (by simp [go_sem])
          have qc_3 : w11.cell? ⟨w.heap.size, 3, none⟩ = some (.int .i64 P) := (hb11.cells.1 _ _ (by simp <;> omega)).trans (by simp [go_sem])
          have qc_4 : w11.cell? ⟨w.heap.size, 4, none⟩ = some (.int .u64 (S)) := (hb11.cells.1 _ _ (by simp <;> omega)).trans (by simp [go_sem])
          have qc_5 : w11.cell? ⟨w.heap.size, 5, none⟩ = some (.slice a n cap) := (hb11.cells.1 _ _ (by simp <;> omega)).trans (by simp [go_sem])
          have pc := World.block_lt_of_cell? _ ⟨w.heap.size, 0, none⟩ qc_0
          have rc := Nat.lt_succ_of_lt pc
          refine wp_region_later (by kernel_rfl) (by kernel_rfl) ?_
          have lc_0 := fun (g : Later w11) => g.ok.cell qc_0
          have lc_1 := fun (g : Later w11) => g.ok.cell qc_1
          have lc_2 := fun (g : Later w11) => g.ok.cell qc_2
          have lc_3 := fun (g : Later w11) => g.ok.cell qc_3
          have lc_4 := fun (g : Later w11) => g.ok.cell qc_4
          have lc_5 := fun (g : Later w11) => g.ok.cell qc_5
          repeat (go_big_quiet_step ((fail)))
          go_big_quiet_step ((go_at_call 103; exact laterS (HM.out _)))
          repeat (go_big_quiet_step ((fail)))
          refine wpQuiet_nil ?_
          intro w12 hl12
          have hb12 := laters_ext hl12
          clear hl12 lc_0 lc_1 lc_2 lc_3 lc_4 lc_5
          have hx12 : Ext w11 w12 := by repeat (first | with_reducible exact Ext.refl _ | with_reducible assumption | with_reducible refine Ext.alloc ?_ _ | with_reducible refine Ext.drew ?_ | with_reducible refine Ext.drewN ?_ _ | with_reducible refine Ext.setCell ?_ (by simp <;> omega) _ | with_reducible refine Ext.trans ?_ (by assumption))
          replace qc_0 := hx12.cell qc_0
          replace qc_1 := hx12.cell qc_1
          replace qc_2 := hx12.cell qc_2
          replace qc_3 := hx12.cell qc_3
          replace qc_4 := hx12.cell qc_4
          replace qc_5 := hx12.cell qc_5
          replace pc := Nat.lt_of_lt_of_le pc hx12.size
          replace rc := Nat.lt_succ_of_lt pc
          clear hx12
          have hxx : Ext w w12 := by repeat (first | with_reducible exact Ext.refl _ | with_reducible assumption | with_reducible refine Ext.alloc ?_ _ | with_reducible refine Ext.drew ?_ | with_reducible refine Ext.drewN ?_ _ | with_reducible refine Ext.setCell ?_ (by simp <;> omega) _ | with_reducible refine Ext.trans ?_ (by assumption))
          go_wp2_with fail
          refine (CG.out _ hxx).mono ?_
          rintro e w13 ⟨rfl, hb13⟩
          have hx13 : Ext w12 w13 := by repeat (first | with_reducible exact Ext.refl _ | with_reducible assumption | with_reducible refine Ext.alloc ?_ _ | with_reducible refine Ext.drew ?_ | with_reducible refine Ext.drewN ?_ _ | with_reducible refine Ext.setCell ?_ (by simp <;> omega) _ | with_reducible refine Ext.trans ?_ (by assumption))
          replace qc_0 := hx13.cell qc_0
          replace qc_1 := hx13.cell qc_1
          replace qc_2 := hx13.cell qc_2
          replace qc_3 := hx13.cell qc_3
          replace qc_4 := hx13.cell qc_4
          replace qc_5 := hx13.cell qc_5
          replace pc := Nat.lt_of_lt_of_le pc hx13.size
          replace rc := Nat.lt_succ_of_lt pc
          clear hx13
          go_wp2
          go_ret
          refine ⟨rfl, ?_⟩
          repeat (first | with_reducible exact Ext.refl _ | with_reducible assumption | with_reducible refine Ext.alloc ?_ _ | with_reducible refine Ext.drew ?_ | with_reducible refine Ext.drewN ?_ _ | with_reducible refine Ext.setCell ?_ (by simp <;> omega) _ | with_reducible refine Ext.trans ?_ (by assumption))
    · obtain ⟨T, hT⟩ : ∃ T, T = (P + 2) * C := ⟨_, rfl⟩
      rw [← hT] at hB
      have hmul : wrap64 ((P + 2) * C) = T := by rw [← hT]; unfold wrap64; omega
      have hadd : wrap64 (P + 2) = P + 2 := by unfold wrap64; omega
      rw [if_neg (by omega)]
      have k3 : (T / 9223372036854775808 == 0) = true := by simp; omega
      clear hT
      by_cases h64 : 64 < C
      · rw [if_pos h64]
        clear hB hCr hP4 hP1' hg
        go_enter Tryz.func51, Tryz.ntmps51
        go_wp2_with fail
        refine (wRight_yes 64 _ (.inr rfl)).mono ?_
        rintro e w' ⟨rfl, rfl⟩
        go_wp2_with fail
        refine (HCR.out _).mono ?_
        rintro e w' ⟨rfl, rfl⟩
        go_upto_region 7 with (fail)
        refine settle_wp ?_
        intro w14 hb14
        have qc_0 : w14.cell? ⟨w.heap.size, 0, none⟩ = some (.int .i64 V) := (hb14.cells.1 _ _ (by simp <;> omega)).trans (by simp [go_sem])
        have qc_1 : w14.cell? ⟨w.heap.size, 1, none⟩ = some (.int .i64 64) := (hb14.cells.1 _ _ (by simp <;> omega)).trans (by simp [go_sem])
        have qc_2 : w14.cell? ⟨w.heap.size, 2, none⟩ = some (.int .i64 C) := (hb14.cells.1 _ _ (by simp <;> omega)).trans (by simp [go_sem])
        have qc_3 : w14.cell? ⟨w.heap.size, 3, none⟩ = some (.int .i64 P) := (hb14.cells.1 _ _ (by simp <;> omega)).trans (by simp [go_sem])
        have qc_4 : w14.cell? ⟨w.heap.size, 4, none⟩ = some (.int .u64 (S)) := (hb14.cells.1 _ _ (by simp <;> omega)).trans (by simp [go_sem])
        have qc_5 : w14.cell? ⟨w.heap.size, 5, none⟩ = some (.slice a n cap) := (hb14.cells.1 _ _ (by simp <;> omega)).trans (by simp [go_sem])
        have pc := World.block_lt_of_cell? _ ⟨w.heap.size, 0, none⟩ qc_0
        have rc := Nat.lt_succ_of_lt pc
        refine wp_region_later (by kernel_rfl) (by kernel_rfl) ?_
        have lc_0 := fun (g : Later w14) => g.ok.cell qc_0
        have lc_1 := fun (g : Later w14) => g.ok.cell qc_1
        have lc_2 := fun (g : Later w14) => g.ok.cell qc_2
        have lc_3 := fun (g : Later w14) => g.ok.cell qc_3
        have lc_4 := fun (g : Later w14) => g.ok.cell qc_4
        have lc_5 := fun (g : Later w14) => g.ok.cell qc_5
        repeat (go_big_quiet_step ((fail)))
        go_big_quiet_step ((go_at_call 103; exact laterS (HM.out _)))
        repeat (go_big_quiet_step ((fail)))
        refine wpQuiet_nil ?_
        intro w15 hl15
        have hb15 := laters_ext hl15
        clear hl15 lc_0 lc_1 lc_2 lc_3 lc_4 lc_5
        have hx15 : Ext w14 w15 := by repeat (first | with_reducible exact Ext.refl _ | with_reducible assumption | with_reducible refine Ext.alloc ?_ _ | with_reducible refine Ext.drew ?_ | with_reducible refine Ext.drewN ?_ _ | with_reducible refine Ext.setCell ?_ (by simp <;> omega) _ | with_reducible refine Ext.trans ?_ (by assumption))
        replace qc_0 := hx15.cell qc_0
        replace qc_1 := hx15.cell qc_1
        replace qc_2 := hx15.cell qc_2
        replace qc_3 := hx15.cell qc_3
        replace qc_4 := hx15.cell qc_4
        replace qc_5 := hx15.cell qc_5
        replace pc := Nat.lt_of_lt_of_le pc hx15.size
        replace rc := Nat.lt_succ_of_lt pc
        clear hx15
        have hxx : Ext w w15 := by repeat (first | with_reducible exact Ext.refl _ | with_reducible assumption | with_reducible refine Ext.alloc ?_ _ | with_reducible refine Ext.drew ?_ | with_reducible refine Ext.drewN ?_ _ | with_reducible refine Ext.setCell ?_ (by simp <;> omega) _ | with_reducible refine Ext.trans ?_ (by assumption))
        go_wp2_with fail
        refine (CG.out _ hxx).mono ?_
        rintro e w16 ⟨rfl, hb16⟩
        have hx16 : Ext w15 w16 := by repeat (first | with_reducible exact Ext.refl _ | with_reducible assumption | with_reducible refine Ext.alloc ?_ _ | with_reducible refine Ext.drew ?_ | with_reducible refine Ext.drewN ?_ _ | with_reducible refine Ext.setCell ?_ (by simp <;> omega) _ | with_reducible refine Ext.trans ?_ (by assumption))
        replace qc_0 := hx16.cell qc_0
        replace qc_1 := hx16.cell qc_1
        replace qc_2 := hx16.cell qc_2
        replace qc_3 := hx16.cell qc_3
        replace qc_4 := hx16.cell qc_4
        replace qc_5 := hx16.cell qc_5
        replace pc := Nat.lt_of_lt_of_le pc hx16.size
        replace rc := Nat.lt_succ_of_lt pc
        clear hx16
        go_wp2
        go_ret
        refine ⟨rfl, ?_⟩
        repeat (first | with_reducible exact Ext.refl _ | with_reducible assumption | with_reducible refine Ext.alloc ?_ _ | with_reducible refine Ext.drew ?_ | with_reducible refine Ext.drewN ?_ _ | with_reducible refine Ext.setCell ?_ (by simp <;> omega) _ | with_reducible refine Ext.trans ?_ (by assumption))
      · rw [if_neg h64]
        have k4 : decide (64 < C) = false := by simpa using h64
        clear hB hCr hP4 hP1' hg
        go_enter Tryz.func51, Tryz.ntmps51
        go_wp2_with fail
        refine (wRight_yes 64 _ (.inr rfl)).mono ?_
        rintro e w' ⟨rfl, rfl⟩
        go_wp2_with fail
        refine (HCR.out _).mono ?_
        rintro e w' ⟨rfl, rfl⟩
        go_upto_region 7 with (fail)
        refine settle_wp ?_
        intro w17 hb17
        have qc_0 : w17.cell? ⟨w.heap.size, 0, none⟩ = some (.int .i64 V) := (hb17.cells.1 _ _ (by simp <;> omega)).trans (by simp [go_sem])
        have qc_1 : w17.cell? ⟨w.heap.size, 1, none⟩ = some (.int .i64 64) := (hb17.cells.1 _ _ (by simp <;> omega)).trans (by simp [go_sem])
        have qc_2 : w17.cell? ⟨w.heap.size, 2, none⟩ = some (.int .i64 C) := (hb17.cells.1 _ _ (by simp <;> omega)).trans (by simp [go_sem])
        have qc_3 : w17.cell? ⟨w.heap.size, 3, none⟩ = some (.int .i64 P) := (hb17.cells.1 _ _ (by simp <;> omega)).trans (by simp [go_sem])
        have qc_4 : w17.cell? ⟨w.heap.size, 4, none⟩ = some (.int .u64 (S)) := (hb17.cells.1 _ _ (by simp <;> omega)).trans (by simp [go_sem])
        have qc_5 : w17.cell? ⟨w.heap.size, 5, none⟩ = some (.slice a n cap) := (hb17.cells.1 _ _ (by simp <;> omega)).trans (by simp [go_sem])
        have pc := World.block_lt_of_cell? _ ⟨w.heap.size, 0, none⟩ qc_0
        have rc := Nat.lt_succ_of_lt pc
        refine wp_region_later (by kernel_rfl) (by kernel_rfl) ?_
        have lc_0 := fun (g : Later w17) => g.ok.cell qc_0
        have lc_1 := fun (g : Later w17) => g.ok.cell qc_1
        have lc_2 := fun (g : Later w17) => g.ok.cell qc_2
        have lc_3 := fun (g : Later w17) => g.ok.cell qc_3
        have lc_4 := fun (g : Later w17) => g.ok.cell qc_4
        have lc_5 := fun (g : Later w17) => g.ok.cell qc_5
        repeat (go_big_quiet_step ((fail)))
        go_big_quiet_step ((go_at_call 103; exact laterS (HM.out _)))
        repeat (go_big_quiet_step ((fail)))
        refine wpQuiet_nil ?_
        intro w18 hl18
        have hb18 := laters_ext hl18
        clear hl18 lc_0 lc_1 lc_2 lc_3 lc_4 lc_5
        have hx18 : Ext w17 w18 := by repeat (first | with_reducible exact Ext.refl _ | with_reducible assumption | with_reducible refine Ext.alloc ?_ _ | with_reducible refine Ext.drew ?_ | with_reducible refine Ext.drewN ?_ _ | with_reducible refine Ext.setCell ?_ (by simp <;> omega) _ | with_reducible refine Ext.trans ?_ (by assumption))
        replace qc_0 := hx18.cell qc_0
        replace qc_1 := hx18.cell qc_1
        replace qc_2 := hx18.cell qc_2
        replace qc_3 := hx18.cell qc_3
        replace qc_4 := hx18.cell qc_4
        replace qc_5 := hx18.cell qc_5
        replace pc := Nat.lt_of_lt_of_le pc hx18.size
        replace rc := Nat.lt_succ_of_lt pc
        clear hx18
        have hxx : Ext w w18 := by repeat (first | with_reducible exact Ext.refl _ | with_reducible assumption | with_reducible refine Ext.alloc ?_ _ | with_reducible refine Ext.drew ?_ | with_reducible refine Ext.drewN ?_ _ | with_reducible refine Ext.setCell ?_ (by simp <;> omega) _ | with_reducible refine Ext.trans ?_ (by assumption))
        go_wp2_with fail
        refine (CG.out _ hxx).mono ?_
        rintro e w19 ⟨rfl, hb19⟩
        have hx19 : Ext w18 w19 := by repeat (first | with_reducible exact Ext.refl _ | with_reducible assumption | with_reducible refine Ext.alloc ?_ _ | with_reducible refine Ext.drew ?_ | with_reducible refine Ext.drewN ?_ _ | with_reducible refine Ext.setCell ?_ (by simp <;> omega) _ | with_reducible refine Ext.trans ?_ (by assumption))
        replace qc_0 := hx19.cell qc_0
        replace qc_1 := hx19.cell qc_1
        replace qc_2 := hx19.cell qc_2
        replace qc_3 := hx19.cell qc_3
        replace qc_4 := hx19.cell qc_4
        replace qc_5 := hx19.cell qc_5
        replace pc := Nat.lt_of_lt_of_le pc hx19.size
        replace rc := Nat.lt_succ_of_lt pc
        clear hx19
        go_wp2
        go_ret
        refine ⟨rfl, ?_⟩
        repeat (first | with_reducible exact Ext.refl _ | with_reducible assumption | with_reducible refine Ext.alloc ?_ _ | with_reducible refine Ext.drew ?_ | with_reducible refine Ext.drewN ?_ _ | with_reducible refine Ext.setCell ?_ (by simp <;> omega) _ | with_reducible refine Ext.trans ?_ (by assumption))
  · have kg : (g == 0) = false := by simpa using hg
    rw [if_pos hg]
    clear hg hB hCr hP4 hP1'
    go_enter Tryz.func51, Tryz.ntmps51
    go_wp2_with fail
    refine (wRight_yes _ _ hW2).mono ?_
    rintro e w' ⟨rfl, rfl⟩
    go_wp2_with fail
    refine (HCR.out _).mono ?_
    rintro e w' ⟨rfl, rfl⟩
    go_upto_region 7 with (fail)
    refine settle_wp ?_
    intro w20 hb20
    have qc_0 : w20.cell? ⟨w.heap.size, 0, none⟩ = some (.int .i64 V) := (hb20.cells.1 _ _ (by simp <;> omega)).trans (by simp [go_sem])
    have qc_1 : w20.cell? ⟨w.heap.size, 1, none⟩ = some (.int .i64 W) := (hb20.cells.1 _ _ (by simp <;> omega)).trans (by simp [go_sem])
    have qc_2 : w20.cell? ⟨w.heap.size, 2, none⟩ = some (.int .i64 C) := (hb20.cells.1 _ _ (by simp <;> omega)).trans (by simp [go_sem])
    have qc_3 : w20.cell? ⟨w.heap.size, 3, none⟩ = some (.int .i64 P) := (hb20.cells.1 _ _ (by simp <;> omega)).trans (by simp [go_sem])
    have qc_4 : w20.cell? ⟨w.heap.size, 4, none⟩ = some (.int .u64 (S)) := (hb20.cells.1 _ _ (by simp <;> omega)).trans (by simp [go_sem])
    have qc_5 : w20.cell? ⟨w.heap.size, 5, none⟩ = some (.slice a n cap) := (hb20.cells.1 _ _ (by simp <;> omega)).trans (by simp [go_sem])
    have pc := World.block_lt_of_cell? _ ⟨w.heap.size, 0, none⟩ qc_0
    have rc := Nat.lt_succ_of_lt pc
    refine wp_region_later (by kernel_rfl) (by kernel_rfl) ?_
    have lc_0 := fun (g : Later w20) => g.ok.cell qc_0
    have lc_1 := fun (g : Later w20) => g.ok.cell qc_1
    have lc_2 := fun (g : Later w20) => g.ok.cell qc_2
    have lc_3 := fun (g : Later w20) => g.ok.cell qc_3
    have lc_4 := fun (g : Later w20) => g.ok.cell qc_4
    have lc_5 := fun (g : Later w20) => g.ok.cell qc_5
    repeat (go_big_quiet_step ((fail)))
    go_big_quiet_step ((go_at_call 103; exact laterS (HM.out _)))
    repeat (go_big_quiet_step ((fail)))
    refine wpQuiet_nil ?_
    intro w21 hl21
    have hb21 := laters_ext hl21
    clear hl21 lc_0 lc_1 lc_2 lc_3 lc_4 lc_5
    have hx21 : Ext w20 w21 := by repeat (first | with_reducible exact Ext.refl _ | with_reducible assumption | with_reducible refine Ext.alloc ?_ _ | with_reducible refine Ext.drew ?_ | with_reducible refine Ext.drewN ?_ _ | with_reducible refine Ext.setCell ?_ (by simp <;> omega) _ | with_reducible refine Ext.trans ?_ (by assumption))
    replace qc_0 := hx21.cell qc_0
    replace qc_1 := hx21.cell qc_1
    replace qc_2 := hx21.cell qc_2
    replace qc_3 := hx21.cell qc_3
    replace qc_4 := hx21.cell qc_4
    replace qc_5 := hx21.cell qc_5
    replace pc := Nat.lt_of_lt_of_le pc hx21.size
    replace rc := Nat.lt_succ_of_lt pc
    clear hx21
    have hxx : Ext w w21 := by repeat (first | with_reducible exact Ext.refl _ | with_reducible assumption | with_reducible refine Ext.alloc ?_ _ | with_reducible refine Ext.drew ?_ | with_reducible refine Ext.drewN ?_ _ | with_reducible refine Ext.setCell ?_ (by simp <;> omega) _ | with_reducible refine Ext.trans ?_ (by assumption))
    go_wp2_with fail
    refine (CG.out _ hxx).mono ?_
    rintro e w22 ⟨rfl, hb22⟩
    have hx22 : Ext w21 w22 := by repeat (first | with_reducible exact Ext.refl _ | with_reducible assumption | with_reducible refine Ext.alloc ?_ _ | with_reducible refine Ext.drew ?_ | with_reducible refine Ext.drewN ?_ _ | with_reducible refine Ext.setCell ?_ (by simp <;> omega) _ | with_reducible refine Ext.trans ?_ (by assumption))
    replace qc_0 := hx22.cell qc_0
    replace qc_1 := hx22.cell qc_1
    replace qc_2 := hx22.cell qc_2
    replace qc_3 := hx22.cell qc_3
    replace qc_4 := hx22.cell qc_4
    replace qc_5 := hx22.cell qc_5
    replace pc := Nat.lt_of_lt_of_le pc hx22.size
    replace rc := Nat.lt_succ_of_lt pc
    clear hx22
    go_wp2
    go_ret
    refine ⟨rfl, ?_⟩
    repeat (first | with_reducible exact Ext.refl _ | with_reducible assumption | with_reducible refine Ext.alloc ?_ _ | with_reducible refine Ext.drew ?_ | with_reducible refine Ext.drewN ?_ _ | with_reducible refine Ext.setCell ?_ (by simp <;> omega) _ | with_reducible refine Ext.trans ?_ (by assumption))
end Go.Proofs.YtkmfamidahlgiaaGreatDoor

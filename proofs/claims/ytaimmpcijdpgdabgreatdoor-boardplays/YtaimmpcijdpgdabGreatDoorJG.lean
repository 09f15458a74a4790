import Derived.Test.YtaimmpcijdpgdabGreatDoorCf
import Derived.Test.YtaimmpcijdpgdabGreatDoorLists
import Derived.Deep.DeepCutAuto
import Derived.Test.YtaimmpcijdpgdabGreatDoorCf3
import Derived.Test.YtaimmpcijdpgdabGreatDoorExt
import Derived.Deep.RegionHeld
/- The document's Check of layer 10. -/
namespace Go.Proofs.YtaimmpcijdpgdabGreatDoor
open Go.RowKit
set_option linter.unusedVariables false
set_option maxHeartbeats 1000000
attribute [local go_sem] later_cell later_frozen later_const
theorem r10Chk (V W C P S : Int) (u : Value) (ups : List (List Int)) (w : World) (hL : ListsV w u ups) (hll : ∀ l ∈ ups, l.length ≤ 1000000) (hn : ups.length ≤ 1000000) :
    Calls Tryz.prog 32 #[(.agg #[.int .i64 V, .int .i64 W, .int .i64 C, .int .i64 P, .int .u64 (S), u])] w fun e w' => e = .returned (.int .i64 (ckC V W C P ups)) ∧ Ext w w' := by
  obtain ⟨a, cap, e, -⟩ := id hL
  subst e
  have CG := Lib.hid (fun w' (hx : Ext w w') => rChk9 _ ups w' (hL.ext hx) hll hn)
  clear hL hll
  generalize ups.length = n at *
  by_cases hV1 : V < 1
  · rw [show ckC V W C P ups = 2 by simp [ckC, hV1]]
    have d : decide (V < 1) = true := by simpa using hV1
    clear hV1
    go_enter Tryz.func32, Tryz.ntmps32
    go_wp2
    go_ret
    refine ⟨rfl, ?_⟩
    repeat (first | with_reducible exact Ext.refl _ | with_reducible assumption | with_reducible refine Ext.alloc ?_ _ | with_reducible refine Ext.drew ?_ | with_reducible refine Ext.drewN ?_ _ | with_reducible refine Ext.setCell ?_ (by simp <;> omega) _ | with_reducible refine Ext.trans ?_ (by assumption))
  have d1 : decide (V < 1) = false := by simpa using hV1
  by_cases hV5 : 5 < V
  · rw [show ckC V W C P ups = 2 by simp [ckC, hV5]]
    clear hV1
    go_enter Tryz.func32, Tryz.ntmps32
    go_wp2
    go_ret
    refine ⟨rfl, ?_⟩
    repeat (first | with_reducible exact Ext.refl _ | with_reducible assumption | with_reducible refine Ext.alloc ?_ _ | with_reducible refine Ext.drew ?_ | with_reducible refine Ext.drewN ?_ _ | with_reducible refine Ext.setCell ?_ (by simp <;> omega) _ | with_reducible refine Ext.trans ?_ (by assumption))
  have hVV : ¬ (V < 1 ∨ 5 < V) := by omega
  by_cases hW : ¬ (W = 32 ∨ W = 64)
  · rw [show ckC V W C P ups = 3 by rw [ckC, if_neg hVV, if_pos hW]]
    have k1 : (W != 32) = true := by simp; omega
    have k2 : (W != 64) = true := by simp; omega
    clear hV1 hVV hW
    go_enter Tryz.func32, Tryz.ntmps32
    go_wp2
    go_ret
    refine ⟨rfl, ?_⟩
    repeat (first | with_reducible exact Ext.refl _ | with_reducible assumption | with_reducible refine Ext.alloc ?_ _ | with_reducible refine Ext.drew ?_ | with_reducible refine Ext.drewN ?_ _ | with_reducible refine Ext.setCell ?_ (by simp <;> omega) _ | with_reducible refine Ext.trans ?_ (by assumption))
  have hW2 : W = 32 ∨ W = 64 := by omega
  rcases hW2 with rfl | rfl
  · clear hW
    have hW : ¬ ¬ ((32 : Int) = 32 ∨ (32 : Int) = 64) := by omega
    by_cases hC : rightB C = false
    · rw [show ckC V 32 C P ups = 4 by rw [ckC, if_neg hVV, if_neg hW, if_pos hC]]
      have CR := fun w => r2Right C w
      rw [hC] at CR
      have HCR := Lib.hid CR
      clear hV1 hVV hW CR hC
      go_enter Tryz.func32, Tryz.ntmps32
      go_wp2_with fail
      refine (HCR.out _).mono ?_
      rintro e w' ⟨rfl, rfl⟩
      go_wp2
      go_ret
      refine ⟨rfl, ?_⟩
      repeat (first | with_reducible exact Ext.refl _ | with_reducible assumption | with_reducible refine Ext.alloc ?_ _ | with_reducible refine Ext.drew ?_ | with_reducible refine Ext.drewN ?_ _ | with_reducible refine Ext.setCell ?_ (by simp <;> omega) _ | with_reducible refine Ext.trans ?_ (by assumption))
    have hCt : rightB C = true := by cases h : rightB C <;> simp_all
    have hCr := right_range hCt
    have CR := fun w => r2Right C w
    rw [hCt] at CR
    have HCR := Lib.hid CR
    clear CR
    by_cases hP1 : P < 1
    · rw [show ckC V 32 C P ups = 5 by rw [ckC, if_neg hVV, if_neg hW, if_neg hC, if_pos (.inl hP1)]]
      have k1 : decide (P < 1) = true := by simpa using hP1
      clear hV1 hVV hW hC hP1 hCt hCr
      go_enter Tryz.func32, Tryz.ntmps32
      go_wp2_with fail
      refine (HCR.out _).mono ?_
      rintro e w' ⟨rfl, rfl⟩
      go_wp2
      go_ret
      refine ⟨rfl, ?_⟩
      repeat (first | with_reducible exact Ext.refl _ | with_reducible assumption | with_reducible refine Ext.alloc ?_ _ | with_reducible refine Ext.drew ?_ | with_reducible refine Ext.drewN ?_ _ | with_reducible refine Ext.setCell ?_ (by simp <;> omega) _ | with_reducible refine Ext.trans ?_ (by assumption))
    have k1 : decide (P < 1) = false := by simpa using hP1
    by_cases hP4 : 4 < P
    · have hPm : mostOf V < P := by have := most_le V; omega
      rw [show ckC V 32 C P ups = 5 by rw [ckC, if_neg hVV, if_neg hW, if_neg hC, if_pos (.inr hPm)]]
      clear hV1 hVV hW hC hP1 hCt hCr hPm
      go_enter Tryz.func32, Tryz.ntmps32
      go_wp2_with fail
      refine (HCR.out _).mono ?_
      rintro e w' ⟨rfl, rfl⟩
      go_wp2
      go_ret
      refine ⟨rfl, ?_⟩
      repeat (first | with_reducible exact Ext.refl _ | with_reducible assumption | with_reducible refine Ext.alloc ?_ _ | with_reducible refine Ext.drew ?_ | with_reducible refine Ext.drewN ?_ _ | with_reducible refine Ext.setCell ?_ (by simp <;> omega) _ | with_reducible refine Ext.trans ?_ (by assumption))
    have k2 : decide (4 < P) = false := by simpa using hP4
    by_cases hVP : V = 1 ∧ ¬ P = 1
    · have hPm : mostOf V < P := by rw [hVP.1]; unfold mostOf; simp; omega
      rw [show ckC V 32 C P ups = 5 by rw [ckC, if_neg hVV, if_neg hW, if_neg hC, if_pos (.inr hPm)]]
      have k3 : (V == 1) = true := by simpa using hVP.1
      have k4 : (P == 1) = false := by simpa using hVP.2
      clear hV1 hVV hW hC hP1 hCt hCr hPm hVP
      go_enter Tryz.func32, Tryz.ntmps32
      go_wp2_with fail
      refine (HCR.out _).mono ?_
      rintro e w' ⟨rfl, rfl⟩
      go_wp2
      go_ret
      refine ⟨rfl, ?_⟩
      repeat (first | with_reducible exact Ext.refl _ | with_reducible assumption | with_reducible refine Ext.alloc ?_ _ | with_reducible refine Ext.drew ?_ | with_reducible refine Ext.drewN ?_ _ | with_reducible refine Ext.setCell ?_ (by simp <;> omega) _ | with_reducible refine Ext.trans ?_ (by assumption))
    have hPm : ¬ mostOf V < P := by unfold mostOf; split <;> omega
    have hPP : ¬ (P < 1 ∨ mostOf V < P) := by omega
    have eC : ckC V 32 C P ups = if chk ups ≠ 0 then chk ups else if (32 : Int) = 32 ∧ 2147483648 ≤ (P + 2) * C then 9 else if 64 < C then 10 else 0 := by rw [ckC, if_neg hVV, if_neg hW, if_neg hC, if_neg hPP]
    rw [eC]
    have hB := bound_le (by omega) (show P ≤ 4 by omega) hCr.1 hCr.2
    obtain ⟨T, hT⟩ : ∃ T, T = (P + 2) * C := ⟨_, rfl⟩
    rw [← hT] at hB ⊢
    have hmul : wrap64 ((P + 2) * C) = T := by rw [← hT]; unfold wrap64; omega
    have hadd : wrap64 (P + 2) = P + 2 := by unfold wrap64; omega
    generalize hval : (if chk ups ≠ 0 then chk ups else if (32 : Int) = 32 ∧ 2147483648 ≤ T then 9 else if 64 < C then 10 else 0) = val
    clear eC hPP hVV hW hC hPm hP1 hV1 hCt hT
    generalize chk ups = g at *
    have k5 : ∃ bV bP, (V == 1) = bV ∧ (P == 1) = bP ∧ (bV = true → bP = true) := ⟨_, _, rfl, rfl, fun h => by simp at h ⊢; omega⟩
    obtain ⟨bV, bP, k3, k4, k34⟩ := k5
    clear hVP hP4
    cases bV
    · clear k34
      by_cases hg : g = 0
      · have kg : (g == 0) = true := by simpa using hg
        rw [if_neg (by simpa using hg)] at hval
        by_cases h9 : 2147483648 ≤ T
        · rw [if_pos ⟨rfl, h9⟩] at hval
          subst hval
          have k7 : decide (2147483648 ≤ T) = true := by simpa using h9
          clear h9 hg hB hCr
          go_enter Tryz.func32, Tryz.ntmps32
          go_wp2_with fail
          refine (HCR.out _).mono ?_
          rintro e w' ⟨rfl, rfl⟩
          go_wp2_with fail
          refine (CG.out _ (by repeat (first | with_reducible exact Ext.refl _ | with_reducible assumption | with_reducible refine Ext.alloc ?_ _ | with_reducible refine Ext.drew ?_ | with_reducible refine Ext.drewN ?_ _ | with_reducible refine Ext.setCell ?_ (by simp <;> omega) _ | with_reducible refine Ext.trans ?_ (by assumption)))).mono ?_
          rintro e w1 ⟨rfl, hb1⟩
          obtain ⟨hc1, hf1⟩ := hb1.cells
          clear hc1 hf1
          have qc_0 : w1.cell? ⟨w.heap.size, 0, none⟩ = some (.int .i64 V) := (hb1.cells.1 _ _ (by simp <;> omega)).trans (by simp [go_sem])
          have qc_1 : w1.cell? ⟨w.heap.size, 1, none⟩ = some (.int .i64 32) := (hb1.cells.1 _ _ (by simp <;> omega)).trans (by simp [go_sem])
          have qc_2 : w1.cell? ⟨w.heap.size, 2, none⟩ = some (.int .i64 C) := (hb1.cells.1 _ _ (by simp <;> omega)).trans (by simp [go_sem])
          have qc_3 : w1.cell? ⟨w.heap.size, 3, none⟩ = some (.int .i64 P) := (hb1.cells.1 _ _ (by simp <;> omega)).trans (by simp [go_sem])
          have qc_4 : w1.cell? ⟨w.heap.size, 4, none⟩ = some (.int .u64 (S)) := (hb1.cells.1 _ _ (by simp <;> omega)).trans (by simp [go_sem])
          have qc_5 : w1.cell? ⟨w.heap.size, 5, none⟩ = some (.slice a n cap) := (hb1.cells.1 _ _ (by simp <;> omega)).trans (by simp [go_sem])
          have pc := World.block_lt_of_cell? _ ⟨w.heap.size, 0, none⟩ qc_0
          have rc := Nat.lt_succ_of_lt pc
          go_wp2
          go_ret
          refine ⟨rfl, ?_⟩
          repeat (first | with_reducible exact Ext.refl _ | with_reducible assumption | with_reducible refine Ext.alloc ?_ _ | with_reducible refine Ext.drew ?_ | with_reducible refine Ext.drewN ?_ _ | with_reducible refine Ext.setCell ?_ (by simp <;> omega) _ | with_reducible refine Ext.trans ?_ (by assumption))
        · rw [if_neg (by omega)] at hval
          have k7 : decide (2147483648 ≤ T) = false := by simpa using h9
          by_cases h64 : 64 < C
          · rw [if_pos h64] at hval
            subst hval
            clear h9 hg hB hCr
            go_enter Tryz.func32, Tryz.ntmps32
            go_wp2_with fail
            refine (HCR.out _).mono ?_
            rintro e w' ⟨rfl, rfl⟩
            go_wp2_with fail
            refine (CG.out _ (by repeat (first | with_reducible exact Ext.refl _ | with_reducible assumption | with_reducible refine Ext.alloc ?_ _ | with_reducible refine Ext.drew ?_ | with_reducible refine Ext.drewN ?_ _ | with_reducible refine Ext.setCell ?_ (by simp <;> omega) _ | with_reducible refine Ext.trans ?_ (by assumption)))).mono ?_
            rintro e w2 ⟨rfl, hb2⟩
            obtain ⟨hc2, hf2⟩ := hb2.cells
            clear hc2 hf2
            have qc_0 : w2.cell? ⟨w.heap.size, 0, none⟩ = some (.int .i64 V) := (hb2.cells.1 _ _ (by simp <;> omega)).trans (by simp [go_sem])
            have qc_1 : w2.cell? ⟨w.heap.size, 1, none⟩ = some (.int .i64 32) := (hb2.cells.1 _ _ (by simp <;> omega)).trans (by simp [go_sem])
            have qc_2 : w2.cell? ⟨w.heap.size, 2, none⟩ = some (.int .i64 C) := (hb2.cells.1 _ _ (by simp <;> omega)).trans (by simp [go_sem])
            have qc_3 : w2.cell? ⟨w.heap.size, 3, none⟩ = some (.int .i64 P) := (hb2.cells.1 _ _ (by simp <;> omega)).trans (by simp [go_sem])
            have qc_4 : w2.cell? ⟨w.heap.size, 4, none⟩ = some (.int .u64 (S)) := (hb2.cells.1 _ _ (by simp <;> omega)).trans (by simp [go_sem])
            have qc_5 : w2.cell? ⟨w.heap.size, 5, none⟩ = some (.slice a n cap) := (hb2.cells.1 _ _ (by simp <;> omega)).trans (by simp [go_sem])
            have pc := World.block_lt_of_cell? _ ⟨w.heap.size, 0, none⟩ qc_0
            have rc := Nat.lt_succ_of_lt pc
            go_wp2
            go_ret
            refine ⟨rfl, ?_⟩
            repeat (first | with_reducible exact Ext.refl _ | with_reducible assumption | with_reducible refine Ext.alloc ?_ _ | with_reducible refine Ext.drew ?_ | with_reducible refine Ext.drewN ?_ _ | with_reducible refine Ext.setCell ?_ (by simp <;> omega) _ | with_reducible refine Ext.trans ?_ (by assumption))
          · rw [if_neg h64] at hval
            subst hval
            have k8 : decide (64 < C) = false := by simpa using h64
            clear h9 hg hB hCr
            go_enter Tryz.func32, Tryz.ntmps32
            go_wp2_with fail
            refine (HCR.out _).mono ?_
            rintro e w' ⟨rfl, rfl⟩
            go_wp2_with fail
            refine (CG.out _ (by repeat (first | with_reducible exact Ext.refl _ | with_reducible assumption | with_reducible refine Ext.alloc ?_ _ | with_reducible refine Ext.drew ?_ | with_reducible refine Ext.drewN ?_ _ | with_reducible refine Ext.setCell ?_ (by simp <;> omega) _ | with_reducible refine Ext.trans ?_ (by assumption)))).mono ?_
            rintro e w3 ⟨rfl, hb3⟩
            obtain ⟨hc3, hf3⟩ := hb3.cells
            clear hc3 hf3
            have qc_0 : w3.cell? ⟨w.heap.size, 0, none⟩ = some (.int .i64 V) := (hb3.cells.1 _ _ (by simp <;> omega)).trans (by simp [go_sem])
            have qc_1 : w3.cell? ⟨w.heap.size, 1, none⟩ = some (.int .i64 32) := (hb3.cells.1 _ _ (by simp <;> omega)).trans (by simp [go_sem])
            have qc_2 : w3.cell? ⟨w.heap.size, 2, none⟩ = some (.int .i64 C) := (hb3.cells.1 _ _ (by simp <;> omega)).trans (by simp [go_sem])
            have qc_3 : w3.cell? ⟨w.heap.size, 3, none⟩ = some (.int .i64 P) := (hb3.cells.1 _ _ (by simp <;> omega)).trans (by simp [go_sem])
            have qc_4 : w3.cell? ⟨w.heap.size, 4, none⟩ = some (.int .u64 (S)) := (hb3.cells.1 _ _ (by simp <;> omega)).trans (by simp [go_sem])
            have qc_5 : w3.cell? ⟨w.heap.size, 5, none⟩ = some (.slice a n cap) := (hb3.cells.1 _ _ (by simp <;> omega)).trans (by simp [go_sem])
            have pc := World.block_lt_of_cell? _ ⟨w.heap.size, 0, none⟩ qc_0
            have rc := Nat.lt_succ_of_lt pc
            go_wp2
            go_ret
            refine ⟨rfl, ?_⟩
            repeat (first | with_reducible exact Ext.refl _ | with_reducible assumption | with_reducible refine Ext.alloc ?_ _ | with_reducible refine Ext.drew ?_ | with_reducible refine Ext.drewN ?_ _ | with_reducible refine Ext.setCell ?_ (by simp <;> omega) _ | with_reducible refine Ext.trans ?_ (by assumption))
      · have kg : (g == 0) = false := by simpa using hg
        rw [if_pos hg] at hval
        subst hval
        clear hg hB hCr
        go_enter Tryz.func32, Tryz.ntmps32
        go_wp2_with fail
        refine (HCR.out _).mono ?_
        rintro e w' ⟨rfl, rfl⟩
        go_wp2_with fail
        refine (CG.out _ (by repeat (first | with_reducible exact Ext.refl _ | with_reducible assumption | with_reducible refine Ext.alloc ?_ _ | with_reducible refine Ext.drew ?_ | with_reducible refine Ext.drewN ?_ _ | with_reducible refine Ext.setCell ?_ (by simp <;> omega) _ | with_reducible refine Ext.trans ?_ (by assumption)))).mono ?_
        rintro e w4 ⟨rfl, hb4⟩
        obtain ⟨hc4, hf4⟩ := hb4.cells
        clear hc4 hf4
        have qc_0 : w4.cell? ⟨w.heap.size, 0, none⟩ = some (.int .i64 V) := (hb4.cells.1 _ _ (by simp <;> omega)).trans (by simp [go_sem])
        have qc_1 : w4.cell? ⟨w.heap.size, 1, none⟩ = some (.int .i64 32) := (hb4.cells.1 _ _ (by simp <;> omega)).trans (by simp [go_sem])
        have qc_2 : w4.cell? ⟨w.heap.size, 2, none⟩ = some (.int .i64 C) := (hb4.cells.1 _ _ (by simp <;> omega)).trans (by simp [go_sem])
        have qc_3 : w4.cell? ⟨w.heap.size, 3, none⟩ = some (.int .i64 P) := (hb4.cells.1 _ _ (by simp <;> omega)).trans (by simp [go_sem])
        have qc_4 : w4.cell? ⟨w.heap.size, 4, none⟩ = some (.int .u64 (S)) := (hb4.cells.1 _ _ (by simp <;> omega)).trans (by simp [go_sem])
        have qc_5 : w4.cell? ⟨w.heap.size, 5, none⟩ = some (.slice a n cap) := (hb4.cells.1 _ _ (by simp <;> omega)).trans (by simp [go_sem])
        have pc := World.block_lt_of_cell? _ ⟨w.heap.size, 0, none⟩ qc_0
        have rc := Nat.lt_succ_of_lt pc
        go_wp2
        go_ret
        refine ⟨rfl, ?_⟩
        repeat (first | with_reducible exact Ext.refl _ | with_reducible assumption | with_reducible refine Ext.alloc ?_ _ | with_reducible refine Ext.drew ?_ | with_reducible refine Ext.drewN ?_ _ | with_reducible refine Ext.setCell ?_ (by simp <;> omega) _ | with_reducible refine Ext.trans ?_ (by assumption))
    · obtain rfl := k34 rfl
      clear k34
      by_cases hg : g = 0
      · have kg : (g == 0) = true := by simpa using hg
        rw [if_neg (by simpa using hg)] at hval
        by_cases h9 : 2147483648 ≤ T
        · rw [if_pos ⟨rfl, h9⟩] at hval
          subst hval
          have k7 : decide (2147483648 ≤ T) = true := by simpa using h9
          clear h9 hg hB hCr
          go_enter Tryz.func32, Tryz.ntmps32
          go_wp2_with fail
          refine (HCR.out _).mono ?_
          rintro e w' ⟨rfl, rfl⟩
          go_wp2_with fail
          refine (CG.out _ (by repeat (first | with_reducible exact Ext.refl _ | with_reducible assumption | with_reducible refine Ext.alloc ?_ _ | with_reducible refine Ext.drew ?_ | with_reducible refine Ext.drewN ?_ _ | with_reducible refine Ext.setCell ?_ (by simp <;> omega) _ | with_reducible refine Ext.trans ?_ (by assumption)))).mono ?_
          rintro e w5 ⟨rfl, hb5⟩
          obtain ⟨hc5, hf5⟩ := hb5.cells
          clear hc5 hf5
          have qc_0 : w5.cell? ⟨w.heap.size, 0, none⟩ = some (.int .i64 V) := (hb5.cells.1 _ _ (by simp <;> omega)).trans (by simp [go_sem])
          have qc_1 : w5.cell? ⟨w.heap.size, 1, none⟩ = some (.int .i64 32) := (hb5.cells.1 _ _ (by simp <;> omega)).trans (by simp [go_sem])
          have qc_2 : w5.cell? ⟨w.heap.size, 2, none⟩ = some (.int .i64 C) := (hb5.cells.1 _ _ (by simp <;> omega)).trans (by simp [go_sem])
          have qc_3 : w5.cell? ⟨w.heap.size, 3, none⟩ = some (.int .i64 P) := (hb5.cells.1 _ _ (by simp <;> omega)).trans (by simp [go_sem])
          have qc_4 : w5.cell? ⟨w.heap.size, 4, none⟩ = some (.int .u64 (S)) := (hb5.cells.1 _ _ (by simp <;> omega)).trans (by simp [go_sem])
          have qc_5 : w5.cell? ⟨w.heap.size, 5, none⟩ = some (.slice a n cap) := (hb5.cells.1 _ _ (by simp <;> omega)).trans (by simp [go_sem])
          have pc := World.block_lt_of_cell? _ ⟨w.heap.size, 0, none⟩ qc_0
          have rc := Nat.lt_succ_of_lt pc
          go_wp2
          go_ret
          refine ⟨rfl, ?_⟩
          repeat (first | with_reducible exact Ext.refl _ | with_reducible assumption | with_reducible refine Ext.alloc ?_ _ | with_reducible refine Ext.drew ?_ | with_reducible refine Ext.drewN ?_ _ | with_reducible refine Ext.setCell ?_ (by simp <;> omega) _ | with_reducible refine Ext.trans ?_ (by assumption))
        · rw [if_neg (by omega)] at hval
          have k7 : decide (2147483648 ≤ T) = false := by simpa using h9
          by_cases h64 : 64 < C
          · rw [if_pos h64] at hval
            subst hval
            clear h9 hg hB hCr
            go_enter Tryz.func32, Tryz.ntmps32
            go_wp2_with fail
            refine (HCR.out _).mono ?_
            rintro e w' ⟨rfl, rfl⟩
            go_wp2_with fail
            refine (CG.out _ (by repeat (first | with_reducible exact Ext.refl _ | with_reducible assumption | with_reducible refine Ext.alloc ?_ _ | with_reducible refine Ext.drew ?_ | with_reducible refine Ext.drewN ?_ _ | with_reducible refine Ext.setCell ?_ (by simp <;> omega) _ | with_reducible refine Ext.trans ?_ (by assumption)))).mono ?_
            rintro e w6 ⟨rfl, hb6⟩
            obtain ⟨hc6, hf6⟩ := hb6.cells
            clear hc6 hf6
            have qc_0 : w6.cell? ⟨w.heap.size, 0, none⟩ = some (.int .i64 V) := (hb6.cells.1 _ _ (by simp <;> omega)).trans (by simp [go_sem])
            have qc_1 : w6.cell? ⟨w.heap.size, 1, none⟩ = some (.int .i64 32) := (hb6.cells.1 _ _ (by simp <;> omega)).trans (by simp [go_sem])
            have qc_2 : w6.cell? ⟨w.heap.size, 2, none⟩ = some (.int .i64 C) := (hb6.cells.1 _ _ (by simp <;> omega)).trans (by simp [go_sem])
            have qc_3 : w6.cell? ⟨w.heap.size, 3, none⟩ = some (.int .i64 P) := (hb6.cells.1 _ _ (by simp <;> omega)).trans (by simp [go_sem])
            have qc_4 : w6.cell? ⟨w.heap.size, 4, none⟩ = some (.int .u64 (S)) := (hb6.cells.1 _ _ (by simp <;> omega)).trans (by simp [go_sem])
            have qc_5 : w6.cell? ⟨w.heap.size, 5, none⟩ = some (.slice a n cap) := (hb6.cells.1 _ _ (by simp <;> omega)).trans (by simp [go_sem])
            have pc := World.block_lt_of_cell? _ ⟨w.heap.size, 0, none⟩ qc_0
            have rc := Nat.lt_succ_of_lt pc
            go_wp2
            go_ret
            refine ⟨rfl, ?_⟩
            repeat (first | with_reducible exact Ext.refl _ | with_reducible assumption | with_reducible refine Ext.alloc ?_ _ | with_reducible refine Ext.drew ?_ | with_reducible refine Ext.drewN ?_ _ | with_reducible refine Ext.setCell ?_ (by simp <;> omega) _ | with_reducible refine Ext.trans ?_ (by assumption))
          · rw [if_neg h64] at hval
            subst hval
            have k8 : decide (64 < C) = false := by simpa using h64
            clear h9 hg hB hCr
            go_enter Tryz.func32, Tryz.ntmps32
            go_wp2_with fail
            refine (HCR.out _).mono ?_
            rintro e w' ⟨rfl, rfl⟩
            go_wp2_with fail
            refine (CG.out _ (by repeat (first | with_reducible exact Ext.refl _ | with_reducible assumption | with_reducible refine Ext.alloc ?_ _ | with_reducible refine Ext.drew ?_ | with_reducible refine Ext.drewN ?_ _ | with_reducible refine Ext.setCell ?_ (by simp <;> omega) _ | with_reducible refine Ext.trans ?_ (by assumption)))).mono ?_
            rintro e w7 ⟨rfl, hb7⟩
            obtain ⟨hc7, hf7⟩ := hb7.cells
            clear hc7 hf7
            have qc_0 : w7.cell? ⟨w.heap.size, 0, none⟩ = some (.int .i64 V) := (hb7.cells.1 _ _ (by simp <;> omega)).trans (by simp [go_sem])
            have qc_1 : w7.cell? ⟨w.heap.size, 1, none⟩ = some (.int .i64 32) := (hb7.cells.1 _ _ (by simp <;> omega)).trans (by simp [go_sem])
            have qc_2 : w7.cell? ⟨w.heap.size, 2, none⟩ = some (.int .i64 C) := (hb7.cells.1 _ _ (by simp <;> omega)).trans (by simp [go_sem])
            have qc_3 : w7.cell? ⟨w.heap.size, 3, none⟩ = some (.int .i64 P) := (hb7.cells.1 _ _ (by simp <;> omega)).trans (by simp [go_sem])
            have qc_4 : w7.cell? ⟨w.heap.size, 4, none⟩ = some (.int .u64 (S)) := (hb7.cells.1 _ _ (by simp <;> omega)).trans (by simp [go_sem])
            have qc_5 : w7.cell? ⟨w.heap.size, 5, none⟩ = some (.slice a n cap) := (hb7.cells.1 _ _ (by simp <;> omega)).trans (by simp [go_sem])
            have pc := World.block_lt_of_cell? _ ⟨w.heap.size, 0, none⟩ qc_0
            have rc := Nat.lt_succ_of_lt pc
            go_wp2
            go_ret
            refine ⟨rfl, ?_⟩
            repeat (first | with_reducible exact Ext.refl _ | with_reducible assumption | with_reducible refine Ext.alloc ?_ _ | with_reducible refine Ext.drew ?_ | with_reducible refine Ext.drewN ?_ _ | with_reducible refine Ext.setCell ?_ (by simp <;> omega) _ | with_reducible refine Ext.trans ?_ (by assumption))
      · have kg : (g == 0) = false := by simpa using hg
        rw [if_pos hg] at hval
        subst hval
        clear hg hB hCr
        go_enter Tryz.func32, Tryz.ntmps32
        go_wp2_with fail
        refine (HCR.out _).mono ?_
        rintro e w' ⟨rfl, rfl⟩
        go_wp2_with fail
        refine (CG.out _ (by repeat (first | with_reducible exact Ext.refl _ | with_reducible assumption | with_reducible refine Ext.alloc ?_ _ | with_reducible refine Ext.drew ?_ | with_reducible refine Ext.drewN ?_ _ | with_reducible refine Ext.setCell ?_ (by simp <;> omega) _ | with_reducible refine Ext.trans ?_ (by assumption)))).mono ?_
        rintro e w8 ⟨rfl, hb8⟩
        obtain ⟨hc8, hf8⟩ := hb8.cells
        clear hc8 hf8
        have qc_0 : w8.cell? ⟨w.heap.size, 0, none⟩ = some (.int .i64 V) := (hb8.cells.1 _ _ (by simp <;> omega)).trans (by simp [go_sem])
        have qc_1 : w8.cell? ⟨w.heap.size, 1, none⟩ = some (.int .i64 32) := (hb8.cells.1 _ _ (by simp <;> omega)).trans (by simp [go_sem])
        have qc_2 : w8.cell? ⟨w.heap.size, 2, none⟩ = some (.int .i64 C) := (hb8.cells.1 _ _ (by simp <;> omega)).trans (by simp [go_sem])
        have qc_3 : w8.cell? ⟨w.heap.size, 3, none⟩ = some (.int .i64 P) := (hb8.cells.1 _ _ (by simp <;> omega)).trans (by simp [go_sem])
        have qc_4 : w8.cell? ⟨w.heap.size, 4, none⟩ = some (.int .u64 (S)) := (hb8.cells.1 _ _ (by simp <;> omega)).trans (by simp [go_sem])
        have qc_5 : w8.cell? ⟨w.heap.size, 5, none⟩ = some (.slice a n cap) := (hb8.cells.1 _ _ (by simp <;> omega)).trans (by simp [go_sem])
        have pc := World.block_lt_of_cell? _ ⟨w.heap.size, 0, none⟩ qc_0
        have rc := Nat.lt_succ_of_lt pc
        go_wp2
        go_ret
        refine ⟨rfl, ?_⟩
        repeat (first | with_reducible exact Ext.refl _ | with_reducible assumption | with_reducible refine Ext.alloc ?_ _ | with_reducible refine Ext.drew ?_ | with_reducible refine Ext.drewN ?_ _ | with_reducible refine Ext.setCell ?_ (by simp <;> omega) _ | with_reducible refine Ext.trans ?_ (by assumption))
  · clear hW
    have hW : ¬ ¬ ((64 : Int) = 32 ∨ (64 : Int) = 64) := by omega
    by_cases hC : rightB C = false
    · rw [show ckC V 64 C P ups = 4 by rw [ckC, if_neg hVV, if_neg hW, if_pos hC]]
      have CR := fun w => r2Right C w
      rw [hC] at CR
      have HCR := Lib.hid CR
      clear hV1 hVV hW CR hC
      go_enter Tryz.func32, Tryz.ntmps32
      go_wp2_with fail
      refine (HCR.out _).mono ?_
      rintro e w' ⟨rfl, rfl⟩
      go_wp2
      go_ret
      refine ⟨rfl, ?_⟩
      repeat (first | with_reducible exact Ext.refl _ | with_reducible assumption | with_reducible refine Ext.alloc ?_ _ | with_reducible refine Ext.drew ?_ | with_reducible refine Ext.drewN ?_ _ | with_reducible refine Ext.setCell ?_ (by simp <;> omega) _ | with_reducible refine Ext.trans ?_ (by assumption))
    have hCt : rightB C = true := by cases h : rightB C <;> simp_all
    have hCr := right_range hCt
    have CR := fun w => r2Right C w
    rw [hCt] at CR
    have HCR := Lib.hid CR
    clear CR
    by_cases hP1 : P < 1
    · rw [show ckC V 64 C P ups = 5 by rw [ckC, if_neg hVV, if_neg hW, if_neg hC, if_pos (.inl hP1)]]
      have k1 : decide (P < 1) = true := by simpa using hP1
      clear hV1 hVV hW hC hP1 hCt hCr
      go_enter Tryz.func32, Tryz.ntmps32
      go_wp2_with fail
      refine (HCR.out _).mono ?_
      rintro e w' ⟨rfl, rfl⟩
      go_wp2
      go_ret
      refine ⟨rfl, ?_⟩
      repeat (first | with_reducible exact Ext.refl _ | with_reducible assumption | with_reducible refine Ext.alloc ?_ _ | with_reducible refine Ext.drew ?_ | with_reducible refine Ext.drewN ?_ _ | with_reducible refine Ext.setCell ?_ (by simp <;> omega) _ | with_reducible refine Ext.trans ?_ (by assumption))
    have k1 : decide (P < 1) = false := by simpa using hP1
    by_cases hP4 : 4 < P
    · have hPm : mostOf V < P := by have := most_le V; omega
      rw [show ckC V 64 C P ups = 5 by rw [ckC, if_neg hVV, if_neg hW, if_neg hC, if_pos (.inr hPm)]]
      clear hV1 hVV hW hC hP1 hCt hCr hPm
      go_enter Tryz.func32, Tryz.ntmps32
      go_wp2_with fail
      refine (HCR.out _).mono ?_
      rintro e w' ⟨rfl, rfl⟩
      go_wp2
      go_ret
      refine ⟨rfl, ?_⟩
      repeat (first | with_reducible exact Ext.refl _ | with_reducible assumption | with_reducible refine Ext.alloc ?_ _ | with_reducible refine Ext.drew ?_ | with_reducible refine Ext.drewN ?_ _ | with_reducible refine Ext.setCell ?_ (by simp <;> omega) _ | with_reducible refine Ext.trans ?_ (by assumption))
    have k2 : decide (4 < P) = false := by simpa using hP4
    by_cases hVP : V = 1 ∧ ¬ P = 1
    · have hPm : mostOf V < P := by rw [hVP.1]; unfold mostOf; simp; omega
      rw [show ckC V 64 C P ups = 5 by rw [ckC, if_neg hVV, if_neg hW, if_neg hC, if_pos (.inr hPm)]]
      have k3 : (V == 1) = true := by simpa using hVP.1
      have k4 : (P == 1) = false := by simpa using hVP.2
      clear hV1 hVV hW hC hP1 hCt hCr hPm hVP
      go_enter Tryz.func32, Tryz.ntmps32
      go_wp2_with fail
      refine (HCR.out _).mono ?_
      rintro e w' ⟨rfl, rfl⟩
      go_wp2
      go_ret
      refine ⟨rfl, ?_⟩
      repeat (first | with_reducible exact Ext.refl _ | with_reducible assumption | with_reducible refine Ext.alloc ?_ _ | with_reducible refine Ext.drew ?_ | with_reducible refine Ext.drewN ?_ _ | with_reducible refine Ext.setCell ?_ (by simp <;> omega) _ | with_reducible refine Ext.trans ?_ (by assumption))
    have hPm : ¬ mostOf V < P := by unfold mostOf; split <;> omega
    have hPP : ¬ (P < 1 ∨ mostOf V < P) := by omega
    have eC : ckC V 64 C P ups = if chk ups ≠ 0 then chk ups else if (64 : Int) = 32 ∧ 2147483648 ≤ (P + 2) * C then 9 else if 64 < C then 10 else 0 := by rw [ckC, if_neg hVV, if_neg hW, if_neg hC, if_neg hPP]
    rw [eC]
    have hB := bound_le (by omega) (show P ≤ 4 by omega) hCr.1 hCr.2
    obtain ⟨T, hT⟩ : ∃ T, T = (P + 2) * C := ⟨_, rfl⟩
    rw [← hT] at hB ⊢
    have hmul : wrap64 ((P + 2) * C) = T := by rw [← hT]; unfold wrap64; omega
    have hadd : wrap64 (P + 2) = P + 2 := by unfold wrap64; omega
    generalize hval : (if chk ups ≠ 0 then chk ups else if (64 : Int) = 32 ∧ 2147483648 ≤ T then 9 else if 64 < C then 10 else 0) = val
    clear eC hPP hVV hW hC hPm hP1 hV1 hCt hT
    generalize chk ups = g at *
    have k5 : ∃ bV bP, (V == 1) = bV ∧ (P == 1) = bP ∧ (bV = true → bP = true) := ⟨_, _, rfl, rfl, fun h => by simp at h ⊢; omega⟩
    obtain ⟨bV, bP, k3, k4, k34⟩ := k5
    clear hVP hP4
    cases bV
    · clear k34
      by_cases hg : g = 0
      · have kg : (g == 0) = true := by simpa using hg
        rw [if_neg (by simpa using hg)] at hval
        rw [if_neg (by omega)] at hval
        by_cases h64 : 64 < C
        · rw [if_pos h64] at hval
          subst hval
          clear hg hB hCr
          go_enter Tryz.func32, Tryz.ntmps32
          go_wp2_with fail
          refine (HCR.out _).mono ?_
          rintro e w' ⟨rfl, rfl⟩
          go_wp2_with fail
          refine (CG.out _ (by repeat (first | with_reducible exact Ext.refl _ | with_reducible assumption | with_reducible refine Ext.alloc ?_ _ | with_reducible refine Ext.drew ?_ | with_reducible refine Ext.drewN ?_ _ | with_reducible refine Ext.setCell ?_ (by simp <;> omega) _ | with_reducible refine Ext.trans ?_ (by assumption)))).mono ?_
          rintro e w9 ⟨rfl, hb9⟩
          obtain ⟨hc9, hf9⟩ := hb9.cells
          clear hc9 hf9
          have qc_0 : w9.cell? ⟨w.heap.size, 0, none⟩ = some (.int .i64 V) := (hb9.cells.1 _ _ (by simp <;> omega)).trans (by simp [go_sem])
          have qc_1 : w9.cell? ⟨w.heap.size, 1, none⟩ = some (.int .i64 64) := (hb9.cells.1 _ _ (by simp <;> omega)).trans (by simp [go_sem])
          have qc_2 : w9.cell? ⟨w.heap.size, 2, none⟩ = some (.int .i64 C) := (hb9.cells.1 _ _ (by simp <;> omega)).trans (by simp [go_sem])
          have qc_3 : w9.cell? ⟨w.heap.size, 3, none⟩ = some (.int .i64 P) := (hb9.cells.1 _ _ (by simp <;> omega)).trans (by simp [go_sem])
          have qc_4 : w9.cell? ⟨w.heap.size, 4, none⟩ = some (.int .u64 (S)) := (hb9.cells.1 _ _ (by simp <;> omega)).trans (by simp [go_sem])
          have qc_5 : w9.cell? ⟨w.heap.size, 5, none⟩ = some (.slice a n cap) := (hb9.cells.1 _ _ (by simp <;> omega)).trans (by simp [go_sem])
          have pc := World.block_lt_of_cell? _ ⟨w.heap.size, 0, none⟩ qc_0
          have rc := Nat.lt_succ_of_lt pc
          go_wp2
          go_ret
          refine ⟨rfl, ?_⟩
          repeat (first | with_reducible exact Ext.refl _ | with_reducible assumption | with_reducible refine Ext.alloc ?_ _ | with_reducible refine Ext.drew ?_ | with_reducible refine Ext.drewN ?_ _ | with_reducible refine Ext.setCell ?_ (by simp <;> omega) _ | with_reducible refine Ext.trans ?_ (by assumption))
        · rw [if_neg h64] at hval
          subst hval
          have k8 : decide (64 < C) = false := by simpa using h64
          clear hg hB hCr
          go_enter Tryz.func32, Tryz.ntmps32
          go_wp2_with fail
          refine (HCR.out _).mono ?_
          rintro e w' ⟨rfl, rfl⟩
          go_wp2_with fail
          refine (CG.out _ (by repeat (first | with_reducible exact Ext.refl _ | with_reducible assumption | with_reducible refine Ext.alloc ?_ _ | with_reducible refine Ext.drew ?_ | with_reducible refine Ext.drewN ?_ _ | with_reducible refine Ext.setCell ?_ (by simp <;> omega) _ | with_reducible refine Ext.trans ?_ (by assumption)))).mono ?_
          rintro e w10 ⟨rfl, hb10⟩
          obtain ⟨hc10, hf10⟩ := hb10.cells
          clear hc10 hf10
          have qc_0 : w10.cell? ⟨w.heap.size, 0, none⟩ = some (.int .i64 V) := (hb10.cells.1 _ _ (by simp <;> omega)).trans (by simp [go_sem])
          have qc_1 : w10.cell? ⟨w.heap.size, 1, none⟩ = some (.int .i64 64) := (hb10.cells.1 _ _ (by simp <;> omega)).trans (by simp [go_sem])
          have qc_2 : w10.cell? ⟨w.heap.size, 2, none⟩ = some (.int .i64 C) := (hb10.cells.1 _ _ (by simp <;> omega)).trans (by simp [go_sem])
          have qc_3 : w10.cell? ⟨w.heap.size, 3, none⟩ = some (.int .i64 P) := (hb10.cells.1 _ _ (by simp <;> omega)).trans (by simp [go_sem])
          have qc_4 : w10.cell? ⟨w.heap.size, 4, none⟩ = some (.int .u64 (S)) := (hb10.cells.1 _ _ (by simp <;> omega)).trans (by simp [go_sem])
          have qc_5 : w10.cell? ⟨w.heap.size, 5, none⟩ = some (.slice a n cap) := (hb10.cells.1 _ _ (by simp <;> omega)).trans (by simp [go_sem])
          have pc := World.block_lt_of_cell? _ ⟨w.heap.size, 0, none⟩ qc_0
          have rc := Nat.lt_succ_of_lt pc
          go_wp2
          go_ret
          refine ⟨rfl, ?_⟩
          repeat (first | with_reducible exact Ext.refl _ | with_reducible assumption | with_reducible refine Ext.alloc ?_ _ | with_reducible refine Ext.drew ?_ | with_reducible refine Ext.drewN ?_ _ | with_reducible refine Ext.setCell ?_ (by simp <;> omega) _ | with_reducible refine Ext.trans ?_ (by assumption))
      · have kg : (g == 0) = false := by simpa using hg
        rw [if_pos hg] at hval
        subst hval
        clear hg hB hCr
        go_enter Tryz.func32, Tryz.ntmps32
        go_wp2_with fail
        refine (HCR.out _).mono ?_
        rintro e w' ⟨rfl, rfl⟩
        go_wp2_with fail
        refine (CG.out _ (by repeat (first | with_reducible exact Ext.refl _ | with_reducible assumption | with_reducible refine Ext.alloc ?_ _ | with_reducible refine Ext.drew ?_ | with_reducible refine Ext.drewN ?_ _ | with_reducible refine Ext.setCell ?_ (by simp <;> omega) _ | with_reducible refine Ext.trans ?_ (by assumption)))).mono ?_
        rintro e w11 ⟨rfl, hb11⟩
        obtain ⟨hc11, hf11⟩ := hb11.cells
        clear hc11 hf11
        have qc_0 : w11.cell? ⟨w.heap.size, 0, none⟩ = some (.int .i64 V) := (hb11.cells.1 _ _ (by simp <;> omega)).trans (by simp [go_sem])
        have qc_1 : w11.cell? ⟨w.heap.size, 1, none⟩ = some (.int .i64 64) := (hb11.cells.1 _ _ (by simp <;> omega)).trans (by simp [go_sem])
        have qc_2 : w11.cell? ⟨w.heap.size, 2, none⟩ = some (.int .i64 C) := (hb11.cells.1 _ _ (by simp <;> omega)).trans (by simp [go_sem])
        have qc_3 : w11.cell? ⟨w.heap.size, 3, none⟩ = some (.int .i64 P) := (hb11.cells.1 _ _ (by simp <;> omega)).trans (by simp [go_sem])
        have qc_4 : w11.cell? ⟨w.heap.size, 4, none⟩ = some (.int .u64 (S)) := (hb11.cells.1 _ _ (by simp <;> omega)).trans (by simp [go_sem])
        have qc_5 : w11.cell? ⟨w.heap.size, 5, none⟩ = some (.slice a n cap) := (hb11.cells.1 _ _ (by simp <;> omega)).trans (by simp [go_sem])
        have pc := World.block_lt_of_cell? _ ⟨w.heap.size, 0, none⟩ qc_0
        have rc := Nat.lt_succ_of_lt pc
        go_wp2
        go_ret
        refine ⟨rfl, ?_⟩
        repeat (first | with_reducible exact Ext.refl _ | with_reducible assumption | with_reducible refine Ext.alloc ?_ _ | with_reducible refine Ext.drew ?_ | with_reducible refine Ext.drewN ?_ _ | with_reducible refine Ext.setCell ?_ (by simp <;> omega) _ | with_reducible refine Ext.trans ?_ (by assumption))
    · obtain rfl := k34 rfl
      clear k34
      by_cases hg : g = 0
      · have kg : (g == 0) = true := by simpa using hg
        rw [if_neg (by simpa using hg)] at hval
        rw [if_neg (by omega)] at hval
        by_cases h64 : 64 < C
        · rw [if_pos h64] at hval
          subst hval
          clear hg hB hCr
          go_enter Tryz.func32, Tryz.ntmps32
          go_wp2_with fail
          refine (HCR.out _).mono ?_
          rintro e w' ⟨rfl, rfl⟩
          go_wp2_with fail
          refine (CG.out _ (by repeat (first | with_reducible exact Ext.refl _ | with_reducible assumption | with_reducible refine Ext.alloc ?_ _ | with_reducible refine Ext.drew ?_ | with_reducible refine Ext.drewN ?_ _ | with_reducible refine Ext.setCell ?_ (by simp <;> omega) _ | with_reducible refine Ext.trans ?_ (by assumption)))).mono ?_
          rintro e w12 ⟨rfl, hb12⟩
          obtain ⟨hc12, hf12⟩ := hb12.cells
          clear hc12 hf12
          have qc_0 : w12.cell? ⟨w.heap.size, 0, none⟩ = some (.int .i64 V) := (hb12.cells.1 _ _ (by simp <;> omega)).trans (by simp [go_sem])
          have qc_1 : w12.cell? ⟨w.heap.size, 1, none⟩ = some (.int .i64 64) := (hb12.cells.1 _ _ (by simp <;> omega)).trans (by simp [go_sem])
          have qc_2 : w12.cell? ⟨w.heap.size, 2, none⟩ = some (.int .i64 C) := (hb12.cells.1 _ _ (by simp <;> omega)).trans (by simp [go_sem])
          have qc_3 : w12.cell? ⟨w.heap.size, 3, none⟩ = some (.int .i64 P) := (hb12.cells.1 _ _ (by simp <;> omega)).trans (by simp [go_sem])
          have qc_4 : w12.cell? ⟨w.heap.size, 4, none⟩ = some (.int .u64 (S)) := (hb12.cells.1 _ _ (by simp <;> omega)).trans (by simp [go_sem])
          have qc_5 : w12.cell? ⟨w.heap.size, 5, none⟩ = some (.slice a n cap) := (hb12.cells.1 _ _ (by simp <;> omega)).trans (by simp [go_sem])
          have pc := World.block_lt_of_cell? _ ⟨w.heap.size, 0, none⟩ qc_0
          have rc := Nat.lt_succ_of_lt pc
          go_wp2
          go_ret
          refine ⟨rfl, ?_⟩
          repeat (first | with_reducible exact Ext.refl _ | with_reducible assumption | with_reducible refine Ext.alloc ?_ _ | with_reducible refine Ext.drew ?_ | with_reducible refine Ext.drewN ?_ _ | with_reducible refine Ext.setCell ?_ (by simp <;> omega) _ | with_reducible refine Ext.trans ?_ (by assumption))
        · rw [if_neg h64] at hval
          subst hval
          have k8 : decide (64 < C) = false := by simpa using h64
          clear hg hB hCr
          go_enter Tryz.func32, Tryz.ntmps32
          go_wp2_with fail
          refine (HCR.out _).mono ?_
          rintro e w' ⟨rfl, rfl⟩
          go_wp2_with fail
          refine (CG.out _ (by repeat (first | with_reducible exact Ext.refl _ | with_reducible assumption | with_reducible refine Ext.alloc ?_ _ | with_reducible refine Ext.drew ?_ | with_reducible refine Ext.drewN ?_ _ | with_reducible refine Ext.setCell ?_ (by simp <;> omega) _ | with_reducible refine Ext.trans ?_ (by assumption)))).mono ?_
          rintro e w13 ⟨rfl, hb13⟩
          obtain ⟨hc13, hf13⟩ := hb13.cells
          clear hc13 hf13
          have qc_0 : w13.cell? ⟨w.heap.size, 0, none⟩ = some (.int .i64 V) := (hb13.cells.1 _ _ (by simp <;> omega)).trans (by simp [go_sem])
          have qc_1 : w13.cell? ⟨w.heap.size, 1, none⟩ = some (.int .i64 64) := (hb13.cells.1 _ _ (by simp <;> omega)).trans (by simp [go_sem])
          have qc_2 : w13.cell? ⟨w.heap.size, 2, none⟩ = some (.int .i64 C) := (hb13.cells.1 _ _ (by simp <;> omega)).trans (by simp [go_sem])
          have qc_3 : w13.cell? ⟨w.heap.size, 3, none⟩ = some (.int .i64 P) := (hb13.cells.1 _ _ (by simp <;> omega)).trans (by simp [go_sem])
          have qc_4 : w13.cell? ⟨w.heap.size, 4, none⟩ = some (.int .u64 (S)) := (hb13.cells.1 _ _ (by simp <;> omega)).trans (by simp [go_sem])
          have qc_5 : w13.cell? ⟨w.heap.size, 5, none⟩ = some (.slice a n cap) := (hb13.cells.1 _ _ (by simp <;> omega)).trans (by simp [go_sem])
          have pc := World.block_lt_of_cell? _ ⟨w.heap.size, 0, none⟩ qc_0
          have rc := Nat.lt_succ_of_lt pc
          go_wp2
          go_ret
          refine ⟨rfl, ?_⟩
          repeat (first | with_reducible exact Ext.refl _ | with_reducible assumption | with_reducible refine Ext.alloc ?_ _ | with_reducible refine Ext.drew ?_ | with_reducible refine Ext.drewN ?_ _ | with_reducible refine Ext.setCell ?_ (by simp <;> omega) _ | with_reducible refine Ext.trans ?_ (by assumption))
      · have kg : (g == 0) = false := by simpa using hg
        rw [if_pos hg] at hval
        subst hval
        clear hg hB hCr
        go_enter Tryz.func32, Tryz.ntmps32
        go_wp2_with fail
        refine (HCR.out _).mono ?_
        rintro e w' ⟨rfl, rfl⟩
        go_wp2_with fail
        refine (CG.out _ (by repeat (first | with_reducible exact Ext.refl _ | with_reducible assumption | with_reducible refine Ext.alloc ?_ _ | with_reducible refine Ext.drew ?_ | with_reducible refine Ext.drewN ?_ _ | with_reducible refine Ext.setCell ?_ (by simp <;> omega) _ | with_reducible refine Ext.trans ?_ (by assumption)))).mono ?_
        rintro e w14 ⟨rfl, hb14⟩
        obtain ⟨hc14, hf14⟩ := hb14.cells
        clear hc14 hf14
        have qc_0 : w14.cell? ⟨w.heap.size, 0, none⟩ = some (.int .i64 V) := (hb14.cells.1 _ _ (by simp <;> omega)).trans (by simp [go_sem])
        have qc_1 : w14.cell? ⟨w.heap.size, 1, none⟩ = some (.int .i64 64) := (hb14.cells.1 _ _ (by simp <;> omega)).trans (by simp [go_sem])
        have qc_2 : w14.cell? ⟨w.heap.size, 2, none⟩ = some (.int .i64 C) := (hb14.cells.1 _ _ (by simp <;> omega)).trans (by simp [go_sem])
        have qc_3 : w14.cell? ⟨w.heap.size, 3, none⟩ = some (.int .i64 P) := (hb14.cells.1 _ _ (by simp <;> omega)).trans (by simp [go_sem])
        have qc_4 : w14.cell? ⟨w.heap.size, 4, none⟩ = some (.int .u64 (S)) := (hb14.cells.1 _ _ (by simp <;> omega)).trans (by simp [go_sem])
        have qc_5 : w14.cell? ⟨w.heap.size, 5, none⟩ = some (.slice a n cap) := (hb14.cells.1 _ _ (by simp <;> omega)).trans (by simp [go_sem])
        have pc := World.block_lt_of_cell? _ ⟨w.heap.size, 0, none⟩ qc_0
        have rc := Nat.lt_succ_of_lt pc
        go_wp2
        go_ret
        refine ⟨rfl, ?_⟩
        repeat (first | with_reducible exact Ext.refl _ | with_reducible assumption | with_reducible refine Ext.alloc ?_ _ | with_reducible refine Ext.drew ?_ | with_reducible refine Ext.drewN ?_ _ | with_reducible refine Ext.setCell ?_ (by simp <;> omega) _ | with_reducible refine Ext.trans ?_ (by assumption))
theorem r10Right (V W C P S : Int) (u : Value) (ups : List (List Int)) (w : World) (hL : ListsV w u ups) (hll : ∀ l ∈ ups, l.length ≤ 1000000) (hn : ups.length ≤ 1000000) :
    Calls Tryz.prog 7 #[(.agg #[.int .i64 V, .int .i64 W, .int .i64 C, .int .i64 P, .int .u64 (S), u])] w fun e w' => e = .returned (.bool (ckC V W C P ups == 0)) ∧ Ext w w' := by
  obtain ⟨a, cap, e, -⟩ := id hL
  subst e
  have CG := Lib.hid (fun w' (hx : Ext w w') => r10Chk V W C P S _ ups w' (hL.ext hx) hll hn)
  clear hL hll
  generalize ups.length = n at *
  generalize ckC V W C P ups = g at *
  go_enter Tryz.func7, Tryz.ntmps7
  go_wp2_with fail
  refine (CG.out _ (by repeat (first | with_reducible exact Ext.refl _ | with_reducible assumption | with_reducible refine Ext.alloc ?_ _ | with_reducible refine Ext.drew ?_ | with_reducible refine Ext.drewN ?_ _ | with_reducible refine Ext.setCell ?_ (by simp <;> omega) _ | with_reducible refine Ext.trans ?_ (by assumption)))).mono ?_
  rintro e w1 ⟨rfl, hb1⟩
  obtain ⟨hc1, hf1⟩ := hb1.cells
  go_wp2
  go_ret
  refine ⟨rfl, ?_⟩
  repeat (first | with_reducible exact Ext.refl _ | with_reducible assumption | with_reducible refine Ext.alloc ?_ _ | with_reducible refine Ext.drew ?_ | with_reducible refine Ext.drewN ?_ _ | with_reducible refine Ext.setCell ?_ (by simp <;> omega) _ | with_reducible refine Ext.trans ?_ (by assumption))
end Go.Proofs.YtaimmpcijdpgdabGreatDoor
/- Two lists, and two graphs, the same? (the document's Same and Graphs; slices.Equal, EqualFunc) -/
namespace Go.Proofs.YtaimmpcijdpgdabGreatDoor
open Go.RowKit
set_option linter.unusedVariables false
set_option maxHeartbeats 1000000
attribute [local go_sem] later_cell later_frozen later_const
theorem take_same {α : Type} {xs ys : List α} {k : Nat} (d : α) (h : xs.take k = ys.take k) (hx : k < xs.length) (hy : k < ys.length) (e : xs.getD k d = ys.getD k d) : xs.take (k + 1) = ys.take (k + 1) := by
  rw [List.take_succ_eq_append_getElem hx, List.take_succ_eq_append_getElem hy, h]
  rw [show xs.getD k d = xs[k] by simp [hx], show ys.getD k d = ys[k] by simp [hy]] at e
  rw [e]
theorem take_all {α : Type} {xs ys : List α} {k : Nat} (h : xs.take k = ys.take k) (hx : xs.length ≤ k) (hy : ys.length ≤ k) : xs = ys := by
  rwa [List.take_of_length_le hx, List.take_of_length_le hy] at h
theorem same5_is (a b : Value) (xs ys : List Int) (w : World) (h1 : IntsV w a xs) (h2 : IntsV w b ys) (hl : xs.length ≤ 1000000) (hl2 : ys.length ≤ 1000000) :
    Calls Tryz.prog 106 #[a, b] w fun e w' => e = .returned (.bool (decide (xs = ys))) ∧ Ext w w' := by
  obtain ⟨a1, c1, rfl, f1⟩ := h1.form
  obtain ⟨a2, c2, rfl, f2⟩ := h2.form
  have H1 := Lib.hid f1
  have H2 := Lib.hid f2
  obtain ⟨n, hn⟩ : ∃ n, n = xs.length := ⟨_, rfl⟩
  obtain ⟨m, hm⟩ : ∃ m, m = ys.length := ⟨_, rfl⟩
  rw [← hn, ← hm]
  rw [← hn] at hl
  rw [← hm] at hl2
  clear f1 f2 h1 h2
  by_cases hnm : n = m
  · subst hnm
    have HN := Lib.hid hn
    have HM := Lib.hid hm
    clear hn hm
    generalize hv : decide (xs = ys) = v
    have HV := Lib.hid hv
    clear hv
    go_enter Tryz.func106, Tryz.ntmps106
    go_wp2
    go_loopw [5] (fun i wr => ∃ k : Nat, k ≤ n ∧ i = .int .i64 k ∧ Ext w wr ∧ Hid (xs.take k = ys.take k)) (fun i _ => n - (intOf i).toNat)
    case atStart => exact ⟨0, Nat.zero_le _, rfl, Ext.refl _, Lib.hid rfl⟩
    case round =>
      obtain ⟨k, hk, rfl, hx, HT⟩ := hrel
      by_cases hlt : k < n
      · have hkx : k < xs.length := by have := HN.out; omega
        have hky : k < ys.length := by have := HM.out; omega
        obtain ⟨b1, o1, e1, q1⟩ := H1.out k hkx
        obtain ⟨b2, o2, e2, q2⟩ := H2.out k hky
        subst e1
        subst e2
        have d1 := hx.cell q1
        have d2 := hx.cell q2
        have hkn : (k : Int) < (n : Int) := by omega
        have HTS := Lib.hid (fun e => take_same (0 : Int) HT.out hkx hky e)
        by_cases hz : xs.getD k 0 = ys.getD k 0
        · have HT2 := Lib.hid (HTS.out hz)
          rw [← hz] at d2
          clear q1 q2 HTS hz HT hkx hky
          generalize xs.getD k 0 = z at *
          go_wp2
          refine wp_region_later (by kernel_rfl) (by kernel_rfl) ?_
          have l1 := fun (g : Later wr) => g.ok.cell d1
          have l2 := fun (g : Later wr) => g.ok.cell d2
          repeat (go_big_quiet_step ((fail)))
          refine wpQuiet_nil ?_
          intro w6 hl6
          have X6 := laters_ext hl6
          clear hl6 l1 l2
          go_wp2
          exact ⟨⟨k + 1, by omega, by go_num, hx.trans X6, HT2⟩, by simp [intOf]; omega⟩
        · have HVV : Hid (false = v) := Lib.hid (by
            rw [← HV.out]
            symm
            rw [decide_eq_false_iff_not]
            intro e
            exact hz (by rw [e]))
          have kz : (xs.getD k 0 != ys.getD k 0) = true := by simpa using hz
          clear q1 q2 HTS hz HT hkx hky
          generalize xs.getD k 0 = z at *
          generalize ys.getD k 0 = z' at *
          go_wp2
          refine wp_region_later (by kernel_rfl) (by kernel_rfl) ?_
          have l1 := fun (g : Later wr) => g.ok.cell d1
          have l2 := fun (g : Later wr) => g.ok.cell d2
          repeat (go_big_quiet_step ((fail)))
          refine wpQuiet_nil ?_
          intro w6 hl6
          have X6 := laters_ext hl6
          clear hl6 l1 l2
          go_wp2
          go_ret
          exact ⟨congrArg (fun x => Ending.returned (Value.bool x)) HVV.out, hx.trans X6⟩
      · have HVV : Hid (true = v) := Lib.hid (by
          rw [← HV.out]
          symm
          rw [decide_eq_true_eq]
          exact take_all HT.out (by have := HN.out; omega) (by have := HM.out; omega))
        clear HT
        go_wp2
        go_ret
        exact ⟨congrArg (fun x => Ending.returned (Value.bool x)) HVV.out, hx⟩
  · have e : decide (xs = ys) = false := by
      rw [decide_eq_false_iff_not]
      intro e
      rw [e] at hn
      omega
    rw [e]
    have k : ((n : Int) != (m : Int)) = true := by simp; omega
    clear hn hm e hnm
    go_enter Tryz.func106, Tryz.ntmps106
    go_wp2
    go_ret
    exact ⟨rfl, Ext.refl _⟩
theorem rGraphs_is (a b : Value) (xs ys : List (List Int)) (w : World) (h1 : ListsV w a xs) (h2 : ListsV w b ys) (hl : xs.length ≤ 1000000) (hl2 : ys.length ≤ 1000000) (k1 : ∀ l ∈ xs, l.length ≤ 1000000) (k2 : ∀ l ∈ ys, l.length ≤ 1000000) :
    Calls Tryz.prog 69 #[a, b] w fun e w' => e = .returned (.bool (decide (xs = ys))) ∧ Ext w w' := by
  obtain ⟨a1, c1, e, -⟩ := id h1
  subst e
  obtain ⟨a2, c2, e, -⟩ := id h2
  subst e
  have H1 := Lib.hid h1
  have H2 := Lib.hid h2
  have K1 := Lib.hid k1
  have K2 := Lib.hid k2
  obtain ⟨n, hn⟩ : ∃ n, n = xs.length := ⟨_, rfl⟩
  obtain ⟨m, hm⟩ : ∃ m, m = ys.length := ⟨_, rfl⟩
  rw [← hn, ← hm]
  rw [← hn] at hl
  rw [← hm] at hl2
  clear h1 h2 k1 k2
  by_cases hnm : n = m
  · subst hnm
    have HN := Lib.hid hn
    have HM := Lib.hid hm
    clear hn hm
    generalize hv : decide (xs = ys) = v
    have HV := Lib.hid hv
    clear hv
    go_enter Tryz.func69, Tryz.ntmps69
    go_wp2
    go_loopw [5] (fun i wr => ∃ k : Nat, k ≤ n ∧ i = .int .i64 k ∧ Ext w wr ∧ Hid (xs.take k = ys.take k)) (fun i _ => n - (intOf i).toNat)
    case atStart => exact ⟨0, Nat.zero_le _, rfl, Ext.refl _, Lib.hid rfl⟩
    case round =>
      obtain ⟨k, hk, rfl, hx, HT⟩ := hrel
      by_cases hlt : k < n
      · have hkx : k < xs.length := by have := HN.out; omega
        have hky : k < ys.length := by have := HM.out; omega
        obtain ⟨b1, o1, u1, cu1, e1, d1, i1⟩ := H1.out.at hx hkx
        obtain ⟨b2, o2, u2, cu2, e2, d2, i2⟩ := H2.out.at hx hky
        subst e1
        subst e2
        have hkn : (k : Int) < (n : Int) := by omega
        have HTS := Lib.hid (fun e => take_same ([] : List Int) HT.out hkx hky e)
        have CE := fun (g : Later wr) => same5_is _ _ _ _ g.world (i1.ext g.ok) (i2.ext g.ok) (K1.out _ (by rw [show xs.getD k [] = xs[k] by simp [hkx]]; exact List.getElem_mem hkx)) (K2.out _ (by rw [show ys.getD k [] = ys[k] by simp [hky]]; exact List.getElem_mem hky))
        by_cases hz : xs.getD k [] = ys.getD k []
        · have HT2 := Lib.hid (HTS.out hz)
          rw [decide_eq_true hz] at CE
          have HCE := Lib.hid CE
          clear CE i1 i2 HTS hz HT hkx hky
          generalize (xs.getD k []).length = z at *
          generalize (ys.getD k []).length = z' at *
          go_wp2
          refine wp_region_later (by kernel_rfl) (by kernel_rfl) ?_
          have l1 := fun (g : Later wr) => g.ok.cell d1
          have l2 := fun (g : Later wr) => g.ok.cell d2
          repeat (go_big_quiet_step ((fail)))
          go_big_quiet_step ((go_at_call 106; exact laterC (HCE.out _)))
          repeat (go_big_quiet_step ((fail)))
          refine wpQuiet_nil ?_
          intro w6 hl6
          have X6 := laters_ext hl6
          clear hl6 l1 l2
          go_wp2
          exact ⟨⟨k + 1, by omega, by go_num, hx.trans X6, HT2⟩, by simp [intOf]; omega⟩
        · have HVV : Hid (false = v) := Lib.hid (by
            rw [← HV.out]
            symm
            rw [decide_eq_false_iff_not]
            intro e
            exact hz (by rw [e]))
          rw [decide_eq_false hz] at CE
          have HCE := Lib.hid CE
          clear CE i1 i2 HTS hz HT hkx hky
          generalize (xs.getD k []).length = z at *
          generalize (ys.getD k []).length = z' at *
          go_wp2
          refine wp_region_later (by kernel_rfl) (by kernel_rfl) ?_
          have l1 := fun (g : Later wr) => g.ok.cell d1
          have l2 := fun (g : Later wr) => g.ok.cell d2
          repeat (go_big_quiet_step ((fail)))
          go_big_quiet_step ((go_at_call 106; exact laterC (HCE.out _)))
          repeat (go_big_quiet_step ((fail)))
          refine wpQuiet_nil ?_
          intro w6 hl6
          have X6 := laters_ext hl6
          clear hl6 l1 l2
          go_wp2
          go_ret
          exact ⟨congrArg (fun x => Ending.returned (Value.bool x)) HVV.out, hx.trans X6⟩
      · have HVV : Hid (true = v) := Lib.hid (by
          rw [← HV.out]
          symm
          rw [decide_eq_true_eq]
          exact take_all HT.out (by have := HN.out; omega) (by have := HM.out; omega))
        clear HT
        go_wp2
        go_ret
        exact ⟨congrArg (fun x => Ending.returned (Value.bool x)) HVV.out, hx⟩
  · have e : decide (xs = ys) = false := by
      rw [decide_eq_false_iff_not]
      intro e
      rw [e] at hn
      omega
    rw [e]
    have k : ((n : Int) != (m : Int)) = true := by simp; omega
    clear hn hm e hnm
    go_enter Tryz.func69, Tryz.ntmps69
    go_wp2
    go_ret
    exact ⟨rfl, Ext.refl _⟩
end Go.Proofs.YtaimmpcijdpgdabGreatDoor
/- conf.Alike, and the document's Alike and Same. -/
namespace Go.Proofs.YtaimmpcijdpgdabGreatDoor
open Go.RowKit
set_option linter.unusedVariables false
set_option maxHeartbeats 1000000
attribute [local go_sem] later_cell later_frozen later_const
def alikeB (C P S C' P' S' : Int) (xs ys : List (List Int)) : Bool := decide (C = C') && decide (P = P') && decide (S % 4294967296 = S' % 4294967296) && decide (xs = ys)
set_option maxRecDepth 100000 in
theorem alike_mod (S S' : Int) : (U64 (S - S') % 4294967296 == 0) = decide (S % 4294967296 = S' % 4294967296) := by
  rw [U64_mod, Bool.eq_iff_iff, beq_iff_eq, decide_eq_true_eq]
  omega
theorem rSame (V W C P S : Int) (u u' : Value) (xs : List (List Int)) (w : World) (h1 : ListsV w u xs) (h2 : ListsV w u' xs) (hl : xs.length ≤ 1000000) (k1 : ∀ l ∈ xs, l.length ≤ 1000000) :
    Calls Tryz.prog 21 #[(.agg #[.int .i64 V, .int .i64 W, .int .i64 C, .int .i64 P, .int .u64 (S), u]), (.agg #[.int .i64 V, .int .i64 W, .int .i64 C, .int .i64 P, .int .u64 (S), u'])] w fun e w' => e = .returned (.bool true) ∧ Ext w w' := by
  obtain ⟨a1, c1, e, -⟩ := id h1
  subst e
  obtain ⟨a2, c2, e, -⟩ := id h2
  subst e
  have CE := Lib.hid (fun w' (hx : Ext w w') => rGraphs_is _ _ xs xs w' (h1.ext hx) (h2.ext hx) hl hl k1 k1)
  rw [decide_eq_true rfl] at CE
  clear h1 h2 k1
  generalize xs.length = n at *
  go_enter Tryz.func21, Tryz.ntmps21
  go_wp2_with fail
  refine (CE.out _ (by repeat (first | with_reducible exact Ext.refl _ | with_reducible assumption | with_reducible refine Ext.alloc ?_ _ | with_reducible refine Ext.drew ?_ | with_reducible refine Ext.drewN ?_ _ | with_reducible refine Ext.setCell ?_ (by simp <;> omega) _ | with_reducible refine Ext.trans ?_ (by assumption)))).mono ?_
  rintro e w1 ⟨rfl, hb1⟩
  obtain ⟨hc1, hf1⟩ := hb1.cells
  go_wp2
  go_ret
  refine ⟨rfl, ?_⟩
  repeat (first | with_reducible exact Ext.refl _ | with_reducible assumption | with_reducible refine Ext.alloc ?_ _ | with_reducible refine Ext.drew ?_ | with_reducible refine Ext.drewN ?_ _ | with_reducible refine Ext.setCell ?_ (by simp <;> omega) _ | with_reducible refine Ext.trans ?_ (by assumption))
end Go.Proofs.YtaimmpcijdpgdabGreatDoor
/- A region that draws its order, taken in one order: what only computes is taken first, a call that makes memory narrows the class of worlds. No program in sight. -/
namespace Go.Proofs.YtaimmpcijdpgdabGreatDoor
open Go.RowKit
set_option linter.unusedVariables false
/-- a narrower class serves -/
theorem wpAnyH_strong {P : Program} {md : Region.Mode} {ops : Array Oper} {Q : Exit → Act → World → Prop} {S S' : World → Prop} (hs : ∀ w, S' w → S w) : ∀ (fuel : Nat) (listed : Array Bool) (a : Act) (w : World), wpAnyH P md ops Q S' fuel listed a w → wpAnyH P md ops Q S fuel listed a w
  | 0, _, _, _, h => h
  | fuel + 1, _, _, _, h => ⟨h.1, fun i hi => wpOp_mono (fun a' w' h' => ⟨hs _ h'.1, wpAnyH_strong hs fuel _ a' w' h'.2⟩) (h.2 i hi)⟩
theorem at_drop {ops : Array Oper} {i : Nat} {oi : Oper} {rest : List Oper} (h : ops.toList.drop i = oi :: rest) : ops[i]? = some oi := by
  have : (ops.toList.drop i)[0]? = some oi := by rw [h]; rfl
  rw [List.getElem?_drop] at this
  simpa using this
/-- what only computes is taken first; the frame laid out -/
theorem take_at {P : Program} {md : Region.Mode} {ops : Array Oper} {Q : Exit → Act → World → Prop} {S : World → Prop} {i : Nat} {oi : Oper} {d : Nat} {v : Value} {fuel : Nat} {listed : Array Bool} {ts : Array Value} {ds : List Deferred} {w : World} {rest : List Oper} (hi0 : ops.toList.drop i = oi :: rest) (hd : oi.dst = some d)
    (hs : Region.noSelect ops = true) (hf : Region.free md ops listed i = true) (hr : (Region.ready md ops listed).contains i = true)
    (hQ : ∀ c a w, Q (.panic c) (a.put oi.dst v) w → Q (.panic c) a w) (hy : YieldsIf P ops S oi v ⟨ts, ds⟩) (hS : S w)
    (h : wpAnyH P md ops Q S fuel (listed.setIfInBounds i true) ⟨ts.setIfInBounds d v, ds⟩ w) : wpAnyH P md ops Q S (fuel + 1) listed ⟨ts, ds⟩ w := by
  have hi := at_drop hi0
  refine wpAnyH_take (v := v) hi hs hf hr hQ hy hS ?_
  rw [hd]
  exact h
/-- a call, met by its contract; S' is the class of worlds from here on -/
theorem call_at {P : Program} {md : Region.Mode} {ops : Array Oper} {Q : Exit → Act → World → Prop} {S : World → Prop} {i : Nat} {oi : Oper} {d : Nat} {fuel : Nat} {listed : Array Bool} {ts : Array Value} {ds : List Deferred} {w : World} {F : FuncId} {vals : Array Value} {R : Ending → World → Prop} (C : Calls P F vals w R)
    {rest : List Oper} (hi0 : ops.toList.drop i = oi :: rest) (hd : oi.dst = some d) (hr : Region.ready md ops listed = [i]) (hw : Region.wanted oi (yielded ops ts) = true)
    (hx : (execOp (Act.eval ⟨ts, ds⟩) oi).run P w = .ok (.enter F vals) w)
    (h : ∀ e w', R e w' → ∃ v, e = .returned v ∧ S w' ∧ wpAnyH P md ops Q S fuel (listed.setIfInBounds i true) ⟨ts.setIfInBounds d v, ds⟩ w') : wpAnyH P md ops Q S (fuel + 1) listed ⟨ts, ds⟩ w := by
  have hi := at_drop hi0
  refine wpAnyH_all hr (by simp) ?_
  intro j hj
  obtain rfl : j = i := by simpa using hj
  unfold wpOp
  simp only [hi, hw, if_true]
  left
  unfold Oper.wp
  rw [hx]
  show Calls P F vals w _
  refine C.mono ?_
  intro e w' hR
  obtain ⟨v, rfl, hS, hrest⟩ := h e w' hR
  show S w' ∧ wpAnyH P md ops Q S fuel (listed.setIfInBounds j true) (Act.put ⟨ts, ds⟩ oi.dst v) w'
  rw [hd]
  exact ⟨hS, hrest⟩
end Go.Proofs.YtaimmpcijdpgdabGreatDoor

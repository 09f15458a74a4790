import Derived.Test.YtaimmpcijdpgdabGreatDoorCf
import Derived.Test.YtaimmpcijdpgdabGreatDoorExt
import Derived.Deep.RegionHeld
import Derived.Test.YtaimmpcijdpgdabGreatDoorJA
import Derived.Test.YtaimmpcijdpgdabGreatDoorJD
/- The document's Check of layer 10. -/
namespace Go.Proofs.YtaimmpcijdpgdabGreatDoor
open Go.RowKit
set_option linter.unusedVariables false
set_option maxHeartbeats 1000000
attribute [local go_sem] later_cell later_frozen later_const
theorem r10Chk (V W C P S : Int) (u : Value) (ups : List (List Int)) (w : World) (hL : ListsV w u ups) (hll : ∀ l ∈ ups, l.length ≤ 1000000) (hn : ups.length ≤ 1000000) :
    Calls Tryz.prog 32 #[(.agg #[.int .i64 V, .int .i64 W, .int .i64 C, .int .i64 P, .int .u64 (S), u])] w fun e w' => e = .returned (.int .i64 (ckC V W C P ups)) ∧ Ext w w' := by
  obtain ⟨a, cap, e, -⟩ := id hL
  subst e
  have CG := Lib.hid (fun w' (hx : Ext w w') => rChk9 _ ups w' (hL.ext hx) hll hn)
  clear hL hll
  generalize ups.length = n at *
  by_cases hV1 : V < 1
  · rw [show ckC V W C P ups = 2 by simp [ckC, hV1]]
    have d : decide (V < 1) = true := by simpa using hV1
    clear hV1
    go_enter Tryz.func32, Tryz.ntmps32
    go_wp2
    go_ret
    refine ⟨rfl, ?_⟩
    repeat (first | with_reducible exact Ext.refl _ | with_reducible assumption | with_reducible refine Ext.alloc ?_ _ | with_reducible refine Ext.drew ?_ | with_reducible refine Ext.drewN ?_ _ | with_reducible refine Ext.setCell ?_ (by simp <;> omega) _ | with_reducible refine Ext.trans ?_ (by assumption))
  have d1 : decide (V < 1) = false := by simpa using hV1
  by_cases hV5 : 5 < V
  · rw [show ckC V W C P ups = 2 by simp [ckC, hV5]]
    clear hV1
    go_enter Tryz.func32, Tryz.ntmps32
    go_wp2
    go_ret
    refine ⟨rfl, ?_⟩
    repeat (first | with_reducible exact Ext.refl _ | with_reducible assumption | with_reducible refine Ext.alloc ?_ _ | with_reducible refine Ext.drew ?_ | with_reducible refine Ext.drewN ?_ _ | with_reducible refine Ext.setCell ?_ (by simp <;> omega) _ | with_reducible refine Ext.trans ?_ (by assumption))
  have hVV : ¬ (V < 1 ∨ 5 < V) := by omega
  by_cases hW : ¬ (W = 32 ∨ W = 64)
  · rw [show ckC V W C P ups = 3 by rw [ckC, if_neg hVV, if_pos hW]]
    have k1 : (W != 32) = true := by simp; omega
    have k2 : (W != 64) = true := by simp; omega
    clear hV1 hVV hW
    go_enter Tryz.func32, Tryz.ntmps32
    go_wp2
    go_ret
    refine ⟨rfl, ?_⟩
    repeat (first | with_reducible exact Ext.refl _ | with_reducible assumption | with_reducible refine Ext.alloc ?_ _ | with_reducible refine Ext.drew ?_ | with_reducible refine Ext.drewN ?_ _ | with_reducible refine Ext.setCell ?_ (by simp <;> omega) _ | with_reducible refine Ext.trans ?_ (by assumption))
  have hW2 : W = 32 ∨ W = 64 := by omega
  rcases hW2 with rfl | rfl
  · clear hW
    have hW : ¬ ¬ ((32 : Int) = 32 ∨ (32 : Int) = 64) := by omega
    by_cases hC : rightB C = false
    · rw [show ckC V 32 C P ups = 4 by rw [ckC, if_neg hVV, if_neg hW, if_pos hC]]
      have CR := fun w => r2Right C w
      rw [hC] at CR
      have HCR := Lib.hid CR
      clear hV1 hVV hW CR hC
      go_enter Tryz.func32, Tryz.ntmps32
      go_wp2_with fail
      refine (HCR.out _).mono ?_
      rintro e w' ⟨rfl, rfl⟩
      go_wp2
      go_ret
      refine ⟨rfl, ?_⟩
      repeat (first | with_reducible exact Ext.refl _ | with_reducible assumption | with_reducible refine Ext.alloc ?_ _ | with_reducible refine Ext.drew ?_ | with_reducible refine Ext.drewN ?_ _ | with_reducible refine Ext.setCell ?_ (by simp <;> omega) _ | with_reducible refine Ext.trans ?_ (by assumption))
    have hCt : rightB C = true := by cases h : rightB C <;> simp_all
    have hCr := right_range hCt
    have CR := fun w => r2Right C w
    rw [hCt] at CR
    have HCR := Lib.hid CR
    clear CR
    by_cases hP1 : P < 1
    · rw [show ckC V 32 C P ups = 5 by rw [ckC, if_neg hVV, if_neg hW, if_neg hC, if_pos (.inl hP1)]]
      have k1 : decide (P < 1) = true := by simpa using hP1
      clear hV1 hVV hW hC hP1 hCt hCr
      go_enter Tryz.func32, Tryz.ntmps32
      go_wp2_with fail
      refine (HCR.out _).mono ?_
      rintro e w' ⟨rfl, rfl⟩
      go_wp2
      go_ret
      refine ⟨rfl, ?_⟩
      repeat (first | with_reducible exact Ext.refl _ | with_reducible assumption | with_reducible refine Ext.alloc ?_ _ | with_reducible refine Ext.drew ?_ | with_reducible refine Ext.drewN ?_ _ | with_reducible refine Ext.setCell ?_ (by simp <;> omega) _ | with_reducible refine Ext.trans ?_ (by assumption))
    have k1 : decide (P < 1) = false := by simpa using hP1
    by_cases hP4 : 4 < P
    · have hPm : mostOf V < P := by have := most_le V; omega
      rw [show ckC V 32 C P ups = 5 by rw [ckC, if_neg hVV, if_neg hW, if_neg hC, if_pos (.inr hPm)]]
      clear hV1 hVV hW hC hP1 hCt hCr hPm
      go_enter Tryz.func32, Tryz.ntmps32
      go_wp2_with fail
      refine (HCR.out _).mono ?_
      rintro e w' ⟨rfl, rfl⟩
      go_wp2
      go_ret
      refine ⟨rfl, ?_⟩
      repeat (first | with_reducible exact Ext.refl _ | with_reducible assumption | with_reducible refine Ext.alloc ?_ _ | with_reducible refine Ext.drew ?_ | with_reducible refine Ext.drewN ?_ _ | with_reducible refine Ext.setCell ?_ (by simp <;> omega) _ | with_reducible refine Ext.trans ?_ (by assumption))
    have k2 : decide (4 < P) = false := by simpa using hP4
    by_cases hVP : V = 1 ∧ ¬ P = 1
    · have hPm : mostOf V < P := by rw [hVP.1]; unfold mostOf; simp; omega
      rw [show ckC V 32 C P ups = 5 by rw [ckC, if_neg hVV, if_neg hW, if_neg hC, if_pos (.inr hPm)]]
      have k3 : (V == 1) = true := by simpa using hVP.1
      have k4 : (P == 1) = false := by simpa using hVP.2
      clear hV1 hVV hW hC hP1 hCt hCr hPm hVP
      go_enter Tryz.func32, Tryz.ntmps32
      go_wp2_with fail
      refine (HCR.out _).mono ?_
      rintro e w' ⟨rfl, rfl⟩
      go_wp2
      go_ret
      refine ⟨rfl, ?_⟩
      repeat (first | with_reducible exact Ext.refl _ | with_reducible assumption | with_reducible refine Ext.alloc ?_ _ | with_reducible refine Ext.drew ?_ | with_reducible refine Ext.drewN ?_ _ | with_reducible refine Ext.setCell ?_ (by simp <;> omega) _ | with_reducible refine Ext.trans ?_ (by assumption))
    have hPm : ¬ mostOf V < P := by unfold mostOf; split <;> omega
    have hPP : ¬ (P < 1 ∨ mostOf V < P) := by omega
    have eC : ckC V 32 C P ups = if chk ups ≠ 0 then chk ups else if (32 : Int) = 32 ∧ 2147483648 ≤ (P + 2) * C then 9 else if 64 < C then 10 else 0 := by rw [ckC, if_neg hVV, if_neg hW, if_neg hC, if_neg hPP]
    rw [eC]
    have hB := bound_le (by omega) (show P ≤ 4 by omega) hCr.1 hCr.2
    obtain ⟨T, hT⟩ : ∃ T, T = (P + 2) * C := ⟨_, rfl⟩
    rw [← hT] at hB ⊢
    have hmul : wrap64 ((P + 2) * C) = T := by rw [← hT]; unfold wrap64; omega
    have hadd : wrap64 (P + 2) = P + 2 := by unfold wrap64; omega
    generalize hval : (if chk ups ≠ 0 then chk ups else if (32 : Int) = 32 ∧ 2147483648 ≤ T then 9 else if 64 < C then 10 else 0) = val
    clear eC hPP hVV hW hC hPm hP1 hV1 hCt hT
    generalize chk ups = g at *
    have k5 : ∃ bV bP, (V == 1) = bV ∧ (P == 1) = bP ∧ (bV = true → bP = true) := ⟨_, _, rfl, rfl, fun h => by simp at h ⊢; omega⟩
    obtain ⟨bV, bP, k3, k4, k34⟩ := k5
    clear hVP hP4
    cases bV
    · clear k34
      by_cases hg : g = 0
      · have kg : (g == 0) = true := by simpa using hg
        rw [if_neg (by simpa using hg)] at hval
        by_cases h9 : 2147483648 ≤ T
        · rw [if_pos ⟨rfl, h9⟩] at hval
          subst hval
          have k7 : decide (2147483648 ≤ T) = true := by simpa using h9
          clear h9 hg hB hCr
          go_enter Tryz.func32, Tryz.ntmps32
          go_wp2_with fail
          refine (HCR.out _).mono ?_
          rintro e w' ⟨rfl, rfl⟩
          go_wp2_with fail
          refine (CG.out _ (by repeat (first | with_reducible exact Ext.refl _ | with_reducible assumption | with_reducible refine Ext.alloc ?_ _ | with_reducible refine Ext.drew ?_ | with_reducible refine Ext.drewN ?_ _ | with_reducible refine Ext.setCell ?_ (by simp <;> omega) _ | with_reducible refine Ext.trans ?_ (by assumption)))).mono ?_
          rintro e w1 ⟨rfl, hb1⟩
          obtain ⟨hc1, hf1⟩ := hb1.cells
          clear hc1 hf1
          have qc_0 : w1.cell? ⟨w.heap.size, 0, none⟩ = some (.int .i64 V) := (hb1.cells.1 _ _ (by simp <;> omega)).trans (by simp [go_sem])
          have qc_1 : w1.cell? ⟨w.heap.size, 1, none⟩ = some (.int .i64 32) := (hb1.cells.1 _ _ (by simp <;> omega)).trans (by simp [go_sem])
          have qc_2 : w1.cell? ⟨w.heap.size, 2, none⟩ = some (.int .i64 C) := (hb1.cells.1 _ _ (by simp <;> omega)).trans (by simp [go_sem])
          have qc_3 : w1.cell? ⟨w.heap.size, 3, none⟩ = some (.int .i64 P) := (hb1.cells.1 _ _ (by simp <;> omega)).trans (by simp [go_sem])
          have qc_4 : w1.cell? ⟨w.heap.size, 4, none⟩ = some (.int .u64 (S)) := (hb1.cells.1 _ _ (by simp <;> omega)).trans (by simp [go_sem])
          have qc_5 : w1.cell? ⟨w.heap.size, 5, none⟩ = some (.slice a n cap) := (hb1.cells.1 _ _ (by simp <;> omega)).trans (by simp [go_sem])
          have pc := World.block_lt_of_cell? _ ⟨w.heap.size, 0, none⟩ qc_0
          have rc := Nat.lt_succ_of_lt pc
          go_wp2
          go_ret
          refine ⟨rfl, ?_⟩
          repeat (first | with_reducible exact Ext.refl _ | with_reducible assumption | with_reducible refine Ext.alloc ?_ _ | with_reducible refine Ext.drew ?_ | with_reducible refine Ext.drewN ?_ _ | with_reducible refine Ext.setCell ?_ (by simp <;> omega) _ | with_reducible refine Ext.trans ?_ (by assumption))
        · rw [if_neg (by omega)] at hval
          have k7 : decide (2147483648 ≤ T) = false := by simpa using h9
          by_cases h64 : 64 < C
          · rw [if_pos h64] at hval
            subst hval
            clear h9 hg hB hCr
            go_enter Tryz.func32, Tryz.ntmps32
            go_wp2_with fail
            refine (HCR.out _).mono ?_
            rintro e w' ⟨rfl, rfl⟩
            go_wp2_with fail
            refine (CG.out _ (by repeat (first | with_reducible exact Ext.refl _ | with_reducible assumption | with_reducible refine Ext.alloc ?_ _ | with_reducible refine Ext.drew ?_ | with_reducible refine Ext.drewN ?_ _ | with_reducible refine Ext.setCell ?_ (by simp <;> omega) _ | with_reducible refine Ext.trans ?_ (by assumption)))).mono ?_
            rintro e w2 ⟨rfl, hb2⟩
            obtain ⟨hc2, hf2⟩ := hb2.cells
            clear hc2 hf2
            have qc_0 : w2.cell? ⟨w.heap.size, 0, none⟩ = some (.int .i64 V) := (hb2.cells.1 _ _ (by simp <;> omega)).trans (by simp [go_sem])
            have qc_1 : w2.cell? ⟨w.heap.size, 1, none⟩ = some (.int .i64 32) := (hb2.cells.1 _ _ (by simp <;> omega)).trans (by simp [go_sem])
            have qc_2 : w2.cell? ⟨w.heap.size, 2, none⟩ = some (.int .i64 C) := (hb2.cells.1 _ _ (by simp <;> omega)).trans (by simp [go_sem])
            have qc_3 : w2.cell? ⟨w.heap.size, 3, none⟩ = some (.int .i64 P) := (hb2.cells.1 _ _ (by simp <;> omega)).trans (by simp [go_sem])
            have qc_4 : w2.cell? ⟨w.heap.size, 4, none⟩ = some (.int .u64 (S)) := (hb2.cells.1 _ _ (by simp <;> omega)).trans (by simp [go_sem])
            have qc_5 : w2.cell? ⟨w.heap.size, 5, none⟩ = some (.slice a n cap) := (hb2.cells.1 _ _ (by simp <;> omega)).trans (by simp [go_sem])
            have pc := World.block_lt_of_cell? _ ⟨w.heap.size, 0, none⟩ qc_0
            have rc := Nat.lt_succ_of_lt pc
            go_wp2
            go_ret
            refine ⟨rfl, ?_⟩
            repeat (first | with_reducible exact Ext.refl _ | with_reducible assumption | with_reducible refine Ext.alloc ?_ _ | with_reducible refine Ext.drew ?_ | with_reducible refine Ext.drewN ?_ _ | with_reducible refine Ext.setCell ?_ (by simp <;> omega) _ | with_reducible refine Ext.trans ?_ (by assumption))
          · rw [if_neg h64] at hval
            subst hval
            have k8 : decide (64 < C) = false := by simpa using h64
            clear h9 hg hB hCr
            go_enter Tryz.func32, Tryz.ntmps32
            go_wp2_with fail
            refine (HCR.out _).mono ?_
            rintro e w' ⟨rfl, rfl⟩
            go_wp2_with fail
            refine (CG.out _ (by repeat (first | with_reducible exact Ext.refl _ | with_reducible assumption | with_reducible refine Ext.alloc ?_ _ | with_reducible refine Ext.drew ?_ | with_reducible refine Ext.drewN ?_ _ | with_reducible refine Ext.setCell ?_ (by simp <;> omega) _ | with_reducible refine Ext.trans ?_ (by assumption)))).mono ?_
            rintro e w3 ⟨rfl, hb3⟩
            obtain ⟨hc3, hf3⟩ := hb3.cells
            clear hc3 hf3
            have qc_0 : w3.cell? ⟨w.heap.size, 0, none⟩ = some (.int .i64 V) := (hb3.cells.1 _ _ (by simp <;> omega)).trans (by simp [go_sem])
            have qc_1 : w3.cell? ⟨w.heap.size, 1, none⟩ = some (.int .i64 32) := (hb3.cells.1 _ _ (by simp <;> omega)).trans (by simp [go_sem])
            have qc_2 : w3.cell? ⟨w.heap.size, 2, none⟩ = some (.int .i64 C) := (hb3.cells.1 _ _ (by simp <;> omega)).trans (by simp [go_sem])
            have qc_3 : w3.cell? ⟨w.heap.size, 3, none⟩ = some (.int .i64 P) := (hb3.cells.1 _ _ (by simp <;> omega)).trans (by simp [go_sem])
            have qc_4 : w3.cell? ⟨w.heap.size, 4, none⟩ = some (.int .u64 (S)) := (hb3.cells.1 _ _ (by simp <;> omega)).trans (by simp [go_sem])
            have qc_5 : w3.cell? ⟨w.heap.size, 5, none⟩ = some (.slice a n cap) := (hb3.cells.1 _ _ (by simp <;> omega)).trans (by simp [go_sem])
            have pc := World.block_lt_of_cell? _ ⟨w.heap.size, 0, none⟩ qc_0
            have rc := Nat.lt_succ_of_lt pc
            go_wp2
            go_ret
            refine ⟨rfl, ?_⟩
            repeat (first | with_reducible exact Ext.refl _ | with_reducible assumption | with_reducible refine Ext.alloc ?_ _ | with_reducible refine Ext.drew ?_ | with_reducible refine Ext.drewN ?_ _ | with_reducible refine Ext.setCell ?_ (by simp <;> omega) _ | with_reducible refine Ext.trans ?_ (by assumption))
      · have kg : (g == 0) = false := by simpa using hg
        rw [if_pos hg] at hval
        subst hval
        clear hg hB hCr
        go_enter Tryz.func32, Tryz.ntmps32
        go_wp2_with fail
        refine (HCR.out _).mono ?_
        rintro e w' ⟨rfl, rfl⟩
        go_wp2_with fail
        refine (CG.out _ (by repeat (first | with_reducible exact Ext.refl _ | with_reducible assumption | with_reducible refine Ext.alloc ?_ _ | with_reducible refine Ext.drew ?_ | with_reducible refine Ext.drewN ?_ _ | with_reducible refine Ext.setCell ?_ (by simp <;> omega) _ | with_reducible refine Ext.trans ?_ (by assumption)))).mono ?_
        rintro e w4 ⟨rfl, hb4⟩
        obtain ⟨hc4, hf4⟩ := hb4.cells
        clear hc4 hf4
        have qc_0 : w4.cell? ⟨w.heap.size, 0, none⟩ = some (.int .i64 V) := (hb4.cells.1 _ _ (by simp <;> omega)).trans (by simp [go_sem])
        have qc_1 : w4.cell? ⟨w.heap.size, 1, none⟩ = some (.int .i64 32) := (hb4.cells.1 _ _ (by simp <;> omega)).trans (by simp [go_sem])
        have qc_2 : w4.cell? ⟨w.heap.size, 2, none⟩ = some (.int .i64 C) := (hb4.cells.1 _ _ (by simp <;> omega)).trans (by simp [go_sem])
        have qc_3 : w4.cell? ⟨w.heap.size, 3, none⟩ = some (.int .i64 P) := (hb4.cells.1 _ _ (by simp <;> omega)).trans (by simp [go_sem])
        have qc_4 : w4.cell? ⟨w.heap.size, 4, none⟩ = some (.int .u64 (S)) := (hb4.cells.1 _ _ (by simp <;> omega)).trans (by simp [go_sem])
        have qc_5 : w4.cell? ⟨w.heap.size, 5, none⟩ = some (.slice a n cap) := (hb4.cells.1 _ _ (by simp <;> omega)).trans (by simp [go_sem])
        have pc := World.block_lt_of_cell? _ ⟨w.heap.size, 0, none⟩ qc_0
        have rc := Nat.lt_succ_of_lt pc
        go_wp2
        go_ret
        refine ⟨rfl, ?_⟩
        repeat (first | with_reducible exact Ext.refl _ | with_reducible assumption | with_reducible refine Ext.alloc ?_ _ | with_reducible refine Ext.drew ?_ | with_reducible refine Ext.drewN ?_ _ | with_reducible refine Ext.setCell ?_ (by simp <;> omega) _ | with_reducible refine Ext.trans ?_ (by assumption))
    · obtain rfl := k34 rfl
      clear k34
      by_cases hg : g = 0
      · have kg : (g == 0) = true := by simpa using hg
        rw [if_neg (by simpa using hg)] at hval
        by_cases h9 : 2147483648 ≤ T
        · rw [if_pos ⟨rfl, h9⟩] at hval
          subst hval
          have k7 : decide (2147483648 ≤ T) = true := by simpa using h9
          clear h9 hg hB hCr
          go_enter Tryz.func32, Tryz.ntmps32
          go_wp2_with fail
          refine (HCR.out _).mono ?_
          rintro e w' ⟨rfl, rfl⟩
          go_wp2_with fail
          refine (CG.out _ (by repeat (first | with_reducible exact Ext.refl _ | with_reducible assumption | with_reducible refine Ext.alloc ?_ _ | with_reducible refine Ext.drew ?_ | with_reducible refine Ext.drewN ?_ _ | with_reducible refine Ext.setCell ?_ (by simp <;> omega) _ | with_reducible refine Ext.trans ?_ (by assumption)))).mono ?_
          rintro e w5 ⟨rfl, hb5⟩
          obtain ⟨hc5, hf5⟩ := hb5.cells
          clear hc5 hf5
          have qc_0 : w5.cell? ⟨w.heap.size, 0, none⟩ = some (.int .i64 V) := (hb5.cells.1 _ _ (by simp <;> omega)).trans (by simp [go_sem])
          have qc_1 : w5.cell? ⟨w.heap.size, 1, none⟩ = some (.int .i64 32) := (hb5.cells.1 _ _ (by simp <;> omega)).trans (by simp [go_sem])
          have qc_2 : w5.cell? ⟨w.heap.size, 2, none⟩ = some (.int .i64 C) := (hb5.cells.1 _ _ (by simp <;> omega)).trans (by simp [go_sem])
          have qc_3 : w5.cell? ⟨w.heap.size, 3, none⟩ = some (.int .i64 P) := (hb5.cells.1 _ _ (by simp <;> omega)).trans (by simp [go_sem])
          have qc_4 : w5.cell? ⟨w.heap.size, 4, none⟩ = some (.int .u64 (S)) := (hb5.cells.1 _ _ (by simp <;> omega)).trans (by simp [go_sem])
          have qc_5 : w5.cell? ⟨w.heap.size, 5, none⟩ = some (.slice a n cap) := (hb5.cells.1 _ _ (by simp <;> omega)).trans (by simp [go_sem])
          have pc := World.block_lt_of_cell? _ ⟨w.heap.size, 0, none⟩ qc_0
          have rc := Nat.lt_succ_of_lt pc
          go_wp2
          go_ret
          refine ⟨rfl, ?_⟩
          repeat (first | with_reducible exact Ext.refl _ | with_reducible assumption | with_reducible refine Ext.alloc ?_ _ | with_reducible refine Ext.drew ?_ | with_reducible refine Ext.drewN ?_ _ | with_reducible refine Ext.setCell ?_ (by simp <;> omega) _ | with_reducible refine Ext.trans ?_ (by assumption))
        · rw [if_neg (by omega)] at hval
          have k7 : decide (2147483648 ≤ T) = false := by simpa using h9
          by_cases h64 : 64 < C
          · rw [if_pos h64] at hval
            subst hval
            clear h9 hg hB hCr
            go_enter Tryz.func32, Tryz.ntmps32
            go_wp2_with fail
            refine (HCR.out _).mono ?_
            rintro e w' ⟨rfl, rfl⟩
            go_wp2_with fail
            refine (CG.out _ (by repeat (first | with_reducible exact Ext.refl _ | with_reducible assumption | with_reducible refine Ext.alloc ?_ _ | with_reducible refine Ext.drew ?_ | with_reducible refine Ext.drewN ?_ _ | with_reducible refine Ext.setCell ?_ (by simp <;> omega) _ | with_reducible refine Ext.trans ?_ (by assumption)))).mono ?_
            rintro e w6 ⟨rfl, hb6⟩
            obtain ⟨hc6, hf6⟩ := hb6.cells
            clear hc6 hf6
            have qc_0 : w6.cell? ⟨w.heap.size, 0, none⟩ = some (.int .i64 V) := (hb6.cells.1 _ _ (by simp <;> omega)).trans (by simp [go_sem])
            have qc_1 : w6.cell? ⟨w.heap.size, 1, none⟩ = some (.int .i64 32) := (hb6.cells.1 _ _ (by simp <;> omega)).trans (by simp [go_sem])
            have qc_2 : w6.cell? ⟨w.heap.size, 2, none⟩ = some (.int .i64 C) := (hb6.cells.1 _ _ (by simp <;> omega)).trans (by simp [go_sem])
            have qc_3 : w6.cell? ⟨w.heap.size, 3, none⟩ = some (.int .i64 P) := (hb6.cells.1 _ _ (by simp <;> omega)).trans (by simp [go_sem])
            have qc_4 : w6.cell? ⟨w.heap.size, 4, none⟩ = some (.int .u64 (S)) := (hb6.cells.1 _ _ (by simp <;> omega)).trans (by simp [go_sem])
            have qc_5 : w6.cell? ⟨w.heap.size, 5, none⟩ = some (.slice a n cap) := (hb6.cells.1 _ _ (by simp <;> omega)).trans (by simp [go_sem])
            have pc := World.block_lt_of_cell? _ ⟨w.heap.size, 0, none⟩ qc_0
            have rc := Nat.lt_succ_of_lt pc
            go_wp2
            go_ret
            refine ⟨rfl, ?_⟩
            repeat (first | with_reducible exact Ext.refl _ | with_reducible assumption | with_reducible refine Ext.alloc ?_ _ | with_reducible refine Ext.drew ?_ | with_reducible refine Ext.drewN ?_ _ | with_reducible refine Ext.setCell ?_ (by simp <;> omega) _ | with_reducible refine Ext.trans ?_ (by assumption))
          · rw [if_neg h64] at hval
            subst hval
            have k8 : decide (64 < C) = false := by simpa using h64
            clear h9 hg hB hCr
            go_enter Tryz.func32, Tryz.ntmps32
            go_wp2_with fail
            refine (HCR.out _).mono ?_
            rintro e w' ⟨rfl, rfl⟩
            go_wp2_with fail
            refine (CG.out _ (by repeat (first | with_reducible exact Ext.refl _ | with_reducible assumption | with_reducible refine Ext.alloc ?_ _ | with_reducible refine Ext.drew ?_ | with_reducible refine Ext.drewN ?_ _ | with_reducible refine Ext.setCell ?_ (by simp <;> omega) _ | with_reducible refine Ext.trans ?_ (by assumption)))).mono ?_
            rintro e w7 ⟨rfl, hb7⟩
            obtain ⟨hc7, hf7⟩ := hb7.cells
            clear hc7 hf7
            have qc_0 : w7.cell? ⟨w.heap.size, 0, none⟩ = some (.int .i64 V) := (hb7.cells.1 _ _ (by simp <;> omega)).trans (by simp [go_sem])
            have qc_1 : w7.cell? ⟨w.heap.size, 1, none⟩ = some (.int .i64 32) := (hb7.cells.1 _ _ (by simp <;> omega)).trans (by simp [go_sem])
            have qc_2 : w7.cell? ⟨w.heap.size, 2, none⟩ = some (.int .i64 C) := (hb7.cells.1 _ _ (by simp <;> omega)).trans (by simp [go_sem])
            have qc_3 : w7.cell? ⟨w.heap.size, 3, none⟩ = some (.int .i64 P) := (hb7.cells.1 _ _ (by simp <;> omega)).trans (by simp [go_sem])
            have qc_4 : w7.cell? ⟨w.heap.size, 4, none⟩ = some (.int .u64 (S)) := (hb7.cells.1 _ _ (by simp <;> omega)).trans (by simp [go_sem])
            have qc_5 : w7.cell? ⟨w.heap.size, 5, none⟩ = some (.slice a n cap) := (hb7.cells.1 _ _ (by simp <;> omega)).trans (by simp [go_sem])
            have pc := World.block_lt_of_cell? _ ⟨w.heap.size, 0, none⟩ qc_0
            have rc := Nat.lt_succ_of_lt pc
            go_wp2
            go_ret
            refine ⟨rfl, ?_⟩
            repeat (first | with_reducible exact Ext.refl _ | with_reducible assumption | with_reducible refine Ext.alloc ?_ _ | with_reducible refine Ext.drew ?_ | with_reducible refine Ext.drewN ?_ _ | with_reducible refine Ext.setCell ?_ (by simp <;> omega) _ | with_reducible refine Ext.trans ?_ (by assumption))
      · have kg : (g == 0) = false := by simpa using hg
        rw [if_pos hg] at hval
        subst hval
        clear hg hB hCr
        go_enter Tryz.func32, Tryz.ntmps32
        go_wp2_with fail
        refine (HCR.out _).mono ?_
        rintro e w' ⟨rfl, rfl⟩
        go_wp2_with fail
        refine (CG.out _ (by repeat (first | with_reducible exact Ext.refl _ | with_reducible assumption | with_reducible refine Ext.alloc ?_ _ | with_reducible refine Ext.drew ?_ | with_reducible refine Ext.drewN ?_ _ | with_reducible refine Ext.setCell ?_ (by simp <;> omega) _ | with_reducible refine Ext.trans ?_ (by assumption)))).mono ?_
        rintro e w8 ⟨rfl, hb8⟩
        obtain ⟨hc8, hf8⟩ := hb8.cells
        clear hc8 hf8
        have qc_0 : w8.cell? ⟨w.heap.size, 0, none⟩ = some (.int .i64 V) := (hb8.cells.1 _ _ (by simp <;> omega)).trans (by simp [go_sem])
        have qc_1 : w8.cell? ⟨w.heap.size, 1, none⟩ = some (.int .i64 32) := (hb8.cells.1 _ _ (by simp <;> omega)).trans (by simp [go_sem])
        have qc_2 : w8.cell? ⟨w.heap.size, 2, none⟩ = some (.int .i64 C) := (hb8.cells.1 _ _ (by simp <;> omega)).trans (by simp [go_sem])
        have qc_3 : w8.cell? ⟨w.heap.size, 3, none⟩ = some (.int .i64 P) := (hb8.cells.1 _ _ (by simp <;> omega)).trans (by simp [go_sem])
        have qc_4 : w8.cell? ⟨w.heap.size, 4, none⟩ = some (.int .u64 (S)) := (hb8.cells.1 _ _ (by simp <;> omega)).trans (by simp [go_sem])
        have qc_5 : w8.cell? ⟨w.heap.size, 5, none⟩ = some (.slice a n cap) := (hb8.cells.1 _ _ (by simp <;> omega)).trans (by simp [go_sem])
        have pc := World.block_lt_of_cell? _ ⟨w.heap.size, 0, none⟩ qc_0
        have rc := Nat.lt_succ_of_lt pc
        go_wp2
        go_ret
        refine ⟨rfl, ?_⟩
        repeat (first | with_reducible exact Ext.refl _ | with_reducible assumption | with_reducible refine Ext.alloc ?_ _ | with_reducible refine Ext.drew ?_ | with_reducible refine Ext.drewN ?_ _ | with_reducible refine Ext.setCell ?_ (by simp <;> omega) _ | with_reducible refine Ext.trans ?_ (by assumption))
  · clear hW
    have hW : ¬ ¬ ((64 : Int) = 32 ∨ (64 : Int) = 64) := by omega
    by_cases hC : rightB C = false
    · rw [show ckC V 64 C P ups = 4 by rw [ckC, if_neg hVV, if_neg hW, if_pos hC]]
      have CR := fun w => r2Right C w
      rw [hC] at CR
      have HCR := Lib.hid CR
      clear hV1 hVV hW CR hC
      go_enter Tryz.func32, Tryz.ntmps32
      go_wp2_with fail
      refine (HCR.out _).mono ?_
      rintro e w' ⟨rfl, rfl⟩
      go_wp2
      go_ret
      refine ⟨rfl, ?_⟩
      repeat (first | with_reducible exact Ext.refl _ | with_reducible assumption | with_reducible refine Ext.alloc ?_ _ | with_reducible refine Ext.drew ?_ | with_reducible refine Ext.drewN ?_ _ | with_reducible refine Ext.setCell ?_ (by simp <;> omega) _ | with_reducible refine Ext.trans ?_ (by assumption))
    have hCt : rightB C = true := by cases h : rightB C <;> simp_all
    have hCr := right_range hCt
    have CR := fun w => r2Right C w
    rw [hCt] at CR
    have HCR := Lib.hid CR
    clear CR
    by_cases hP1 : P < 1
    · rw [show ckC V 64 C P ups = 5 by rw [ckC, if_neg hVV, if_neg hW, if_neg hC, if_pos (.inl hP1)]]
      have k1 : decide (P < 1) = true := by simpa using hP1
      clear hV1 hVV hW hC hP1 hCt hCr
      go_enter Tryz.func32, Tryz.ntmps32
      go_wp2_with fail
      refine (HCR.out _).mono ?_
      rintro e w' ⟨rfl, rfl⟩
      go_wp2
      go_ret
      refine ⟨rfl, ?_⟩
      repeat (first | with_reducible exact Ext.refl _ | with_reducible assumption | with_reducible refine Ext.alloc ?_ _ | with_reducible refine Ext.drew ?_ | with_reducible refine Ext.drewN ?_ _ | with_reducible refine Ext.setCell ?_ (by simp <;> omega) _ | with_reducible refine Ext.trans ?_ (by assumption))
    have k1 : decide (P < 1) = false := by simpa using hP1
    by_cases hP4 : 4 < P
    · have hPm : mostOf V < P := by have := most_le V; omega
      rw [show ckC V 64 C P ups = 5 by rw [ckC, if_neg hVV, if_neg hW, if_neg hC, if_pos (.inr hPm)]]
      clear hV1 hVV hW hC hP1 hCt hCr hPm
      go_enter Tryz.func32, Tryz.ntmps32
      go_wp2_with fail
      refine (HCR.out _).mono ?_
      rintro e w' ⟨rfl, rfl⟩
      go_wp2
      go_ret
      refine ⟨rfl, ?_⟩
      repeat (first | with_reducible exact Ext.refl _ | with_reducible assumption | with_reducible refine Ext.alloc ?_ _ | with_reducible refine Ext.drew ?_ | with_reducible refine Ext.drewN ?_ _ | with_reducible refine Ext.setCell ?_ (by simp <;> omega) _ | with_reducible refine Ext.trans ?_ (by assumption))
    have k2 : decide (4 < P) = false := by simpa using hP4
    by_cases hVP : V = 1 ∧ ¬ P = 1
    · have hPm : mostOf V < P := by rw [hVP.1]; unfold mostOf; simp; omega
      rw [show ckC V 64 C P ups = 5 by rw [ckC, if_neg hVV, if_neg hW, if_neg hC, if_pos (.inr hPm)]]
      have k3 : (V == 1) = true := by simpa using hVP.1
      have k4 : (P == 1) = false := by simpa using hVP.2
      clear hV1 hVV hW hC hP1 hCt hCr hPm hVP
      go_enter Tryz.func32, Tryz.ntmps32
      go_wp2_with fail
      refine (HCR.out _).mono ?_
      rintro e w' ⟨rfl, rfl⟩
      go_wp2
      go_ret
      refine ⟨rfl, ?_⟩
      repeat (first | with_reducible exact Ext.refl _ | with_reducible assumption | with_reducible refine Ext.alloc ?_ _ | with_reducible refine Ext.drew ?_ | with_reducible refine Ext.drewN ?_ _ | with_reducible refine Ext.setCell ?_ (by simp <;> omega) _ | with_reducible refine Ext.trans ?_ (by assumption))
    have hPm : ¬ mostOf V < P := by unfold mostOf; split <;> omega
    have hPP : ¬ (P < 1 ∨ mostOf V < P) := by omega
    have eC : ckC V 64 C P ups = if chk ups ≠ 0 then chk ups else if (64 : Int) = 32 ∧ 2147483648 ≤ (P + 2) * C then 9 else if 64 < C then 10 else 0 := by rw [ckC, if_neg hVV, if_neg hW, if_neg hC, if_neg hPP]
    rw [eC]
    have hB := bound_le (by omega) (show P ≤ 4 by omega) hCr.1 hCr.2
    obtain ⟨T, hT⟩ : ∃ T, T = (P + 2) * C := ⟨_, rfl⟩
    rw [← hT] at hB ⊢
    have hmul : wrap64 ((P + 2) * C) = T := by rw [← hT]; unfold wrap64; omega
    have hadd : wrap64 (P + 2) = P + 2 := by unfold wrap64; omega
    generalize hval : (if chk ups ≠ 0 then chk ups else if (64 : Int) = 32 ∧ 2147483648 ≤ T then 9 else if 64 < C then 10 else 0) = val
    clear eC hPP hVV hW hC hPm hP1 hV1 hCt hT
    generalize chk ups = g at *
    have k5 : ∃ bV bP, (V == 1) = bV ∧ (P == 1) = bP ∧ (bV = true → bP = true) := ⟨_, _, rfl, rfl, fun h => by simp at h ⊢; omega⟩
    obtain ⟨bV, bP, k3, k4, k34⟩ := k5
    clear hVP hP4
    cases bV
    · clear k34
      by_cases hg : g = 0
      · have kg : (g == 0) = true := by simpa using hg
        rw [if_neg (by simpa using hg)] at hval
        rw [if_neg (by omega)] at hval
        by_cases h64 : 64 < C
        · rw [if_pos h64] at hval
          subst hval
          clear hg hB hCr
          go_enter Tryz.func32, Tryz.ntmps32
          go_wp2_with fail
          refine (HCR.out _).mono ?_
          rintro e w' ⟨rfl, rfl⟩
          go_wp2_with fail
          refine (CG.out _ (by repeat (first | with_reducible exact Ext.refl _ | with_reducible assumption | with_reducible refine Ext.alloc ?_ _ | with_reducible refine Ext.drew ?_ | with_reducible refine Ext.drewN ?_ _ | with_reducible refine Ext.setCell ?_ (by simp <;> omega) _ | with_reducible refine Ext.trans ?_ (by assumption)))).mono ?_
          rintro e w9 ⟨rfl, hb9⟩
          obtain ⟨hc9, hf9⟩ := hb9.cells
          clear hc9 hf9
          have qc_0 : w9.cell? ⟨w.heap.size, 0, none⟩ = some (.int .i64 V) := (hb9.cells.1 _ _ (by simp <;> omega)).trans (by simp [go_sem])
          have qc_1 : w9.cell? ⟨w.heap.size, 1, none⟩ = some (.int .i64 64) := (hb9.cells.1 _ _ (by simp <;> omega)).trans (by simp [go_sem])
          have qc_2 : w9.cell? ⟨w.heap.size, 2, none⟩ = some (.int .i64 C) := (hb9.cells.1 _ _ (by simp <;> omega)).trans (by simp [go_sem])
          have qc_3 : w9.cell? ⟨w.heap.size, 3, none⟩ = some (.int .i64 P) := (hb9.cells.1 _ _ (by simp <;> omega)).trans (by simp [go_sem])
          have qc_4 : w9.cell? ⟨w.heap.size, 4, none⟩ = some (.int .u64 (S)) := (hb9.cells.1 _ _ (by simp <;> omega)).trans (by simp [go_sem])
          have qc_5 : w9.cell? ⟨w.heap.size, 5, none⟩ = some (.slice a n cap) := (hb9.cells.1 _ _ (by simp <;> omega)).trans (by simp [go_sem])
          have pc := World.block_lt_of_cell? _ ⟨w.heap.size, 0, none⟩ qc_0
          have rc := Nat.lt_succ_of_lt pc
          go_wp2
          go_ret
          refine ⟨rfl, ?_⟩
          repeat (first | with_reducible exact Ext.refl _ | with_reducible assumption | with_reducible refine Ext.alloc ?_ _ | with_reducible refine Ext.drew ?_ | with_reducible refine Ext.drewN ?_ _ | with_reducible refine Ext.setCell ?_ (by simp <;> omega) _ | with_reducible refine Ext.trans ?_ (by assumption))
        · rw [if_neg h64] at hval
          subst hval
          have k8 : decide (64 < C) = false := by simpa using h64
          clear hg hB hCr
          go_enter Tryz.func32, Tryz.ntmps32
          go_wp2_with fail
          refine (HCR.out _).mono ?_
          rintro e w' ⟨rfl, rfl⟩
          go_wp2_with fail
          refine (CG.out _ (by repeat (first | with_reducible exact Ext.refl _ | with_reducible assumption | with_reducible refine Ext.alloc ?_ _ | with_reducible refine Ext.drew ?_ | with_reducible refine Ext.drewN ?_ _ | with_reducible refine Ext.setCell ?_ (by simp <;> omega) _ | with_reducible refine Ext.trans ?_ (by assumption)))).mono ?_
          rintro e w10 ⟨rfl, hb10⟩
          obtain ⟨hc10, hf10⟩ := hb10.cells
          clear hc10 hf10
          have qc_0 : w10.cell? ⟨w.heap.size, 0, none⟩ = some (.int .i64 V) := (hb10.cells.1 _ _ (by simp <;> omega)).trans (by simp [go_sem])
          have qc_1 : w10.cell? ⟨w.heap.size, 1, none⟩ = some (.int .i64 64) := (hb10.cells.1 _ _ (by simp <;> omega)).trans (by simp [go_sem])
          have qc_2 : w10.cell? ⟨w.heap.size, 2, none⟩ = some (.int .i64 C) := (hb10.cells.1 _ _ (by simp <;> omega)).trans (by simp [go_sem])
          have qc_3 : w10.cell? ⟨w.heap.size, 3, none⟩ = some (.int .i64 P) := (hb10.cells.1 _ _ (by simp <;> omega)).trans (by simp [go_sem])
          have qc_4 : w10.cell? ⟨w.heap.size, 4, none⟩ = some (.int .u64 (S)) := (hb10.cells.1 _ _ (by simp <;> omega)).trans (by simp [go_sem])
          have qc_5 : w10.cell? ⟨w.heap.size, 5, none⟩ = some (.slice a n cap) := (hb10.cells.1 _ _ (by simp <;> omega)).trans (by simp [go_sem])
          have pc := World.block_lt_of_cell? _ ⟨w.heap.size, 0, none⟩ qc_0
          have rc := Nat.lt_succ_of_lt pc
          go_wp2
          go_ret
          refine ⟨rfl, ?_⟩
          repeat (first | with_reducible exact Ext.refl _ | with_reducible assumption | with_reducible refine Ext.alloc ?_ _ | with_reducible refine Ext.drew ?_ | with_reducible refine Ext.drewN ?_ _ | with_reducible refine Ext.setCell ?_ (by simp <;> omega) _ | with_reducible refine Ext.trans ?_ (by assumption))
      · have kg : (g == 0) = false := by simpa using hg
        rw [if_pos hg] at hval
        subst hval
        clear hg hB hCr
        go_enter Tryz.func32, Tryz.ntmps32
        go_wp2_with fail
        refine (HCR.out _).mono ?_
        rintro e w' ⟨rfl, rfl⟩
        go_wp2_with fail
        refine (CG.out _ (by repeat (first | with_reducible exact Ext.refl _ | with_reducible assumption | with_reducible refine Ext.alloc ?_ _ | with_reducible refine Ext.drew ?_ | with_reducible refine Ext.drewN ?_ _ | with_reducible refine Ext.setCell ?_ (by simp <;> omega) _ | with_reducible refine Ext.trans ?_ (by assumption)))).mono ?_
        rintro e w11 ⟨rfl, hb11⟩
        obtain ⟨hc11, hf11⟩ := hb11.cells
        clear hc11 hf11
        have qc_0 : w11.cell? ⟨w.heap.size, 0, none⟩ = some (.int .i64 V) := (hb11.cells.1 _ _ (by simp <;> omega)).trans (by simp [go_sem])
        have qc_1 : w11.cell? ⟨w.heap.size, 1, none⟩ = some (.int .i64 64) := (hb11.cells.1 _ _ (by simp <;> omega)).trans (by simp [go_sem])
        have qc_2 : w11.cell? ⟨w.heap.size, 2, none⟩ = some (.int .i64 C) := (hb11.cells.1 _ _ (by simp <;> omega)).trans (by simp [go_sem])
        have qc_3 : w11.cell? ⟨w.heap.size, 3, none⟩ = some (.int .i64 P) := (hb11.cells.1 _ _ (by simp <;> omega)).trans (by simp [go_sem])
        have qc_4 : w11.cell? ⟨w.heap.size, 4, none⟩ = some (.int .u64 (S)) := (hb11.cells.1 _ _ (by simp <;> omega)).trans (by simp [go_sem])
        have qc_5 : w11.cell? ⟨w.heap.size, 5, none⟩ = some (.slice a n cap) := (hb11.cells.1 _ _ (by simp <;> omega)).trans (by simp [go_sem])
        have pc := World.block_lt_of_cell? _ ⟨w.heap.size, 0, none⟩ qc_0
        have rc := Nat.lt_succ_of_lt pc
        go_wp2
        go_ret
        refine ⟨rfl, ?_⟩
        repeat (first | with_reducible exact Ext.refl _ | with_reducible assumption | with_reducible refine Ext.alloc ?_ _ | with_reducible refine Ext.drew ?_ | with_reducible refine Ext.drewN ?_ _ | with_reducible refine Ext.setCell ?_ (by simp <;> omega) _ | with_reducible refine Ext.trans ?_ (by assumption))
    · obtain rfl := k34 rfl
      clear k34
      by_cases hg : g = 0
      · have kg : (g == 0) = true := by simpa using hg
        rw [if_neg (by simpa using hg)] at hval
        rw [if_neg (by omega)] at hval
        by_cases h64 : 64 < C
        · rw [if_pos h64] at hval
          subst hval
          clear hg hB hCr
          go_enter Tryz.func32, Tryz.ntmps32
          go_wp2_with fail
          refine (HCR.out _).mono ?_
          rintro e w' ⟨rfl, rfl⟩
          go_wp2_with fail
          refine (CG.out _ (by repeat (first | with_reducible exact Ext.refl _ | with_reducible assumption | with_reducible refine Ext.alloc ?_ _ | with_reducible refine Ext.drew ?_ | with_reducible refine Ext.drewN ?_ _ | with_reducible refine Ext.setCell ?_ (by simp <;> omega) _ | with_reducible refine Ext.trans ?_ (by assumption)))).mono ?_
          rintro e w12 ⟨rfl, hb12⟩
          obtain ⟨hc12, hf12⟩ := hb12.cells
          clear hc12 hf12
          have qc_0 : w12.cell? ⟨w.heap.size, 0, none⟩ = some (.int .i64 V) := (hb12.cells.1 _ _ (by simp <;> omega)).trans (by simp [go_sem])
          have qc_1 : w12.cell? ⟨w.heap.size, 1, none⟩ = some (.int .i64 64) := (hb12.cells.1 _ _ (by simp <;> omega)).trans (by simp [go_sem])
          have qc_2 : w12.cell? ⟨w.heap.size, 2, none⟩ = some (.int .i64 C) := (hb12.cells.1 _ _ (by simp <;> omega)).trans (by simp [go_sem])
          have qc_3 : w12.cell? ⟨w.heap.size, 3, none⟩ = some (.int .i64 P) := (hb12.cells.1 _ _ (by simp <;> omega)).trans (by simp [go_sem])
          have qc_4 : w12.cell? ⟨w.heap.size, 4, none⟩ = some (.int .u64 (S)) := (hb12.cells.1 _ _ (by simp <;> omega)).trans (by simp [go_sem])
          have qc_5 : w12.cell? ⟨w.heap.size, 5, none⟩ = some (.slice a n cap) := (hb12.cells.1 _ _ (by simp <;> omega)).trans (by simp [go_sem])
          have pc := World.block_lt_of_cell? _ ⟨w.heap.size, 0, none⟩ qc_0
          have rc := Nat.lt_succ_of_lt pc
          go_wp2
          go_ret
          refine ⟨rfl, ?_⟩
          repeat (first | with_reducible exact Ext.refl _ | with_reducible assumption | with_reducible refine Ext.alloc ?_ _ | with_reducible refine Ext.drew ?_ | with_reducible refine Ext.drewN ?_ _ | with_reducible refine Ext.setCell ?_ (by simp <;> omega) _ | with_reducible refine Ext.trans ?_ (by assumption))
        · rw [if_neg h64] at hval
          subst hval
          have k8 : decide (64 < C) = false := by simpa using h64
          clear hg hB hCr
          go_enter Tryz.func32, Tryz.ntmps32
          go_wp2_with fail
          refine (HCR.out _).mono ?_
          rintro e w' ⟨rfl, rfl⟩
          go_wp2_with fail
          refine (CG.out _ (by repeat (first | with_reducible exact Ext.refl _ | with_reducible assumption | with_reducible refine Ext.alloc ?_ _ | with_reducible refine Ext.drew ?_ | with_reducible refine Ext.drewN ?_ _ | with_reducible refine Ext.setCell ?_ (by simp <;> omega) _ | with_reducible refine Ext.trans ?_ (by assumption)))).mono ?_
          rintro e w13 ⟨rfl, hb13⟩
          obtain ⟨hc13, hf13⟩ := hb13.cells
          clear hc13 hf13
          have qc_0 : w13.cell? ⟨w.heap.size, 0, none⟩ = some (.int .i64 V) := (hb13.cells.1 _ _ (by simp <;> omega)).trans (by simp [go_sem])
          have qc_1 : w13.cell? ⟨w.heap.size, 1, none⟩ = some (.int .i64 64) := (hb13.cells.1 _ _ (by simp <;> omega)).trans (by simp [go_sem])
          have qc_2 : w13.cell? ⟨w.heap.size, 2, none⟩ = some (.int .i64 C) := (hb13.cells.1 _ _ (by simp <;> omega)).trans (by simp [go_sem])
          have qc_3 : w13.cell? ⟨w.heap.size, 3, none⟩ = some (.int .i64 P) := (hb13.cells.1 _ _ (by simp <;> omega)).trans (by simp [go_sem])
          have qc_4 : w13.cell? ⟨w.heap.size, 4, none⟩ = some (.int .u64 (S)) := (hb13.cells.1 _ _ (by simp <;> omega)).trans (by simp [go_sem])
          have qc_5 : w13.cell? ⟨w.heap.size, 5, none⟩ = some (.slice a n cap) := (hb13.cells.1 _ _ (by simp <;> omega)).trans (by simp [go_sem])
          have pc := World.block_lt_of_cell? _ ⟨w.heap.size, 0, none⟩ qc_0
          have rc := Nat.lt_succ_of_lt pc
          go_wp2
          go_ret
          refine ⟨rfl, ?_⟩
          repeat (first | with_reducible exact Ext.refl _ | with_reducible assumption | with_reducible refine Ext.alloc ?_ _ | with_reducible refine Ext.drew ?_ | with_reducible refine Ext.drewN ?_ _ | with_reducible refine Ext.setCell ?_ (by simp <;> omega) _ | with_reducible refine Ext.trans ?_ (by assumption))
      · have kg : (g == 0) = false := by simpa using hg
        rw [if_pos hg] at hval
        subst hval
        clear hg hB hCr
        go_enter Tryz.func32, Tryz.ntmps32
        go_wp2_with fail
        refine (HCR.out _).mono ?_
        rintro e w' ⟨rfl, rfl⟩
        go_wp2_with fail
        refine (CG.out _ (by repeat (first | with_reducible exact Ext.refl _ | with_reducible assumption | with_reducible refine Ext.alloc ?_ _ | with_reducible refine Ext.drew ?_ | with_reducible refine Ext.drewN ?_ _ | with_reducible refine Ext.setCell ?_ (by simp <;> omega) _ | with_reducible refine Ext.trans ?_ (by assumption)))).mono ?_
        rintro e w14 ⟨rfl, hb14⟩
        obtain ⟨hc14, hf14⟩ := hb14.cells
        clear hc14 hf14
        have qc_0 : w14.cell? ⟨w.heap.size, 0, none⟩ = some (.int .i64 V) := (hb14.cells.1 _ _ (by simp <;> omega)).trans (by simp [go_sem])
        have qc_1 : w14.cell? ⟨w.heap.size, 1, none⟩ = some (.int .i64 64) := (hb14.cells.1 _ _ (by simp <;> omega)).trans (by simp [go_sem])
        have qc_2 : w14.cell? ⟨w.heap.size, 2, none⟩ = some (.int .i64 C) := (hb14.cells.1 _ _ (by simp <;> omega)).trans (by simp [go_sem])
        have qc_3 : w14.cell? ⟨w.heap.size, 3, none⟩ = some (.int .i64 P) := (hb14.cells.1 _ _ (by simp <;> omega)).trans (by simp [go_sem])
        have qc_4 : w14.cell? ⟨w.heap.size, 4, none⟩ = some (.int .u64 (S)) := (hb14.cells.1 _ _ (by simp <;> omega)).trans (by simp [go_sem])
        have qc_5 : w14.cell? ⟨w.heap.size, 5, none⟩ = some (.slice a n cap) := (hb14.cells.1 _ _ (by simp <;> omega)).trans (by simp [go_sem])
        have pc := World.block_lt_of_cell? _ ⟨w.heap.size, 0, none⟩ qc_0
        have rc := Nat.lt_succ_of_lt pc
        go_wp2
        go_ret
        refine ⟨rfl, ?_⟩
        repeat (first | with_reducible exact Ext.refl _ | with_reducible assumption | with_reducible refine Ext.alloc ?_ _ | with_reducible refine Ext.drew ?_ | with_reducible refine Ext.drewN ?_ _ | with_reducible refine Ext.setCell ?_ (by simp <;> omega) _ | with_reducible refine Ext.trans ?_ (by assumption))
theorem r10Right (V W C P S : Int) (u : Value) (ups : List (List Int)) (w : World) (hL : ListsV w u ups) (hll : ∀ l ∈ ups, l.length ≤ 1000000) (hn : ups.length ≤ 1000000) :
    Calls Tryz.prog 7 #[(.agg #[.int .i64 V, .int .i64 W, .int .i64 C, .int .i64 P, .int .u64 (S), u])] w fun e w' => e = .returned (.bool (ckC V W C P ups == 0)) ∧ Ext w w' := by
  obtain ⟨a, cap, e, -⟩ := id hL
  subst e
  have CG := Lib.hid (fun w' (hx : Ext w w') => r10Chk V W C P S _ ups w' (hL.ext hx) hll hn)
  clear hL hll
  generalize ups.length = n at *
  generalize ckC V W C P ups = g at *
  go_enter Tryz.func7, Tryz.ntmps7
  go_wp2_with fail
  refine (CG.out _ (by repeat (first | with_reducible exact Ext.refl _ | with_reducible assumption | with_reducible refine Ext.alloc ?_ _ | with_reducible refine Ext.drew ?_ | with_reducible refine Ext.drewN ?_ _ | with_reducible refine Ext.setCell ?_ (by simp <;> omega) _ | with_reducible refine Ext.trans ?_ (by assumption)))).mono ?_
  rintro e w1 ⟨rfl, hb1⟩
  obtain ⟨hc1, hf1⟩ := hb1.cells
  go_wp2
  go_ret
  refine ⟨rfl, ?_⟩
  repeat (first | with_reducible exact Ext.refl _ | with_reducible assumption | with_reducible refine Ext.alloc ?_ _ | with_reducible refine Ext.drew ?_ | with_reducible refine Ext.drewN ?_ _ | with_reducible refine Ext.setCell ?_ (by simp <;> omega) _ | with_reducible refine Ext.trans ?_ (by assumption))
end Go.Proofs.YtaimmpcijdpgdabGreatDoor
/- A region that draws its order, taken in one order: what only computes is taken first, a call that makes memory narrows the class of worlds. No program in sight. -/
namespace Go.Proofs.YtaimmpcijdpgdabGreatDoor
open Go.RowKit
set_option linter.unusedVariables false
/-- a narrower class serves -/
theorem wpAnyH_strong {P : Program} {md : Region.Mode} {ops : Array Oper} {Q : Exit → Act → World → Prop} {S S' : World → Prop} (hs : ∀ w, S' w → S w) : ∀ (fuel : Nat) (listed : Array Bool) (a : Act) (w : World), wpAnyH P md ops Q S' fuel listed a w → wpAnyH P md ops Q S fuel listed a w
  | 0, _, _, _, h => h
  | fuel + 1, _, _, _, h => ⟨h.1, fun i hi => wpOp_mono (fun a' w' h' => ⟨hs _ h'.1, wpAnyH_strong hs fuel _ a' w' h'.2⟩) (h.2 i hi)⟩
theorem at_drop {ops : Array Oper} {i : Nat} {oi : Oper} {rest : List Oper} (h : ops.toList.drop i = oi :: rest) : ops[i]? = some oi := by
  have : (ops.toList.drop i)[0]? = some oi := by rw [h]; rfl
  rw [List.getElem?_drop] at this
  simpa using this
/-- what only computes is taken first; the frame laid out -/
theorem take_at {P : Program} {md : Region.Mode} {ops : Array Oper} {Q : Exit → Act → World → Prop} {S : World → Prop} {i : Nat} {oi : Oper} {d : Nat} {v : Value} {fuel : Nat} {listed : Array Bool} {ts : Array Value} {ds : List Deferred} {w : World} {rest : List Oper} (hi0 : ops.toList.drop i = oi :: rest) (hd : oi.dst = some d)
    (hs : Region.noSelect ops = true) (hf : Region.free md ops listed i = true) (hr : (Region.ready md ops listed).contains i = true)
    (hQ : ∀ c a w, Q (.panic c) (a.put oi.dst v) w → Q (.panic c) a w) (hy : YieldsIf P ops S oi v ⟨ts, ds⟩) (hS : S w)
    (h : wpAnyH P md ops Q S fuel (listed.setIfInBounds i true) ⟨ts.setIfInBounds d v, ds⟩ w) : wpAnyH P md ops Q S (fuel + 1) listed ⟨ts, ds⟩ w := by
  have hi := at_drop hi0
  refine wpAnyH_take (v := v) hi hs hf hr hQ hy hS ?_
  rw [hd]
  exact h
/-- a call, met by its contract; S' is the class of worlds from here on -/
theorem call_at {P : Program} {md : Region.Mode} {ops : Array Oper} {Q : Exit → Act → World → Prop} {S : World → Prop} {i : Nat} {oi : Oper} {d : Nat} {fuel : Nat} {listed : Array Bool} {ts : Array Value} {ds : List Deferred} {w : World} {F : FuncId} {vals : Array Value} {R : Ending → World → Prop} (C : Calls P F vals w R)
    {rest : List Oper} (hi0 : ops.toList.drop i = oi :: rest) (hd : oi.dst = some d) (hr : Region.ready md ops listed = [i]) (hw : Region.wanted oi (yielded ops ts) = true)
    (hx : (execOp (Act.eval ⟨ts, ds⟩) oi).run P w = .ok (.enter F vals) w)
    (h : ∀ e w', R e w' → ∃ v, e = .returned v ∧ S w' ∧ wpAnyH P md ops Q S fuel (listed.setIfInBounds i true) ⟨ts.setIfInBounds d v, ds⟩ w') : wpAnyH P md ops Q S (fuel + 1) listed ⟨ts, ds⟩ w := by
  have hi := at_drop hi0
  refine wpAnyH_all hr (by simp) ?_
  intro j hj
  obtain rfl : j = i := by simpa using hj
  unfold wpOp
  simp only [hi, hw, if_true]
  left
  unfold Oper.wp
  rw [hx]
  show Calls P F vals w _
  refine C.mono ?_
  intro e w' hR
  obtain ⟨v, rfl, hS, hrest⟩ := h e w' hR
  show S w' ∧ wpAnyH P md ops Q S fuel (listed.setIfInBounds j true) (Act.put ⟨ts, ds⟩ oi.dst v) w'
  rw [hd]
  exact ⟨hS, hrest⟩
end Go.Proofs.YtaimmpcijdpgdabGreatDoor
/- The walk of BoardCosts. -/
namespace Go.Proofs.YtaimmpcijdpgdabGreatDoor
open Go.RowKit
set_option linter.unusedVariables false
set_option linter.unusedSimpArgs false
set_option maxHeartbeats 4000000
attribute [local go_sem] later_cell later_frozen later_const
set_option maxRecDepth 100000 in
theorem boardCosts_walk (V W C P S : Int) (a : Option Addr) (len cap : Nat) (ups : List (List Int)) (a2 : Option Addr) (len2 cap2 : Nat) (ds : List DoR) (t : Int) (w : World) (wf : (Lit.int .i64 V).wf = true ∧ (Lit.int .i64 W).wf = true ∧ (Lit.int .i64 C).wf = true ∧ (Lit.int .i64 P).wf = true ∧ (Lit.int .u64 S).wf = true) (h : Came w a len cap ups) (hD : IsDos w a2 len2 cap2 ds) (wt : (Lit.int .i64 t).wf = true) (E : Parts w) :
    Calls Tryz.prog 4 #[(.agg #[.int .i64 V, .int .i64 W, .int .i64 C, .int .i64 P, .int .u64 (S), .slice a len cap]), .slice a2 len2 cap2, .int .i64 t] w fun e w' => e = .returned (.bool true) ∧ Below w.heap.size w w' := by
  have hS := wf_u64 wf.2.2.2.2
  obtain ⟨hS0, hS1⟩ := hS
  clear wf
  obtain ⟨hdl, hdc, hdm, hdo, hdr⟩ := hD
  have CL := fun w' (hx : Ext w w') => long _ ups w' (h.l.ext hx) (by rw [h.n]; exact h.m) (fun l hl => (h.each l hl).1)
  have CV := Lib.hid (fun w' (hx : Ext w w') => live12 w' (E.ext hx))
  cases hb : longB ups
  case true =>
    rw [hb] at CL
    have HCL := Lib.hid CL
    clear CL h hb E hdr hdo
    go_enter Tryz.func4, Tryz.ntmps4
    go_wp2_with fail
    refine (HCL.out _ (by repeat (first | with_reducible exact Ext.refl _ | with_reducible assumption | with_reducible refine Ext.alloc ?_ _ | with_reducible refine Ext.drew ?_ | with_reducible refine Ext.drewN ?_ _ | with_reducible refine Ext.setCell ?_ (by simp <;> omega) _ | with_reducible refine Ext.trans ?_ (by assumption)))).mono ?_
    rintro e w' ⟨rfl, rfl⟩
    go_wp2_with fail
    refine (CV.out _ (by repeat (first | with_reducible exact Ext.refl _ | with_reducible assumption | with_reducible refine Ext.alloc ?_ _ | with_reducible refine Ext.drew ?_ | with_reducible refine Ext.drewN ?_ _ | with_reducible refine Ext.setCell ?_ (by simp <;> omega) _ | with_reducible refine Ext.trans ?_ (by assumption)))).mono ?_
    rintro e w1 ⟨rfl, hb1⟩
    obtain ⟨hc1, hf1⟩ := hb1.cells
    go_wp2
    go_ret
    refine ⟨rfl, Ext.below ?_⟩
    repeat (first | with_reducible exact Ext.refl _ | with_reducible assumption | with_reducible refine Ext.alloc ?_ _ | with_reducible refine Ext.drew ?_ | with_reducible refine Ext.drewN ?_ _ | with_reducible refine Ext.setCell ?_ (by simp <;> omega) _ | with_reducible refine Ext.trans ?_ (by assumption))
  rw [hb] at CL
  have HCL := Lib.hid CL
  obtain ⟨hll, hn⟩ := came_small h hb
  obtain rfl := h.n
  have hd63 : len2 ≤ 9223372036854775807 := by unfold maxLen at hdm; omega
  by_cases h200 : 200 < len2
  · have d200 : decide ((200 : Int) < (len2 : Int)) = true := by simp; omega
    clear CL h hb E hdr hdo hll hn
    generalize ups.length = n at *
    go_enter Tryz.func4, Tryz.ntmps4
    go_wp2_with fail
    refine (HCL.out _ (by repeat (first | with_reducible exact Ext.refl _ | with_reducible assumption | with_reducible refine Ext.alloc ?_ _ | with_reducible refine Ext.drew ?_ | with_reducible refine Ext.drewN ?_ _ | with_reducible refine Ext.setCell ?_ (by simp <;> omega) _ | with_reducible refine Ext.trans ?_ (by assumption)))).mono ?_
    rintro e w' ⟨rfl, rfl⟩
    go_wp2_with fail
    refine (CV.out _ (by repeat (first | with_reducible exact Ext.refl _ | with_reducible assumption | with_reducible refine Ext.alloc ?_ _ | with_reducible refine Ext.drew ?_ | with_reducible refine Ext.drewN ?_ _ | with_reducible refine Ext.setCell ?_ (by simp <;> omega) _ | with_reducible refine Ext.trans ?_ (by assumption)))).mono ?_
    rintro e w2 ⟨rfl, hb2⟩
    obtain ⟨hc2, hf2⟩ := hb2.cells
    go_wp2
    go_ret
    refine ⟨rfl, Ext.below ?_⟩
    repeat (first | with_reducible exact Ext.refl _ | with_reducible assumption | with_reducible refine Ext.alloc ?_ _ | with_reducible refine Ext.drew ?_ | with_reducible refine Ext.drewN ?_ _ | with_reducible refine Ext.setCell ?_ (by simp <;> omega) _ | with_reducible refine Ext.trans ?_ (by assumption))
  have d200 : decide ((200 : Int) < (len2 : Int)) = false := by simp; omega
  have CR := fun w' (hx : Ext w w') => r10Right V W C P S _ ups w' (h.l.ext hx) hll hn
  by_cases hg : ckC V W C P ups = 0
  case neg =>
    rw [show (ckC V W C P ups == 0) = false by simpa using hg] at CR
    have HCR := Lib.hid CR
    clear CL CR h hb E hdr hdo hll hg hn
    generalize ups.length = n at *
    go_enter Tryz.func4, Tryz.ntmps4
    go_wp2_with fail
    refine (HCL.out _ (by repeat (first | with_reducible exact Ext.refl _ | with_reducible assumption | with_reducible refine Ext.alloc ?_ _ | with_reducible refine Ext.drew ?_ | with_reducible refine Ext.drewN ?_ _ | with_reducible refine Ext.setCell ?_ (by simp <;> omega) _ | with_reducible refine Ext.trans ?_ (by assumption)))).mono ?_
    rintro e w' ⟨rfl, rfl⟩
    go_wp2_with fail
    refine (HCR.out _ (by repeat (first | with_reducible exact Ext.refl _ | with_reducible assumption | with_reducible refine Ext.alloc ?_ _ | with_reducible refine Ext.drew ?_ | with_reducible refine Ext.drewN ?_ _ | with_reducible refine Ext.setCell ?_ (by simp <;> omega) _ | with_reducible refine Ext.trans ?_ (by assumption)))).mono ?_
    rintro e w3 ⟨rfl, hb3⟩
    obtain ⟨hc3, hf3⟩ := hb3.cells
    go_wp2_with fail
    refine (CV.out _ (by repeat (first | with_reducible exact Ext.refl _ | with_reducible assumption | with_reducible refine Ext.alloc ?_ _ | with_reducible refine Ext.drew ?_ | with_reducible refine Ext.drewN ?_ _ | with_reducible refine Ext.setCell ?_ (by simp <;> omega) _ | with_reducible refine Ext.trans ?_ (by assumption)))).mono ?_
    rintro e w4 ⟨rfl, hb4⟩
    obtain ⟨hc4, hf4⟩ := hb4.cells
    go_wp2
    go_ret
    refine ⟨rfl, Ext.below ?_⟩
    repeat (first | with_reducible exact Ext.refl _ | with_reducible assumption | with_reducible refine Ext.alloc ?_ _ | with_reducible refine Ext.drew ?_ | with_reducible refine Ext.drewN ?_ _ | with_reducible refine Ext.setCell ?_ (by simp <;> omega) _ | with_reducible refine Ext.trans ?_ (by assumption))
  rw [show (ckC V W C P ups == 0) = true by simpa using hg] at CR
  by_cases hw : W = 64
  case neg =>
    have HCR := Lib.hid CR
    have dw : (W == 64) = false := by simpa using hw
    clear CL CR h hb E hdr hdo hll hg hn hw
    generalize ups.length = n at *
    go_enter Tryz.func4, Tryz.ntmps4
    go_wp2_with fail
    refine (HCL.out _ (by repeat (first | with_reducible exact Ext.refl _ | with_reducible assumption | with_reducible refine Ext.alloc ?_ _ | with_reducible refine Ext.drew ?_ | with_reducible refine Ext.drewN ?_ _ | with_reducible refine Ext.setCell ?_ (by simp <;> omega) _ | with_reducible refine Ext.trans ?_ (by assumption)))).mono ?_
    rintro e w' ⟨rfl, rfl⟩
    go_wp2_with fail
    refine (HCR.out _ (by repeat (first | with_reducible exact Ext.refl _ | with_reducible assumption | with_reducible refine Ext.alloc ?_ _ | with_reducible refine Ext.drew ?_ | with_reducible refine Ext.drewN ?_ _ | with_reducible refine Ext.setCell ?_ (by simp <;> omega) _ | with_reducible refine Ext.trans ?_ (by assumption)))).mono ?_
    rintro e w5 ⟨rfl, hb5⟩
    obtain ⟨hc5, hf5⟩ := hb5.cells
    clear hc5 hf5
    have qc_0 : w5.cell? ⟨w.heap.size, 0, none⟩ = some (.int .i64 V) := (hb5.cells.1 _ _ (by simp <;> omega)).trans (by simp [go_sem])
    have qc_1 : w5.cell? ⟨w.heap.size, 1, none⟩ = some (.int .i64 W) := (hb5.cells.1 _ _ (by simp <;> omega)).trans (by simp [go_sem])
    have qc_2 : w5.cell? ⟨w.heap.size, 2, none⟩ = some (.int .i64 C) := (hb5.cells.1 _ _ (by simp <;> omega)).trans (by simp [go_sem])
    have qc_3 : w5.cell? ⟨w.heap.size, 3, none⟩ = some (.int .i64 P) := (hb5.cells.1 _ _ (by simp <;> omega)).trans (by simp [go_sem])
    have qc_4 : w5.cell? ⟨w.heap.size, 4, none⟩ = some (.int .u64 (S)) := (hb5.cells.1 _ _ (by simp <;> omega)).trans (by simp [go_sem])
    have qc_5 : w5.cell? ⟨w.heap.size, 5, none⟩ = some (.slice a n cap) := (hb5.cells.1 _ _ (by simp <;> omega)).trans (by simp [go_sem])
    have pc := World.block_lt_of_cell? _ ⟨w.heap.size, 0, none⟩ qc_0
    have rc := Nat.lt_succ_of_lt pc
    go_wp2_with fail
    refine (CV.out _ (by repeat (first | with_reducible exact Ext.refl _ | with_reducible assumption | with_reducible refine Ext.alloc ?_ _ | with_reducible refine Ext.drew ?_ | with_reducible refine Ext.drewN ?_ _ | with_reducible refine Ext.setCell ?_ (by simp <;> omega) _ | with_reducible refine Ext.trans ?_ (by assumption)))).mono ?_
    rintro e w6 ⟨rfl, hb6⟩
    have hx6 : Ext w5 w6 := by repeat (first | with_reducible exact Ext.refl _ | with_reducible assumption | with_reducible refine Ext.alloc ?_ _ | with_reducible refine Ext.drew ?_ | with_reducible refine Ext.drewN ?_ _ | with_reducible refine Ext.setCell ?_ (by simp <;> omega) _ | with_reducible refine Ext.trans ?_ (by assumption))
    replace qc_0 := hx6.cell qc_0
    replace qc_1 := hx6.cell qc_1
    replace qc_2 := hx6.cell qc_2
    replace qc_3 := hx6.cell qc_3
    replace qc_4 := hx6.cell qc_4
    replace qc_5 := hx6.cell qc_5
    replace pc := Nat.lt_of_lt_of_le pc hx6.size
    replace rc := Nat.lt_succ_of_lt pc
    clear hx6
    go_wp2
    go_ret
    refine ⟨rfl, Ext.below ?_⟩
    repeat (first | with_reducible exact Ext.refl _ | with_reducible assumption | with_reducible refine Ext.alloc ?_ _ | with_reducible refine Ext.drew ?_ | with_reducible refine Ext.drewN ?_ _ | with_reducible refine Ext.setCell ?_ (by simp <;> omega) _ | with_reducible refine Ext.trans ?_ (by assumption))
  subst hw
  have HCR := Lib.hid CR
  have h2l : len2 ≤ 200 := by omega
  have ok := ok_iff.1 hg
  have hok := numOk ok
  have hbd := num_bounds hok
  obtain ⟨n, hn0⟩ : ∃ n, n = ups.length := ⟨_, rfl⟩
  obtain ⟨m, hm⟩ : ∃ m : Nat, (m : Int) = nCe V n C := ⟨(nCe V n C).toNat, by rw [hn0]; omega⟩
  have hokn : NumOk V n C := by rw [hn0]; exact hok
  have CO := fun w' (hx : Ext w w') => lOf_ok V 64 C P S _ ups w' (h.l.ext hx) hll hn hg
  have CNW := fun bo w' (hL' : OwnL w' (.slice (some ⟨bo, 0, none⟩) ups.length ups.length) ups) (xu xl xt xs xn xm xo : Int) => New64 V C P S (some ⟨bo, 0, none⟩) ups.length ups xu xl xt xs xn xm xo m w' hL'.lists hll hn hg hS0 hS1 (by rw [← hn0]; exact hm)
  rw [← hn0] at CO CNW
  have CRN := fun w' => rNew12 V 64 C P S a n cap m w' hokn (.inr rfl) ok.rc hS0 hm
  have HRO : Hid (∀ bo (r : RY), r.m = m → r.W = 64 → r.C = C → (∀ c : Nat, c < m → r.kf c = pKind (useN V n C c).1.toNat) → Rel (yOf V 64 C P S bo n m) r 64) := Lib.hid (fun bo r a1 a2 a3 a4 => rel_of hokn hm a1 a2 a3 a4)
  have HRNG : Hid (∀ i, i < m → 0 ≤ fsC V 64 C S n i ∧ fsC V 64 C S n i < 18446744073709551616) := Lib.hid (fun i _ => fst_rng (.inr rfl) ok.rc hS0 hS1 _ _)
  have HYOK : Hid (∀ bo, YOk (yOf V 64 C P S bo n m)) := Lib.hid (fun bo => yOf_ok hokn hm)
  obtain ⟨Cu, hCu⟩ : ∃ x, x = nCu V n := ⟨_, rfl⟩
  obtain ⟨Cl, hCl⟩ : ∃ x, x = nCl V n := ⟨_, rfl⟩
  obtain ⟨Ti, hTi⟩ : ∃ x, x = nTi V n := ⟨_, rfl⟩
  obtain ⟨Se, hSe⟩ : ∃ x, x = nSe V n := ⟨_, rfl⟩
  obtain ⟨Ne, hNe⟩ : ∃ x, x = nNe V n := ⟨_, rfl⟩
  obtain ⟨Ma, hMa⟩ : ∃ x, x = nMa V n := ⟨_, rfl⟩
  obtain ⟨Sl, hSl⟩ : ∃ x, x = nSl V n C := ⟨_, rfl⟩
  have hLay : ∀ u, layV V 64 C P S u n = (.agg #[.int .i64 V, .int .i64 64, .int .i64 C, .int .i64 P, .int .u64 S, u, .int .i64 Cu, .int .i64 Cl, .int .i64 Ti, .int .i64 Se, .int .i64 Ne, .int .i64 Ma, .int .i64 Sl, .int .i64 m]) := fun u => by unfold layV; rw [hCu, hCl, hTi, hSe, hNe, hMa, hSl, hm]
  have HLAY := Lib.hid hLay
  have HCO := Lib.hid CO
  have HCNW := Lib.hid CNW
  have HCRN := Lib.hid CRN
  have HM : Hid (∀ bo, (yOf V 64 C P S bo n m).m = m) := Lib.hid (fun _ => rfl)
  have HE := Lib.hid E
  have HDO := Lib.hid hdo
  have HDR := Lib.hid hdr
  have HDL := Lib.hid hdl
  have HN0 := Lib.hid hn0
  rw [← hn0] at HCL HCR ⊢
  clear CL CR CO CNW CRN h hb E hll hg ok hok hokn hbd hn hLay hCu hCl hTi hSe hNe hMa hSl hm hn0 hdo hdr hdl hS0 hS1 h200
  generalize hF : fsC V 64 C S n = F at *
  have HFF := Lib.hid hF
  generalize hY : (fun bo => yOf V 64 C P S bo n m) = Y0 at *
  have HY0 : Hid (∀ bo, yOf V 64 C P S bo n m = Y0 bo) := Lib.hid (fun bo => by rw [← hY])
  clear hF hY
  go_enter Tryz.func4, Tryz.ntmps4
  go_wp2_with fail
  refine (HCL.out _ (by repeat (first | with_reducible exact Ext.refl _ | with_reducible assumption | with_reducible refine Ext.alloc ?_ _ | with_reducible refine Ext.drew ?_ | with_reducible refine Ext.drewN ?_ _ | with_reducible refine Ext.setCell ?_ (by simp <;> omega) _ | with_reducible refine Ext.trans ?_ (by assumption)))).mono ?_
  rintro e w' ⟨rfl, rfl⟩
  go_wp2_with fail
  refine (HCR.out _ (by repeat (first | with_reducible exact Ext.refl _ | with_reducible assumption | with_reducible refine Ext.alloc ?_ _ | with_reducible refine Ext.drew ?_ | with_reducible refine Ext.drewN ?_ _ | with_reducible refine Ext.setCell ?_ (by simp <;> omega) _ | with_reducible refine Ext.trans ?_ (by assumption)))).mono ?_
  rintro e w7 ⟨rfl, hb7⟩
  obtain ⟨hc7, hf7⟩ := hb7.cells
  clear hc7 hf7
  have qc_0 : w7.cell? ⟨w.heap.size, 0, none⟩ = some (.int .i64 V) := (hb7.cells.1 _ _ (by simp <;> omega)).trans (by simp [go_sem])
  have qc_1 : w7.cell? ⟨w.heap.size, 1, none⟩ = some (.int .i64 64) := (hb7.cells.1 _ _ (by simp <;> omega)).trans (by simp [go_sem])
  have qc_2 : w7.cell? ⟨w.heap.size, 2, none⟩ = some (.int .i64 C) := (hb7.cells.1 _ _ (by simp <;> omega)).trans (by simp [go_sem])
  have qc_3 : w7.cell? ⟨w.heap.size, 3, none⟩ = some (.int .i64 P) := (hb7.cells.1 _ _ (by simp <;> omega)).trans (by simp [go_sem])
  have qc_4 : w7.cell? ⟨w.heap.size, 4, none⟩ = some (.int .u64 (S)) := (hb7.cells.1 _ _ (by simp <;> omega)).trans (by simp [go_sem])
  have qc_5 : w7.cell? ⟨w.heap.size, 5, none⟩ = some (.slice a n cap) := (hb7.cells.1 _ _ (by simp <;> omega)).trans (by simp [go_sem])
  have pc := World.block_lt_of_cell? _ ⟨w.heap.size, 0, none⟩ qc_0
  have rc := Nat.lt_succ_of_lt pc
  go_wp2_with fail
  have E1 : Ext w w7 := by repeat (first | with_reducible exact Ext.refl _ | with_reducible assumption | with_reducible refine Ext.alloc ?_ _ | with_reducible refine Ext.drew ?_ | with_reducible refine Ext.drewN ?_ _ | with_reducible refine Ext.setCell ?_ (by simp <;> omega) _ | with_reducible refine Ext.trans ?_ (by assumption))
  refine (HCO.out _ E1).mono ?_
  rintro e wo ⟨uo, rfl, Oo, Xo⟩
  obtain ⟨bo, fo, cuo, eo, -⟩ := id Oo
  rw [← HN0.out] at eo ⊢
  subst eo
  rw [HLAY.out]
  have xo := E1.trans Xo
  have HOo := Lib.hid (Oo.ext ((Ext.refl wo).alloc (.cells #[.int .i64 V, .int .i64 64, .int .i64 C, .int .i64 P, .int .u64 S, .slice (some ⟨bo, 0, none⟩) n n, .int .i64 Cu, .int .i64 Cl, .int .i64 Ti, .int .i64 Se, .int .i64 Ne, .int .i64 Ma, .int .i64 Sl, .int .i64 m] 31)))
  replace qc_0 := Xo.cell qc_0
  replace qc_1 := Xo.cell qc_1
  replace qc_2 := Xo.cell qc_2
  replace qc_3 := Xo.cell qc_3
  replace qc_4 := Xo.cell qc_4
  replace qc_5 := Xo.cell qc_5
  clear Xo Oo E1
  have EA : Ext w (wo.alloc (.cells #[.int .i64 V, .int .i64 64, .int .i64 C, .int .i64 P, .int .u64 S, .slice (some ⟨bo, 0, none⟩) n n, .int .i64 Cu, .int .i64 Cl, .int .i64 Ti, .int .i64 Se, .int .i64 Ne, .int .i64 Ma, .int .i64 Sl, .int .i64 m] 31)) := xo.alloc _
  go_upto_region 4 with (fail)
  refine settle_wp ?_
  intro wA hbA
  have XA : Ext wo wA := Ext.trans ((Ext.refl wo).alloc _) hbA
  have ql_0 : wA.cell? ⟨wo.heap.size, 0, none⟩ = some (.int .i64 V) := hbA.cell (by simp [go_sem])
  have ql_1 : wA.cell? ⟨wo.heap.size, 1, none⟩ = some (.int .i64 64) := hbA.cell (by simp [go_sem])
  have ql_2 : wA.cell? ⟨wo.heap.size, 2, none⟩ = some (.int .i64 C) := hbA.cell (by simp [go_sem])
  have ql_3 : wA.cell? ⟨wo.heap.size, 3, none⟩ = some (.int .i64 P) := hbA.cell (by simp [go_sem])
  have ql_4 : wA.cell? ⟨wo.heap.size, 4, none⟩ = some (.int .u64 S) := hbA.cell (by simp [go_sem])
  have ql_5 : wA.cell? ⟨wo.heap.size, 5, none⟩ = some (.slice (some ⟨bo, 0, none⟩) n n) := hbA.cell (by simp [go_sem])
  have ql_6 : wA.cell? ⟨wo.heap.size, 6, none⟩ = some (.int .i64 Cu) := hbA.cell (by simp [go_sem])
  have ql_7 : wA.cell? ⟨wo.heap.size, 7, none⟩ = some (.int .i64 Cl) := hbA.cell (by simp [go_sem])
  have ql_8 : wA.cell? ⟨wo.heap.size, 8, none⟩ = some (.int .i64 Ti) := hbA.cell (by simp [go_sem])
  have ql_9 : wA.cell? ⟨wo.heap.size, 9, none⟩ = some (.int .i64 Se) := hbA.cell (by simp [go_sem])
  have ql_10 : wA.cell? ⟨wo.heap.size, 10, none⟩ = some (.int .i64 Ne) := hbA.cell (by simp [go_sem])
  have ql_11 : wA.cell? ⟨wo.heap.size, 11, none⟩ = some (.int .i64 Ma) := hbA.cell (by simp [go_sem])
  have ql_12 : wA.cell? ⟨wo.heap.size, 12, none⟩ = some (.int .i64 Sl) := hbA.cell (by simp [go_sem])
  have ql_13 : wA.cell? ⟨wo.heap.size, 13, none⟩ = some (.int .i64 m) := hbA.cell (by simp [go_sem])
  replace qc_0 := XA.cell qc_0
  replace qc_1 := XA.cell qc_1
  replace qc_2 := XA.cell qc_2
  replace qc_3 := XA.cell qc_3
  replace qc_4 := XA.cell qc_4
  replace qc_5 := XA.cell qc_5
  have EWA := xo.trans XA
  have HOA := Lib.hid (HOo.out.ext hbA)
  clear hbA XA HOo xo EA
  refine wp_region_held_drew (S := fun w' => Ext wA w') (by kernel_rfl) ?hbeg (fun hHeld => ?_)
  case hbeg => exact (Ext.refl wA).drew
  have l_0 := fun w' (hx : Ext wA w') => hx.cell ql_0
  have l_1 := fun w' (hx : Ext wA w') => hx.cell ql_1
  have l_2 := fun w' (hx : Ext wA w') => hx.cell ql_2
  have l_3 := fun w' (hx : Ext wA w') => hx.cell ql_3
  have l_4 := fun w' (hx : Ext wA w') => hx.cell ql_4
  have l_5 := fun w' (hx : Ext wA w') => hx.cell ql_5
  have l_6 := fun w' (hx : Ext wA w') => hx.cell ql_6
  have l_7 := fun w' (hx : Ext wA w') => hx.cell ql_7
  have l_8 := fun w' (hx : Ext wA w') => hx.cell ql_8
  have l_9 := fun w' (hx : Ext wA w') => hx.cell ql_9
  have l_10 := fun w' (hx : Ext wA w') => hx.cell ql_10
  have l_11 := fun w' (hx : Ext wA w') => hx.cell ql_11
  have l_12 := fun w' (hx : Ext wA w') => hx.cell ql_12
  have l_13 := fun w' (hx : Ext wA w') => hx.cell ql_13
  have c_0 := fun w' (hx : Ext wA w') => hx.cell qc_0
  have c_1 := fun w' (hx : Ext wA w') => hx.cell qc_1
  have c_2 := fun w' (hx : Ext wA w') => hx.cell qc_2
  have c_3 := fun w' (hx : Ext wA w') => hx.cell qc_3
  have c_4 := fun w' (hx : Ext wA w') => hx.cell qc_4
  have c_5 := fun w' (hx : Ext wA w') => hx.cell qc_5
  refine take_at (i := 0) (v := ?_) rfl rfl (by kernel_rfl) (by kernel_rfl) (by kernel_rfl) (fun _ _ _ h => h) (Or.inl ⟨by rfl, ?hy⟩) (by assumption) ?_
  case hy => (intro wz hSw; (try dsimp only at hSw); go_simp <;> with_reducible rfl)
  simp only [List.setIfInBounds_toArray, List.set_cons_zero, List.set_cons_succ]
  refine take_at (i := 2) (v := ?_) rfl rfl (by kernel_rfl) (by kernel_rfl) (by kernel_rfl) (fun _ _ _ h => h) (Or.inl ⟨by rfl, ?hy⟩) (by assumption) ?_
  case hy => (intro wz hSw; (try dsimp only at hSw); go_simp <;> with_reducible rfl)
  simp only [List.setIfInBounds_toArray, List.set_cons_zero, List.set_cons_succ]
  clear l_0 l_1 l_2 l_3 l_4 l_5 l_6 l_7 l_8 l_9 l_10 l_11 l_12 l_13 c_0 c_1 c_2 c_3 c_4 c_5
  refine call_at (i := 1) (F := 11) (HCNW.out bo _ (HOA.out.ext hHeld) Cu Cl Ti Se Ne Ma Sl) rfl rfl (by kernel_rfl) (by rfl) (by first | rfl | (go_simp <;> rfl)) ?_
  rintro e w3 ⟨b, g, bo3, rfl, B3, O3, X3, hb3, hg3⟩
  have Y3 := Ext.trans hHeld X3
  refine ⟨_, rfl, Y3, wpAnyH_strong (S' := fun w' => Ext w3 w') (fun w' h => Ext.trans Y3 h) _ _ _ _ ?_⟩
  simp only [List.setIfInBounds_toArray, List.set_cons_zero, List.set_cons_succ]
  have hs3 : wA.heap.size ≤ wA.drew.heap.size := hHeld.size
  replace hb3 := Nat.le_trans hs3 hb3
  replace hg3 := Nat.le_trans hs3 hg3
  rw [← HN0.out, HFF.out] at B3
  clear hHeld X3 hs3
  have hHeld := Ext.refl w3
  refine call_at (i := 3) (F := 12) (HCRN.out _) rfl rfl (by kernel_rfl) (by rfl) (by first | rfl | (go_simp <;> rfl)) ?_
  rintro e w4 ⟨b', r, rfl, R4, rm, rW, rC, rk, X4, hb4, hg4⟩
  refine ⟨_, rfl, X4, wpAnyH_strong (S' := fun w' => Ext w4 w') (fun w' h => Ext.trans X4 h) _ _ _ _ ?_⟩
  simp only [List.setIfInBounds_toArray, List.set_cons_zero, List.set_cons_succ]
  rw [HFF.out] at R4
  have HREL := Lib.hid (HRO.out bo3 r rm rW rC rk)
  have HTWO0 := Lib.hid (two_new B3 Y3 hb3 hg3 R4 X4 hb4 hg4)
  have HYO0 := Lib.hid (HYOK.out bo3)
  rw [HY0.out] at HREL HTWO0 HYO0
  have hYm : (Y0 bo3).m = m := by rw [← HY0.out]; rfl
  generalize Y0 bo3 = y at *
  clear hHeld B3 O3 R4 rm rW rC rk X4 Y3 HCNW HCRN HCO HLAY HCL HCR HRO
  have hHeld := Ext.refl w4
  refine take_at (i := 4) (v := ?_) rfl rfl (by kernel_rfl) (by kernel_rfl) (by kernel_rfl) (fun _ _ _ h => h) (Or.inl ⟨by rfl, ?hy⟩) (by assumption) ?_
  case hy => (intro wz hSw; (try dsimp only at hSw); go_simp <;> with_reducible rfl)
  simp only [List.setIfInBounds_toArray, List.set_cons_zero, List.set_cons_succ]
  refine take_at (i := 5) (v := ?_) rfl rfl (by kernel_rfl) (by kernel_rfl) (by kernel_rfl) (fun _ _ _ h => h) (Or.inl ⟨by rfl, ?hy⟩) (by assumption) ?_
  case hy => (intro wz hSw; (try dsimp only at hSw); go_simp <;> with_reducible rfl)
  simp only [List.setIfInBounds_toArray, List.set_cons_zero, List.set_cons_succ]
  refine wpAnyH_done (by kernel_rfl) ?_ _
  go_wp2
  go_loopw [11] (fun i wr => ∃ k : Nat, k ≤ len2 ∧ i = .int .i64 k ∧ ∃ f lv lv' log, Two wA wr 75 b g y f lv log b' r f lv' log ∧ Chain y.m F f log ∧ log.length ≤ k) (fun i _ => len2 - (intOf i).toNat)
  case atStart => exact ⟨0, Nat.zero_le _, rfl, F, _, _, [], HTWO0.out, Chain.nil (by rw [hYm]; exact HRNG.out), Nat.le_refl _⟩
  case round =>
    obtain ⟨k, hk, rfl, f, lv, lv', log, hT, hC, hL⟩ := hrel
    have hx := hT.ex
    by_cases hlt : k < len2
    · have hkl : (k : Int) < (len2 : Int) := by omega
      have hkd : k < ds.length := by rw [HDL.out]; exact hlt
      obtain ⟨db, doff, ea, hcell⟩ := HDR.out k hkd
      subst ea
      have hok := HDO.out _ (List.getElem_mem hkd)
      obtain ⟨_, _, _, _, wo', wz'⟩ := hok
      obtain ⟨o0, o1⟩ := wf_u64 wo'
      obtain ⟨z0, z1⟩ := wf_u64 wz'
      have CS := Lib.hid (great_step b g y f lv log ds[k] wr hT.B HYO0.out (HE.out.ext (EWA.trans hx)) (by omega) hC.rng o0 o1 z0 z1)
      have CM := Lib.hid (fun w' (hR : RB w' b' r f lv' log) => model_step b' r y 64 f lv' log ds[k] w' hR HREL.out (.inr rfl) (nar64 y f) (by omega) hC.rng o0 z0)
      have HCELL : Hid (∀ w', Ext wA w' → w'.cell? ⟨db, doff + k * 6, none⟩ = some (.int .i64 ds[k].t) ∧ w'.cell? ⟨db, doff + k * 6 + 1, none⟩ = some (.int .i64 ds[k].k) ∧ w'.cell? ⟨db, doff + k * 6 + 2, none⟩ = some (.int .i64 ds[k].c) ∧ w'.cell? ⟨db, doff + k * 6 + 3, none⟩ = some (.int .i64 ds[k].n) ∧ w'.cell? ⟨db, doff + k * 6 + 4, none⟩ = some (.int .u64 ds[k].o) ∧ w'.cell? ⟨db, doff + k * 6 + 5, none⟩ = some (.int .u64 ds[k].z)) := Lib.hid (fun w' hx' => ⟨(EWA.trans hx').cell (hcell 0 _ rfl), (EWA.trans hx').cell (hcell 1 _ rfl), (EWA.trans hx').cell (hcell 2 _ rfl), (EWA.trans hx').cell (hcell 3 _ rfl), (EWA.trans hx').cell (hcell 4 _ rfl), (EWA.trans hx').cell (hcell 5 _ rfl)⟩)
      have HST := Lib.hid (hC.stp 64 (.inr rfl) ds[k] z0 z1)
      have HSL := Lib.hid (stp_len y 64 (.inr rfl) ds[k] f log hC.rng z0 z1)
      have HT := Lib.hid hT
      have HLL := Lib.hid hL
      generalize ds[k] = d at *
      obtain ⟨c0, c1, c2, c3, c4, c5⟩ := HCELL.out wr hx
      clear hT hC hL hx hcell wo' wz' o0 o1 z0 z1 hkd
      go_wp2_with fail
      refine CS.out.mono ?_
      rintro e w5 ⟨rfl, lv5, B5, T5, A5⟩
      have T2 := HT.out.stepB (by decide) B5 T5 A5
      have HT2 := Lib.hid T2
      have hx5 := T2.ex
      clear B5 T5 A5 c0 c1 c2 c3 c4 c5 T2
      obtain ⟨c0, c1, c2, c3, c4, c5⟩ := HCELL.out w5 hx5
      go_wp2_with fail
      refine (CM.out _ HT2.out.R).mono ?_
      rintro e w6 ⟨rfl, lv6, R6, T6, A6⟩
      have HT3 := Lib.hid (HT2.out.stepR R6 T6 A6)
      clear R6 T6 A6 c0 c1 c2 c3 c4 c5 hx5
      go_wp2
      exact ⟨⟨k + 1, by omega, by go_num, _, lv5, lv6, _, HT3.out, HST.out, by have := HSL.out; have := HLL.out; omega⟩, by simp [intOf]; omega⟩
    · obtain rfl : k = len2 := by omega
      have hlog : log.length ≤ 200 := by omega
      have CRC := Lib.hid (rCost 0 lv' log t wr hT.R.row (by omega))
      have q8 := hT.R.q8
      have CC := Lib.hid (fun w' (hx : Ext wr w') => Cost64 b g y f lv log t w' (hT.B.ext hx) (by omega))
      have b1 := nL_le t log
      have b2 := nC_le t log
      have CF1 := Lib.hid (fun w' => first_yes (Go.Proofs.YtaimmpcijdpgdabGreatDoor.F (nL t log)) (Go.Proofs.YtaimmpcijdpgdabGreatDoor.F (nC t log)) (nL t log) (nC t log) w' (cnt_F (by omega) (by omega)) (cnt_F (by omega) (by omega)))
      have CF2 := Lib.hid (fun w' => second_yes (Go.Proofs.YtaimmpcijdpgdabGreatDoor.F (nL t log)) (Go.Proofs.YtaimmpcijdpgdabGreatDoor.F (nC t log)) (nL t log) (nC t log) w' (cnt_F (by omega) (by omega)) (cnt_F (by omega) (by omega)))
      have EW := EWA.trans hx
      generalize nL t log = x at *
      generalize nC t log = z at *
      clear hT hC hL hx
      go_wp2_with fail
      refine CRC.out.mono ?_
      rintro e w' ⟨rfl, rfl⟩
      go_wp2_with fail
      refine (CC.out _ (Ext.refl _)).mono ?_
      rintro e w5 ⟨rfl, X5⟩
      go_wp2_with fail
      refine (CF1.out _).mono ?_
      rintro e w' ⟨rfl, rfl⟩
      go_wp2_with fail
      refine (CC.out _ X5).mono ?_
      rintro e w6 ⟨rfl, X6⟩
      go_wp2_with fail
      refine (CF2.out _).mono ?_
      rintro e w' ⟨rfl, rfl⟩
      go_wp2_with fail
      have E6 := (EW.trans X5).trans X6
      refine (CV.out _ E6).mono ?_
      rintro e w7 ⟨rfl, X7⟩
      have HE7 := Lib.hid (E6.trans X7)
      clear X7 X6 X5 E6
      go_wp2
      go_ret
      exact ⟨rfl, Ext.below HE7.out⟩
end Go.Proofs.YtaimmpcijdpgdabGreatDoor

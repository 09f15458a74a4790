/- The document's Check of layer 10. -/
import Derived.Test.YtkmfamidahlgiaaGreatDoorCf
namespace Go.Proofs.YtkmfamidahlgiaaGreatDoor
open Go.RowKit
set_option linter.unusedVariables false
set_option maxHeartbeats 1000000
attribute [local go_sem] later_cell later_frozen later_const
theorem r10Chk (V W C P S : Int) (u : Value) (ups : List (List Int)) (w : World) (hL : ListsV w u ups) (hll : ∀ l ∈ ups, l.length ≤ 1000000) (hn : ups.length ≤ 1000000) :
    Calls Tryz.prog 49 #[(.agg #[.int .i64 V, .int .i64 W, .int .i64 C, .int .i64 P, .int .u64 (S), u])] w fun e w' => e = .returned (.int .i64 (ckC V W C P ups)) ∧ Ext w w' := by
  obtain ⟨a, cap, e, -⟩ := id hL
  subst e
  have CG := Lib.hid (fun w' (hx : Ext w w') => rChk9 _ ups w' (hL.ext hx) hll hn)
  clear hL hll
  generalize ups.length = n at *
  by_cases hV1 : V < 1
  · rw [show ckC V W C P ups = 2 by simp [ckC, hV1]]
    have d : decide (V < 1) = true := by simpa using hV1
    clear hV1
    go_enter Tryz.func49, Tryz.ntmps49
    go_wp2
    go_ret
    refine ⟨rfl, ?_⟩
    repeat (first | with_reducible exact Ext.refl _ | with_reducible assumption | with_reducible refine Ext.alloc ?_ _ | with_reducible refine Ext.drew ?_ | with_reducible refine Ext.drewN ?_ _ | with_reducible refine Ext.setCell ?_ (by simp <;> omega) _ | with_reducible refine Ext.trans ?_ (by assumption))
  have d1 : decide (V < 1) = false := by simpa using hV1
  by_cases hV5 : 5 < V
  · rw [show ckC V W C P ups = 2 by simp [ckC, hV5]]
    clear hV1
    go_enter Tryz.func49, Tryz.ntmps49
    go_wp2
    go_ret
    refine ⟨rfl, ?_⟩
    repeat (first | with_reducible exact Ext.refl _ | with_reducible assumption | with_reducible refine Ext.alloc ?_ _ | with_reducible refine Ext.drew ?_ | with_reducible refine Ext.drewN ?_ _ | with_reducible refine Ext.setCell ?_ (by simp <;> omega) _ | with_reducible refine Ext.trans ?_ (by assumption))
  have hVV : ¬ (V < 1 ∨ 5 < V) := by omega
  by_cases hW : ¬ (W = 32 ∨ W = 64)
  · rw [show ckC V W C P ups = 3 by rw [ckC, if_neg hVV, if_pos hW]]
    have k1 : (W != 32) = true := by simp; omega
    have k2 : (W != 64) = true := by simp; omega
    clear hV1 hVV hW
    go_enter Tryz.func49, Tryz.ntmps49
    go_wp2
    go_ret
    refine ⟨rfl, ?_⟩
    repeat (first | with_reducible exact Ext.refl _ | with_reducible assumption | with_reducible refine Ext.alloc ?_ _ | with_reducible refine Ext.drew ?_ | with_reducible refine Ext.drewN ?_ _ | with_reducible refine Ext.setCell ?_ (by simp <;> omega) _ | with_reducible refine Ext.trans ?_ (by assumption))
  have hW2 : W = 32 ∨ W = 64 := by omega
  rcases hW2 with rfl | rfl
  · clear hW
    have hW : ¬ ¬ ((32 : Int) = 32 ∨ (32 : Int) = 64) := by omega
    by_cases hC : rightB C = false
    · rw [show ckC V 32 C P ups = 4 by rw [ckC, if_neg hVV, if_neg hW, if_pos hC]]
      have CR := fun w => r2Right C w
      rw [hC] at CR
      have HCR := Lib.hid CR
      clear hV1 hVV hW CR hC
      go_enter Tryz.func49, Tryz.ntmps49
      go_wp2_with fail
      refine (HCR.out _).mono ?_
      rintro e w' ⟨rfl, rfl⟩
      go_wp2
      go_ret
      refine ⟨rfl, ?_⟩
      repeat (first | with_reducible exact Ext.refl _ | with_reducible assumption | with_reducible refine Ext.alloc ?_ _ | with_reducible refine Ext.drew ?_ | with_reducible refine Ext.drewN ?_ _ | with_reducible refine Ext.setCell ?_ (by simp <;> omega) _ | with_reducible refine Ext.trans ?_ (by assumption))
    have hCt : rightB C = true := by cases h : rightB C <;> simp_all
    have hCr := right_range hCt
    have CR := fun w => r2Right C w
    rw [hCt] at CR
    have HCR := Lib.hid CR
    clear CR
    by_cases hP1 : P < 1
    · rw [show ckC V 32 C P ups = 5 by rw [ckC, if_neg hVV, if_neg hW, if_neg hC, if_pos (.inl hP1)]]
      have k1 : decide (P < 1) = true := by simpa using hP1
      clear hV1 hVV hW hC hP1 hCt hCr
      go_enter Tryz.func49, Tryz.ntmps49
      go_wp2_with fail
      refine (HCR.out _).mono ?_
      rintro e w' ⟨rfl, rfl⟩
      go_wp2
      go_ret
      refine ⟨rfl, ?_⟩
      repeat (first | with_reducible exact Ext.refl _ | with_reducible assumption | with_reducible refine Ext.alloc ?_ _ | with_reducible refine Ext.drew ?_ | with_reducible refine Ext.drewN ?_ _ | with_reducible refine Ext.setCell ?_ (by simp <;> omega) _ | with_reducible refine Ext.trans ?_ (by assumption))
    have k1 : decide (P < 1) = false := by simpa using hP1
    by_cases hP4 : 4 < P
    · have hPm : mostOf V < P := by have := most_le V; omega
      rw [show ckC V 32 C P ups = 5 by rw [ckC, if_neg hVV, if_neg hW, if_neg hC, if_pos (.inr hPm)]]
      clear hV1 hVV hW hC hP1 hCt hCr hPm
      go_enter Tryz.func49, Tryz.ntmps49
      go_wp2_with fail
      refine (HCR.out _).mono ?_
      rintro e w' ⟨rfl, rfl⟩
      go_wp2
      go_ret
      refine ⟨rfl, ?_⟩
      repeat (first | with_reducible exact Ext.refl _ | with_reducible assumption | with_reducible refine Ext.alloc ?_ _ | with_reducible refine Ext.drew ?_ | with_reducible refine Ext.drewN ?_ _ | with_reducible refine Ext.setCell ?_ (by simp <;> omega) _ | with_reducible refine Ext.trans ?_ (by assumption))
    have k2 : decide (4 < P) = false := by simpa using hP4
    by_cases hVP : V = 1 ∧ ¬ P = 1
    · have hPm : mostOf V < P := by rw [hVP.1]; unfold mostOf; simp; omega
      rw [show ckC V 32 C P ups = 5 by rw [ckC, if_neg hVV, if_neg hW, if_neg hC, if_pos (.inr hPm)]]
      have k3 : (V == 1) = true := by simpa using hVP.1
      have k4 : (P == 1) = false := by simpa using hVP.2
      clear hV1 hVV hW hC hP1 hCt hCr hPm hVP
      go_enter Tryz.func49, Tryz.ntmps49
      go_wp2_with fail
      refine (HCR.out _).mono ?_
      rintro e w' ⟨rfl, rfl⟩
      go_wp2
      go_ret
      refine ⟨rfl, ?_⟩
      repeat (first | with_reducible exact Ext.refl _ | with_reducible assumption | with_reducible refine Ext.alloc ?_ _ | with_reducible refine Ext.drew ?_ | with_reducible refine Ext.drewN ?_ _ | with_reducible refine Ext.setCell ?_ (by simp <;> omega) _ | with_reducible refine Ext.trans ?_ (by assumption))
    have hPm : ¬ mostOf V < P := by unfold mostOf; split <;> omega
    have hPP : ¬ (P < 1 ∨ mostOf V < P) := by omega
    have eC : ckC V 32 C P ups = if chk ups ≠ 0 then chk ups else if (32 : Int) = 32 ∧ 2147483648 ≤ (P + 2) * C then 9 else if 64 < C then 10 else 0 := by rw [ckC, if_neg hVV, if_neg hW, if_neg hC, if_neg hPP]
    rw [eC]
    have hB := bound_le (by omega) (show P ≤ 4 by omega) hCr.1 hCr.2
    obtain ⟨T, hT⟩ : ∃ T, T = (P + 2) * C := ⟨_, rfl⟩
    rw [← hT] at hB ⊢
    have hmul : wrap64 ((P + 2) * C) = T := by rw [← hT]; unfold wrap64; omega
    have hadd : wrap64 (P + 2) = P + 2 := by unfold wrap64; omega
    generalize hval : (if chk ups ≠ 0 then chk ups else if (32 : Int) = 32 ∧ 2147483648 ≤ T then 9 else if 64 < C then 10 else 0) = val
    clear eC hPP hVV hW hC hPm hP1 hV1 hCt hT
    generalize chk ups = g at *
    have k5 : ∃ bV bP, (V == 1) = bV ∧ (P == 1) = bP ∧ (bV = true → bP = true) := ⟨_, _, rfl, rfl, fun h => by simp at h ⊢; omega⟩
    obtain ⟨bV, bP, k3, k4, k34⟩ := k5
    clear hVP hP4
    cases bV
    · clear k34
      by_cases hg : g = 0
      · have kg : (g == 0) = true := by simpa using hg
        rw [if_neg (by simpa using hg)] at hval
        by_cases h9 : 2147483648 ≤ T
        · rw [if_pos ⟨rfl, h9⟩] at hval
          subst hval
          have k7 : decide (2147483648 ≤ T) = true := by simpa using h9
          clear h9 hg hB hCr
          go_enter Tryz.func49, Tryz.ntmps49
          go_wp2_with fail
          refine (HCR.out _).mono ?_
          rintro e w' ⟨rfl, rfl⟩
          go_wp2_with fail
          refine (CG.out _ (by repeat (first | with_reducible exact Ext.refl _ | with_reducible assumption | with_reducible refine Ext.alloc ?_ _ | with_reducible refine Ext.drew ?_ | with_reducible refine Ext.drewN ?_ _ | with_reducible refine Ext.setCell ?_ (by simp <;> omega) _ | with_reducible refine Ext.trans ?_ (by assumption)))).mono ?_
          rintro e w1 ⟨rfl, hb1⟩
          obtain ⟨hc1, hf1⟩ := hb1.cells
          clear hc1 hf1
          have qc_0 : w1.cell? ⟨w.heap.size, 0, none⟩ = some (.int .i64 V) := (hb1.cells.1 _ _ (by simp <;> omega)).trans (by simp [go_sem])
          have qc_1 : w1.cell? ⟨w.heap.size, 1, none⟩ = some (.int .i64 32) := (hb1.cells.1 _ _ (by simp <;> omega)).trans (by simp [go_sem])
          have qc_2 : w1.cell? ⟨w.heap.size, 2, none⟩ = some (.int .i64 C) := (hb1.cells.1 _ _ (by simp <;> omega)).trans (by simp [go_sem])
          have qc_3 : w1.cell? ⟨w.heap.size, 3, none⟩ = some (.int .i64 P) := (hb1.cells.1 _ _ (by simp <;> omega)).trans (by simp [go_sem])
          have qc_4 : w1.cell? ⟨w.heap.size, 4, none⟩ = some (.int .u64 (S)) := (hb1.cells.1 _ _ (by simp <;> omega)).trans (by simp [go_sem])
          have qc_5 : w1.cell? ⟨w.heap.size, 5, none⟩ = some (.slice a n cap) := (hb1.cells.1 _ _ (by simp <;> omega)).trans (by simp [go_sem])
          have pc := World.block_lt_of_cell? _ ⟨w.heap.size, 0, none⟩ qc_0
          have rc := Nat.lt_succ_of_lt pc
          go_wp2
          go_ret
          refine ⟨rfl, ?_⟩
          repeat (first | with_reducible exact Ext.refl _ | with_reducible assumption | with_reducible refine Ext.alloc ?_ _ | with_reducible refine Ext.drew ?_ | with_reducible refine Ext.drewN ?_ _ | with_reducible refine Ext.setCell ?_ (by simp <;> omega) _ | with_reducible refine Ext.trans ?_ (by assumption))
        · rw [if_neg (by omega)] at hval
          have k7 : decide (2147483648 ≤ T) = false := by simpa using h9
          by_cases h64 : 64 < C
          · rw [if_pos h64] at hval
            subst hval
            clear h9 hg hB hCr
            go_enter Tryz.func49, Tryz.ntmps49
            go_wp2_with fail
            refine (HCR.out _).mono ?_
            rintro e w' ⟨rfl, rfl⟩
            go_wp2_with fail
            refine (CG.out _ (by repeat (first | with_reducible exact Ext.refl _ | with_reducible assumption | with_reducible refine Ext.alloc ?_ _ | with_reducible refine Ext.drew ?_ | with_reducible refine Ext.drewN ?_ _ | with_reducible refine Ext.setCell ?_ (by simp <;> omega) _ | with_reducible refine Ext.trans ?_ (by assumption)))).mono ?_
            rintro e w2 ⟨rfl, hb2⟩
            obtain ⟨hc2, hf2⟩ := hb2.cells
            clear hc2 hf2
            have qc_0 : w2.cell? ⟨w.heap.size, 0, none⟩ = some (.int .i64 V) := (hb2.cells.1 _ _ (by simp <;> omega)).trans (by simp [go_sem])
            have qc_1 : w2.cell? ⟨w.heap.size, 1, none⟩ = some (.int .i64 32) := (hb2.cells.1 _ _ (by simp <;> omega)).trans (by simp [go_sem])
            have qc_2 : w2.cell? ⟨w.heap.size, 2, none⟩ = some (.int .i64 C) := (hb2.cells.1 _ _ (by simp <;> omega)).trans (by simp [go_sem])
            have qc_3 : w2.cell? ⟨w.heap.size, 3, none⟩ = some (.int .i64 P) := (hb2.cells.1 _ _ (by simp <;> omega)).trans (by simp [go_sem])
            have qc_4 : w2.cell? ⟨w.heap.size, 4, none⟩ = some (.int .u64 (S)) := (hb2.cells.1 _ _ (by simp <;> omega)).trans (by simp [go_sem])
            have qc_5 : w2.cell? ⟨w.heap.size, 5, none⟩ = some (.slice a n cap) := (hb2.cells.1 _ _ (by simp <;> omega)).trans (by simp [go_sem])
            have pc := World.block_lt_of_cell? _ ⟨w.heap.size, 0, none⟩ qc_0
            have rc := Nat.lt_succ_of_lt pc
            go_wp2
            go_ret
            refine ⟨rfl, ?_⟩
            repeat (first | with_reducible exact Ext.refl _ | with_reducible assumption | with_reducible refine Ext.alloc ?_ _ | with_reducible refine Ext.drew ?_ | with_reducible refine Ext.drewN ?_ _ | with_reducible refine Ext.setCell ?_ (by simp <;> omega) _ | with_reducible refine Ext.trans ?_ (by assumption))
          · rw [if_neg h64] at hval
            subst hval
            have k8 : decide (64 < C) = false := by simpa using h64
            clear h9 hg hB hCr
            go_enter Tryz.func49, Tryz.ntmps49
            go_wp2_with fail
            refine (HCR.out _).mono ?_
            rintro e w' ⟨rfl, rfl⟩
            go_wp2_with fail
            refine (CG.out _ (by repeat (first | with_reducible exact Ext.refl _ | with_reducible assumption | with_reducible refine Ext.alloc ?_ _ | with_reducible refine Ext.drew ?_ | with_reducible refine Ext.drewN ?_ _ | with_reducible refine Ext.setCell ?_ (by simp <;> omega) _ | with_reducible refine Ext.trans ?_ (by assumption)))).mono ?_
            rintro e w3 ⟨rfl, hb3⟩
            obtain ⟨hc3, hf3⟩ := hb3.cells
            clear hc3 hf3
            have qc_0 : w3.cell? ⟨w.heap.size, 0, none⟩ = some (.int .i64 V) := (hb3.cells.1 _ _ (by simp <;> omega)).trans (by simp [go_sem])
            have qc_1 : w3.cell? ⟨w.heap.size, 1, none⟩ = some (.int .i64 32) := (hb3.cells.1 _ _ (by simp <;> omega)).trans (by simp [go_sem])
            have qc_2 : w3.cell? ⟨w.heap.size, 2, none⟩ = some (.int .i64 C) := (hb3.cells.1 _ _ (by simp <;> omega)).trans (by simp [go_sem])
            have qc_3 : w3.cell? ⟨w.heap.size, 3, none⟩ = some (.int .i64 P) := (hb3.cells.1 _ _ (by simp <;> omega)).trans (by simp [go_sem])
            have qc_4 : w3.cell? ⟨w.heap.size, 4, none⟩ = some (.int .u64 (S)) := (hb3.cells.1 _ _ (by simp <;> omega)).trans (by simp [go_sem])
            have qc_5 : w3.cell? ⟨w.heap.size, 5, none⟩ = some (.slice a n cap) := (hb3.cells.1 _ _ (by simp <;> omega)).trans (by simp [go_sem])
            have pc := World.block_lt_of_cell? _ ⟨w.heap.size, 0, none⟩ qc_0
            have rc := Nat.lt_succ_of_lt pc
            go_wp2
            go_ret
            refine ⟨rfl, ?_⟩
            repeat (first | with_reducible exact Ext.refl _ | with_reducible assumption | with_reducible refine Ext.alloc ?_ _ | with_reducible refine Ext.drew ?_ | with_reducible refine Ext.drewN ?_ _ | with_reducible refine Ext.setCell ?_ (by simp <;> omega) _ | with_reducible refine Ext.trans ?_ (by assumption))
      · have kg : (g == 0) = false := by simpa using hg
        rw [if_pos hg] at hval
        subst hval
        clear hg hB hCr
        go_enter Tryz.func49, Tryz.ntmps49
        go_wp2_with fail
        refine (HCR.out _).mono ?_
        rintro e w' ⟨rfl, rfl⟩
        go_wp2_with fail
        refine (CG.out _ (by repeat (first | with_reducible exact Ext.refl _ | with_reducible assumption | with_reducible refine Ext.alloc ?_ _ | with_reducible refine Ext.drew ?_ | with_reducible refine Ext.drewN ?_ _ | with_reducible refine Ext.setCell ?_ (by simp <;> omega) _ | with_reducible refine Ext.trans ?_ (by assumption)))).mono ?_
        rintro e w4 ⟨rfl, hb4⟩
        obtain ⟨hc4, hf4⟩ := hb4.cells
        clear hc4 hf4
        have qc_0 : w4.cell? ⟨w.heap.size, 0, none⟩ = some (.int .i64 V) := (hb4.cells.1 _ _ (by simp <;> omega)).trans (by simp [go_sem])
        have qc_1 : w4.cell? ⟨w.heap.size, 1, none⟩ = some (.int .i64 32) := (hb4.cells.1 _ _ (by simp <;> omega)).trans (by simp [go_sem])
        have qc_2 : w4.cell? ⟨w.heap.size, 2, none⟩ = some (.int .i64 C) := (hb4.cells.1 _ _ (by simp <;> omega)).trans (by simp [go_sem])
        have qc_3 : w4.cell? ⟨w.heap.size, 3, none⟩ = some (.int .i64 P) := (hb4.cells.1 _ _ (by simp <;> omega)).trans (by simp [go_sem])
        have qc_4 : w4.cell? ⟨w.heap.size, 4, none⟩ = some (.int .u64 (S)) := (hb4.cells.1 _ _ (by simp <;> omega)).trans (by simp [go_sem])
        have qc_5 : w4.cell? ⟨w.heap.size, 5, none⟩ = some (.slice a n cap) := (hb4.cells.1 _ _ (by simp <;> omega)).trans (by simp [go_sem])
        have pc := World.block_lt_of_cell? _ ⟨w.heap.size, 0, none⟩ qc_0
        have rc := Nat.lt_succ_of_lt pc
        go_wp2
        go_ret
        refine ⟨rfl, ?_⟩
        repeat (first | with_reducible exact Ext.refl _ | with_reducible assumption | with_reducible refine Ext.alloc ?_ _ | with_reducible refine Ext.drew ?_ | with_reducible refine Ext.drewN ?_ _ | with_reducible refine Ext.setCell ?_ (by simp <;> omega) _ | with_reducible refine Ext.trans ?_ (by assumption))
    · obtain rfl := k34 rfl
      clear k34
      by_cases hg : g = 0
      · have kg : (g == 0) = true := by simpa using hg
        rw [if_neg (by simpa using hg)] at hval
        by_cases h9 : 2147483648 ≤ T
        · rw [if_pos ⟨rfl, h9⟩] at hval
          subst hval
          have k7 : decide (2147483648 ≤ T) = true := by simpa using h9
          clear h9 hg hB hCr
          go_enter Tryz.func49, Tryz.ntmps49
          go_wp2_with fail
          refine (HCR.out _).mono ?_
          rintro e w' ⟨rfl, rfl⟩
          go_wp2_with fail
          refine (CG.out _ (by repeat (first | with_reducible exact Ext.refl _ | with_reducible assumption | with_reducible refine Ext.alloc ?_ _ | with_reducible refine Ext.drew ?_ | with_reducible refine Ext.drewN ?_ _ | with_reducible refine Ext.setCell ?_ (by simp <;> omega) _ | with_reducible refine Ext.trans ?_ (by assumption)))).mono ?_
          rintro e w5 ⟨rfl, hb5⟩
          obtain ⟨hc5, hf5⟩ := hb5.cells
          clear hc5 hf5
          have qc_0 : w5.cell? ⟨w.heap.size, 0, none⟩ = some (.int .i64 V) := (hb5.cells.1 _ _ (by simp <;> omega)).trans (by simp [go_sem])
          have qc_1 : w5.cell? ⟨w.heap.size, 1, none⟩ = some (.int .i64 32) := (hb5.cells.1 _ _ (by simp <;> omega)).trans (by simp [go_sem])
          have qc_2 : w5.cell? ⟨w.heap.size, 2, none⟩ = some (.int .i64 C) := (hb5.cells.1 _ _ (by simp <;> omega)).trans (by simp [go_sem])
          have qc_3 : w5.cell? ⟨w.heap.size, 3, none⟩ = some (.int .i64 P) := (hb5.cells.1 _ _ (by simp <;> omega)).trans (by simp [go_sem])
          have qc_4 : w5.cell? ⟨w.heap.size, 4, none⟩ = some (.int .u64 (S)) := (hb5.cells.1 _ _ (by simp <;> omega)).trans (by simp [go_sem])
          have qc_5 : w5.cell? ⟨w.heap.size, 5, none⟩ = some (.slice a n cap) := (hb5.cells.1 _ _ (by simp <;> omega)).trans (by simp [go_sem])
          have pc := World.block_lt_of_cell? _ ⟨w.heap.size, 0, none⟩ qc_0
          have rc := Nat.lt_succ_of_lt pc
          go_wp2
          go_ret
          refine ⟨rfl, ?_⟩
          repeat (first | with_reducible exact Ext.refl _ | with_reducible assumption | with_reducible refine Ext.alloc ?_ _ | with_reducible refine Ext.drew ?_ | with_reducible refine Ext.drewN ?_ _ | with_reducible refine Ext.setCell ?_ (by simp <;> omega) _ | with_reducible refine Ext.trans ?_ (by assumption))
        · rw [if_neg (by omega)] at hval
          have k7 : decide (2147483648 ≤ T) = false := by simpa using h9
          by_cases h64 : 64 < C
          · rw [if_pos h64] at hval
            subst hval
            clear h9 hg hB hCr
            go_enter Tryz.func49, Tryz.ntmps49
            go_wp2_with fail
            refine (HCR.out _).mono ?_
            rintro e w' ⟨rfl, rfl⟩
            go_wp2_with fail
            refine (CG.out _ (by repeat (first | with_reducible exact Ext.refl _ | with_reducible assumption | with_reducible refine Ext.alloc ?_ _ | with_reducible refine Ext.drew ?_ | with_reducible refine Ext.drewN ?_ _ | with_reducible refine Ext.setCell ?_ (by simp <;> omega) _ | with_reducible refine Ext.trans ?_ (by assumption)))).mono ?_
            rintro e w6 ⟨rfl, hb6⟩
            obtain ⟨hc6, hf6⟩ := hb6.cells
            clear hc6 hf6
            have qc_0 : w6.cell? ⟨w.heap.size, 0, none⟩ = some (.int .i64 V) := (hb6.cells.1 _ _ (by simp <;> omega)).trans (by simp [go_sem])
            have qc_1 : w6.cell? ⟨w.heap.size, 1, none⟩ = some (.int .i64 32) := (hb6.cells.1 _ _ (by simp <;> omega)).trans (by simp [go_sem])
            have qc_2 : w6.cell? ⟨w.heap.size, 2, none⟩ = some (.int .i64 C) := (hb6.cells.1 _ _ (by simp <;> omega)).trans (by simp [go_sem])
            have qc_3 : w6.cell? ⟨w.heap.size, 3, none⟩ = some (.int .i64 P) := (hb6.cells.1 _ _ (by simp <;> omega)).trans (by simp [go_sem])
            have qc_4 : w6.cell? ⟨w.heap.size, 4, none⟩ = some (.int .u64 (S)) := (hb6.cells.1 _ _ (by simp <;> omega)).trans (by simp [go_sem])
            have qc_5 : w6.cell? ⟨w.heap.size, 5, none⟩ = some (.slice a n cap) := (hb6.cells.1 _ _ (by simp <;> omega)).trans (by simp [go_sem])
            have pc := World.block_lt_of_cell? _ ⟨w.heap.size, 0, none⟩ qc_0
            have rc := Nat.lt_succ_of_lt pc
            go_wp2
            go_ret
            refine ⟨rfl, ?_⟩
            repeat (first | with_reducible exact Ext.refl _ | with_reducible assumption | with_reducible refine Ext.alloc ?_ _ | with_reducible refine Ext.drew ?_ | with_reducible refine Ext.drewN ?_ _ | with_reducible refine Ext.setCell ?_ (by simp <;> omega) _ | with_reducible refine Ext.trans ?_ (by assumption))
          · rw [if_neg h64] at hval
            subst hval
            have k8 : decide (64 < C) = false := by simpa using h64
            clear h9 hg hB hCr
            go_enter Tryz.func49, Tryz.ntmps49
            go_wp2_with fail
            refine (HCR.out _).mono ?_
            rintro e w' ⟨rfl, rfl⟩
            go_wp2_with fail
            refine (CG.out _ (by repeat (first | with_reducible exact Ext.refl _ | with_reducible assumption | with_reducible refine Ext.alloc ?_ _ | with_reducible refine Ext.drew ?_ | with_reducible refine Ext.drewN ?_ _ | with_reducible refine Ext.setCell ?_ (by simp <;> omega) _ | with_reducible refine Ext.trans ?_ (by assumption)))).mono ?_
            rintro e w7 ⟨rfl, hb7⟩
            obtain ⟨hc7, hf7⟩ := hb7.cells
            clear hc7 hf7
            have qc_0 : w7.cell? ⟨w.heap.size, 0, none⟩ = some (.int .i64 V) := (hb7.cells.1 _ _ (by simp <;> omega)).trans (by simp [go_sem])
            have qc_1 : w7.cell? ⟨w.heap.size, 1, none⟩ = some (.int .i64 32) := (hb7.cells.1 _ _ (by simp <;> omega)).trans (by simp [go_sem])
            have qc_2 : w7.cell? ⟨w.heap.size, 2, none⟩ = some (.int .i64 C) := (hb7.cells.1 _ _ (by simp <;> omega)).trans (by simp [go_sem])
            have qc_3 : w7.cell? ⟨w.heap.size, 3, none⟩ = some (.int .i64 P) := (hb7.cells.1 _ _ (by simp <;> omega)).trans (by simp [go_sem])
            have qc_4 : w7.cell? ⟨w.heap.size, 4, none⟩ = some (.int .u64 (S)) := (hb7.cells.1 _ _ (by simp <;> omega)).trans (by simp [go_sem])
            have qc_5 : w7.cell? ⟨w.heap.size, 5, none⟩ = some (.slice a n cap) := (hb7.cells.1 _ _ (by simp <;> omega)).trans (by simp [go_sem])
            have pc := World.block_lt_of_cell? _ ⟨w.heap.size, 0, none⟩ qc_0
            have rc := Nat.lt_succ_of_lt pc
            go_wp2
            go_ret
            refine ⟨rfl, ?_⟩
            repeat (first | with_reducible exact Ext.refl _ | with_reducible assumption | with_reducible refine Ext.alloc ?_ _ | with_reducible refine Ext.drew ?_ | with_reducible refine Ext.drewN ?_ _ | with_reducible refine Ext.setCell ?_ (by simp <;> omega) _ | with_reducible refine Ext.trans ?_ (by assumption))
      · have kg : (g == 0) = false := by simpa using hg
        rw [if_pos hg] at hval
        subst hval
        clear hg hB hCr
        go_enter Tryz.func49, Tryz.ntmps49
        go_wp2_with fail
        refine (HCR.out _).mono ?_
        rintro e w' ⟨rfl, rfl⟩
        go_wp2_with fail
        refine (CG.out _ (by repeat (first | with_reducible exact Ext.refl _ | with_reducible assumption | with_reducible refine Ext.alloc ?_ _ | with_reducible refine Ext.drew ?_ | with_reducible refine Ext.drewN ?_ _ | with_reducible refine Ext.setCell ?_ (by simp <;> omega) _ | with_reducible refine Ext.trans ?_ (by assumption)))).mono ?_
        rintro e w8 ⟨rfl, hb8⟩
        obtain ⟨hc8, hf8⟩ := hb8.cells
        clear hc8 hf8
        have qc_0 : w8.cell? ⟨w.heap.size, 0, none⟩ = some (.int .i64 V) := (hb8.cells.1 _ _ (by simp <;> omega)).trans (by simp [go_sem])
        have qc_1 : w8.cell? ⟨w.heap.size, 1, none⟩ = some (.int .i64 32) := (hb8.cells.1 _ _ (by simp <;> omega)).trans (by simp [go_sem])
        have qc_2 : w8.cell? ⟨w.heap.size, 2, none⟩ = some (.int .i64 C) := (hb8.cells.1 _ _ (by simp <;> omega)).trans (by simp [go_sem])
        have qc_3 : w8.cell? ⟨w.heap.size, 3, none⟩ = some (.int .i64 P) := (hb8.cells.1 _ _ (by simp <;> omega)).trans (by simp [go_sem])
        have qc_4 : w8.cell? ⟨w.heap.size, 4, none⟩ = some (.int .u64 (S)) := (hb8.cells.1 _ _ (by simp <;> omega)).trans (by simp [go_sem])
        have qc_5 : w8.cell? ⟨w.heap.size, 5, none⟩ = some (.slice a n cap) := (hb8.cells.1 _ _ (by simp <;> omega)).trans (by simp [go_sem])
        have pc := World.block_lt_of_cell? _ ⟨w.heap.size, 0, none⟩ qc_0
        have rc := Nat.lt_succ_of_lt pc
        go_wp2
        go_ret
        refine ⟨rfl, ?_⟩
        repeat (first | with_reducible exact Ext.refl _ | with_reducible assumption | with_reducible refine Ext.alloc ?_ _ | with_reducible refine Ext.drew ?_ | with_reducible refine Ext.drewN ?_ _ | with_reducible refine Ext.setCell ?_ (by simp <;> omega) _ | with_reducible refine Ext.trans ?_ (by assumption))
  · clear hW
    have hW : ¬ ¬ ((64 : Int) = 32 ∨ (64 : Int) = 64) := by omega
    by_cases hC : rightB C = false
    · rw [show ckC V 64 C P ups = 4 by rw [ckC, if_neg hVV, if_neg hW, if_pos hC]]
      have CR := fun w => r2Right C w
      rw [hC] at CR
      have HCR := Lib.hid CR
      clear hV1 hVV hW CR hC
      go_enter Tryz.func49, Tryz.ntmps49
      go_wp2_with fail
      refine (HCR.out _).mono ?_
      rintro e w' ⟨rfl, rfl⟩
      go_wp2
      go_ret
      refine ⟨rfl, ?_⟩
      repeat (first | with_reducible exact Ext.refl _ | with_reducible assumption | with_reducible refine Ext.alloc ?_ _ | with_reducible refine Ext.drew ?_ | with_reducible refine Ext.drewN ?_ _ | with_reducible refine Ext.setCell ?_ (by simp <;> omega) _ | with_reducible refine Ext.trans ?_ (by assumption))
    have hCt : rightB C = true := by cases h : rightB C <;> simp_all
    have hCr := right_range hCt
    have CR := fun w => r2Right C w
    rw [hCt] at CR
    have HCR := Lib.hid CR
    clear CR
    by_cases hP1 : P < 1
    · rw [show ckC V 64 C P ups = 5 by rw [ckC, if_neg hVV, if_neg hW, if_neg hC, if_pos (.inl hP1)]]
      have k1 : decide (P < 1) = true := by simpa using hP1
      clear hV1 hVV hW hC hP1 hCt hCr
      go_enter Tryz.func49, Tryz.ntmps49
      go_wp2_with fail
      refine (HCR.out _).mono ?_
      rintro e w' ⟨rfl, rfl⟩
      go_wp2
      go_ret
      refine ⟨rfl, ?_⟩
      repeat (first | with_reducible exact Ext.refl _ | with_reducible assumption | with_reducible refine Ext.alloc ?_ _ | with_reducible refine Ext.drew ?_ | with_reducible refine Ext.drewN ?_ _ | with_reducible refine Ext.setCell ?_ (by simp <;> omega) _ | with_reducible refine Ext.trans ?_ (by assumption))
    have k1 : decide (P < 1) = false := by simpa using hP1
    by_cases hP4 : 4 < P
    · have hPm : mostOf V < P := by have := most_le V; omega
      rw [show ckC V 64 C P ups = 5 by rw [ckC, if_neg hVV, if_neg hW, if_neg hC, if_pos (.inr hPm)]]
      clear hV1 hVV hW hC hP1 hCt hCr hPm
      go_enter Tryz.func49, Tryz.ntmps49
      go_wp2_with fail
      refine (HCR.out _).mono ?_
      rintro e w' ⟨rfl, rfl⟩
      go_wp2
      go_ret
      refine ⟨rfl, ?_⟩
      repeat (first | with_reducible exact Ext.refl _ | with_reducible assumption | with_reducible refine Ext.alloc ?_ _ | with_reducible refine Ext.drew ?_ | with_reducible refine Ext.drewN ?_ _ | with_reducible refine Ext.setCell ?_ (by simp <;> omega) _ | with_reducible refine Ext.trans ?_ (by assumption))
    have k2 : decide (4 < P) = false := by simpa using hP4
    by_cases hVP : V = 1 ∧ ¬ P = 1
    · have hPm : mostOf V < P := by rw [hVP.1]; unfold mostOf; simp; omega
      rw [show ckC V 64 C P ups = 5 by rw [ckC, if_neg hVV, if_neg hW, if_neg hC, if_pos (.inr hPm)]]
      have k3 : (V == 1) = true := by simpa using hVP.1
      have k4 : (P == 1) = false := by simpa using hVP.2
      clear hV1 hVV hW hC hP1 hCt hCr hPm hVP
      go_enter Tryz.func49, Tryz.ntmps49
      go_wp2_with fail
      refine (HCR.out _).mono ?_
      rintro e w' ⟨rfl, rfl⟩
      go_wp2
      go_ret
      refine ⟨rfl, ?_⟩
      repeat (first | with_reducible exact Ext.refl _ | with_reducible assumption | with_reducible refine Ext.alloc ?_ _ | with_reducible refine Ext.drew ?_ | with_reducible refine Ext.drewN ?_ _ | with_reducible refine Ext.setCell ?_ (by simp <;> omega) _ | with_reducible refine Ext.trans ?_ (by assumption))
    have hPm : ¬ mostOf V < P := by unfold mostOf; split <;> omega
    have hPP : ¬ (P < 1 ∨ mostOf V < P) := by omega
    have eC : ckC V 64 C P ups = if chk ups ≠ 0 then chk ups else if (64 : Int) = 32 ∧ 2147483648 ≤ (P + 2) * C then 9 else if 64 < C then 10 else 0 := by rw [ckC, if_neg hVV, if_neg hW, if_neg hC, if_neg hPP]
    rw [eC]
    have hB := bound_le (by omega) (show P ≤ 4 by omega) hCr.1 hCr.2
    obtain ⟨T, hT⟩ : ∃ T, T = (P + 2) * C := ⟨_, rfl⟩
    rw [← hT] at hB ⊢
    have hmul : wrap64 ((P + 2) * C) = T := by rw [← hT]; unfold wrap64; omega
    have hadd : wrap64 (P + 2) = P + 2 := by unfold wrap64; omega
    generalize hval : (if chk ups ≠ 0 then chk ups else if (64 : Int) = 32 ∧ 2147483648 ≤ T then 9 else if 64 < C then 10 else 0) = val
    clear eC hPP hVV hW hC hPm hP1 hV1 hCt hT
    generalize chk ups = g at *
    have k5 : ∃ bV bP, (V == 1) = bV ∧ (P == 1) = bP ∧ (bV = true → bP = true) := ⟨_, _, rfl, rfl, fun h => by simp at h ⊢; omega⟩
    obtain ⟨bV, bP, k3, k4, k34⟩ := k5
    clear hVP hP4
    cases bV
    · clear k34
      by_cases hg : g = 0
      · have kg : (g == 0) = true := by simpa using hg
        rw [if_neg (by simpa using hg)] at hval
        rw [if_neg (by omega)] at hval
        by_cases h64 : 64 < C
        · rw [if_pos h64] at hval
          subst hval
          clear hg hB hCr
          go_enter Tryz.func49, Tryz.ntmps49
          go_wp2_with fail
          refine (HCR.out _).mono ?_
          rintro e w' ⟨rfl, rfl⟩
          go_wp2_with fail
          refine (CG.out _ (by repeat (first | with_reducible exact Ext.refl _ | with_reducible assumption | with_reducible refine Ext.alloc ?_ _ | with_reducible refine Ext.drew ?_ | with_reducible refine Ext.drewN ?_ _ | with_reducible refine Ext.setCell ?_ (by simp <;> omega) _ | with_reducible refine Ext.trans ?_ (by assumption)))).mono ?_
          rintro e w9 ⟨rfl, hb9⟩
          obtain ⟨hc9, hf9⟩ := hb9.cells
          clear hc9 hf9
          have qc_0 : w9.cell? ⟨w.heap.size, 0, none⟩ = some (.int .i64 V) := (hb9.cells.1 _ _ (by simp <;> omega)).trans (by simp [go_sem])
          have qc_1 : w9.cell? ⟨w.heap.size, 1, none⟩ = some (.int .i64 64) := (hb9.cells.1 _ _ (by simp <;> omega)).trans (by simp [go_sem])
          have qc_2 : w9.cell? ⟨w.heap.size, 2, none⟩ = some (.int .i64 C) := (hb9.cells.1 _ _ (by simp <;> omega)).trans (by simp [go_sem])
          have qc_3 : w9.cell? ⟨w.heap.size, 3, none⟩ = some (.int .i64 P) := (hb9.cells.1 _ _ (by simp <;> omega)).trans (by simp [go_sem])
          have qc_4 : w9.cell? ⟨w.heap.size, 4, none⟩ = some (.int .u64 (S)) := (hb9.cells.1 _ _ (by simp <;> omega)).trans (by simp [go_sem])
          have qc_5 : w9.cell? ⟨w.heap.size, 5, none⟩ = some (.slice a n cap) := (hb9.cells.1 _ _ (by simp <;> omega)).trans (by simp [go_sem])
          have pc := World.block_lt_of_cell? _ ⟨w.heap.size, 0, none⟩ qc_0
          have rc := Nat.lt_succ_of_lt pc
          go_wp2
          go_ret
          refine ⟨rfl, ?_⟩
          repeat (first | with_reducible exact Ext.refl _ | with_reducible assumption | with_reducible refine Ext.alloc ?_ _ | with_reducible refine Ext.drew ?_ | with_reducible refine Ext.drewN ?_ _ | with_reducible refine Ext.setCell ?_ (by simp <;> omega) _ | with_reducible refine Ext.trans ?_ (by assumption))
        · rw [if_neg h64] at hval
          subst hval
          have k8 : decide (64 < C) = false := by simpa using h64
          clear hg hB hCr
          go_enter Tryz.func49, Tryz.ntmps49
          go_wp2_with fail
          refine (HCR.out _).mono ?_
          rintro e w' ⟨rfl, rfl⟩
          go_wp2_with fail
          refine (CG.out _ (by repeat (first | with_reducible exact Ext.refl _ | with_reducible assumption | with_reducible refine Ext.alloc ?_ _ | with_reducible refine Ext.drew ?_ | with_reducible refine Ext.drewN ?_ _ | with_reducible refine Ext.setCell ?_ (by simp <;> omega) _ | with_reducible refine Ext.trans ?_ (by assumption)))).mono ?_
          rintro e w10 ⟨rfl, hb10⟩
          obtain ⟨hc10, hf10⟩ := hb10.cells
          clear hc10 hf10
          have qc_0 : w10.cell? ⟨w.heap.size, 0, none⟩ = some (.int .i64 V) := (hb10.cells.1 _ _ (by simp <;> omega)).trans (by simp [go_sem])
          have qc_1 : w10.cell? ⟨w.heap.size, 1, none⟩ = some (.int .i64 64) := (hb10.cells.1 _ _ (by simp <;> omega)).trans (by simp [go_sem])
          have qc_2 : w10.cell? ⟨w.heap.size, 2, none⟩ = some (.int .i64 C) := (hb10.cells.1 _ _ (by simp <;> omega)).trans (by simp [go_sem])
          have qc_3 : w10.cell? ⟨w.heap.size, 3, none⟩ = some (.int .i64 P) := (hb10.cells.1 _ _ (by simp <;> omega)).trans (by simp [go_sem])
          have qc_4 : w10.cell? ⟨w.heap.size, 4, none⟩ = some (.int .u64 (S)) := (hb10.cells.1 _ _ (by simp <;> omega)).trans (by simp [go_sem])
          have qc_5 : w10.cell? ⟨w.heap.size, 5, none⟩ = some (.slice a n cap) := (hb10.cells.1 _ _ (by simp <;> omega)).trans (by simp [go_sem])
          have pc := World.block_lt_of_cell? _ ⟨w.heap.size, 0, none⟩ qc_0
          have rc := Nat.lt_succ_of_lt pc
          go_wp2
          go_ret
          refine ⟨rfl, ?_⟩
          repeat (first | with_reducible exact Ext.refl _ | with_reducible assumption | with_reducible refine Ext.alloc ?_ _ | with_reducible refine Ext.drew ?_ | with_reducible refine Ext.drewN ?_ _ | with_reducible refine Ext.setCell ?_ (by simp <;> omega) _ | with_reducible refine Ext.trans ?_ (by assumption))
      · have kg : (g == 0) = false := by simpa using hg
        rw [if_pos hg] at hval
        subst hval
        clear hg hB hCr
        go_enter Tryz.func49, Tryz.ntmps49
        go_wp2_with fail
        refine (HCR.out _).mono ?_
        rintro e w' ⟨rfl, rfl⟩
        go_wp2_with fail
        refine (CG.out _ (by repeat (first | with_reducible exact Ext.refl _ | with_reducible assumption | with_reducible refine Ext.alloc ?_ _ | with_reducible refine Ext.drew ?_ | with_reducible refine Ext.drewN ?_ _ | with_reducible refine Ext.setCell ?_ (by simp <;> omega) _ | with_reducible refine Ext.trans ?_ (by assumption)))).mono ?_
        rintro e w11 ⟨rfl, hb11⟩
        obtain ⟨hc11, hf11⟩ := hb11.cells
        clear hc11 hf11
        have qc_0 : w11.cell? ⟨w.heap.size, 0, none⟩ = some (.int .i64 V) := (hb11.cells.1 _ _ (by simp <;> omega)).trans (by simp [go_sem])
        have qc_1 : w11.cell? ⟨w.heap.size, 1, none⟩ = some (.int .i64 64) := (hb11.cells.1 _ _ (by simp <;> omega)).trans (by simp [go_sem])
        have qc_2 : w11.cell? ⟨w.heap.size, 2, none⟩ = some (.int .i64 C) := (hb11.cells.1 _ _ (by simp <;> omega)).trans (by simp [go_sem])
        have qc_3 : w11.cell? ⟨w.heap.size, 3, none⟩ = some (.int .i64 P) := (hb11.cells.1 _ _ (by simp <;> omega)).trans (by simp [go_sem])
        have qc_4 : w11.cell? ⟨w.heap.size, 4, none⟩ = some (.int .u64 (S)) := (hb11.cells.1 _ _ (by simp <;> omega)).trans (by simp [go_sem])
        have qc_5 : w11.cell? ⟨w.heap.size, 5, none⟩ = some (.slice a n cap) := (hb11.cells.1 _ _ (by simp <;> omega)).trans (by simp [go_sem])
        have pc := World.block_lt_of_cell? _ ⟨w.heap.size, 0, none⟩ qc_0
        have rc := Nat.lt_succ_of_lt pc
        go_wp2
        go_ret
        refine ⟨rfl, ?_⟩
        repeat (first | with_reducible exact Ext.refl _ | with_reducible assumption | with_reducible refine Ext.alloc ?_ _ | with_reducible refine Ext.drew ?_ | with_reducible refine Ext.drewN ?_ _ | with_reducible refine Ext.setCell ?_ (by simp <;> omega) _ | with_reducible refine Ext.trans ?_ (by assumption))
    · obtain rfl := k34 rfl
      clear k34
      by_cases hg : g = 0
      · have kg : (g == 0) = true := by simpa using hg
        rw [if_neg (by simpa using hg)] at hval
        rw [if_neg (by omega)] at hval
        by_cases h64 : 64 < C
        · rw [if_pos h64] at hval
          subst hval
          clear hg hB hCr
          go_enter Tryz.func49, Tryz.ntmps49
          go_wp2_with fail
          refine (HCR.out _).mono ?_
          rintro e w' ⟨rfl, rfl⟩
          go_wp2_with fail
          refine (CG.out _ (by repeat (first | with_reducible exact Ext.refl _ | with_reducible assumption | with_reducible refine Ext.alloc ?_ _ | with_reducible refine Ext.drew ?_ | with_reducible refine Ext.drewN ?_ _ | with_reducible refine Ext.setCell ?_ (by simp <;> omega) _ | with_reducible refine Ext.trans ?_ (by assumption)))).mono ?_
          rintro e w12 ⟨rfl, hb12⟩
          obtain ⟨hc12, hf12⟩ := hb12.cells
          clear hc12 hf12
          have qc_0 : w12.cell? ⟨w.heap.size, 0, none⟩ = some (.int .i64 V) := (hb12.cells.1 _ _ (by simp <;> omega)).trans (by simp [go_sem])
          have qc_1 : w12.cell? ⟨w.heap.size, 1, none⟩ = some (.int .i64 64) := (hb12.cells.1 _ _ (by simp <;> omega)).trans (by simp [go_sem])
          have qc_2 : w12.cell? ⟨w.heap.size, 2, none⟩ = some (.int .i64 C) := (hb12.cells.1 _ _ (by simp <;> omega)).trans (by simp [go_sem])
          have qc_3 : w12.cell? ⟨w.heap.size, 3, none⟩ = some (.int .i64 P) := (hb12.cells.1 _ _ (by simp <;> omega)).trans (by simp [go_sem])
          have qc_4 : w12.cell? ⟨w.heap.size, 4, none⟩ = some (.int .u64 (S)) := (hb12.cells.1 _ _ (by simp <;> omega)).trans (by simp [go_sem])
          have qc_5 : w12.cell? ⟨w.heap.size, 5, none⟩ = some (.slice a n cap) := (hb12.cells.1 _ _ (by simp <;> omega)).trans (by simp [go_sem])
          have pc := World.block_lt_of_cell? _ ⟨w.heap.size, 0, none⟩ qc_0
          have rc := Nat.lt_succ_of_lt pc
          go_wp2
          go_ret
          refine ⟨rfl, ?_⟩
          repeat (first | with_reducible exact Ext.refl _ | with_reducible assumption | with_reducible refine Ext.alloc ?_ _ | with_reducible refine Ext.drew ?_ | with_reducible refine Ext.drewN ?_ _ | with_reducible refine Ext.setCell ?_ (by simp <;> omega) _ | with_reducible refine Ext.trans ?_ (by assumption))
        · rw [if_neg h64] at hval
          subst hval
          have k8 : decide (64 < C) = false := by simpa using h64
          clear hg hB hCr
          go_enter Tryz.func49, Tryz.ntmps49
          go_wp2_with fail
          refine (HCR.out _).mono ?_
          rintro e w' ⟨rfl, rfl⟩
          go_wp2_with fail
          refine (CG.out _ (by repeat (first | with_reducible exact Ext.refl _ | with_reducible assumption | with_reducible refine Ext.alloc ?_ _ | with_reducible refine Ext.drew ?_ | with_reducible refine Ext.drewN ?_ _ | with_reducible refine Ext.setCell ?_ (by simp <;> omega) _ | with_reducible refine Ext.trans ?_ (by assumption)))).mono ?_
          rintro e w13 ⟨rfl, hb13⟩
          obtain ⟨hc13, hf13⟩ := hb13.cells
          clear hc13 hf13
          have qc_0 : w13.cell? ⟨w.heap.size, 0, none⟩ = some (.int .i64 V) := (hb13.cells.1 _ _ (by simp <;> omega)).trans (by simp [go_sem])
          have qc_1 : w13.cell? ⟨w.heap.size, 1, none⟩ = some (.int .i64 64) := (hb13.cells.1 _ _ (by simp <;> omega)).trans (by simp [go_sem])
          have qc_2 : w13.cell? ⟨w.heap.size, 2, none⟩ = some (.int .i64 C) := (hb13.cells.1 _ _ (by simp <;> omega)).trans (by simp [go_sem])
          have qc_3 : w13.cell? ⟨w.heap.size, 3, none⟩ = some (.int .i64 P) := (hb13.cells.1 _ _ (by simp <;> omega)).trans (by simp [go_sem])
          have qc_4 : w13.cell? ⟨w.heap.size, 4, none⟩ = some (.int .u64 (S)) := (hb13.cells.1 _ _ (by simp <;> omega)).trans (by simp [go_sem])
          have qc_5 : w13.cell? ⟨w.heap.size, 5, none⟩ = some (.slice a n cap) := (hb13.cells.1 _ _ (by simp <;> omega)).trans (by simp [go_sem])
          have pc := World.block_lt_of_cell? _ ⟨w.heap.size, 0, none⟩ qc_0
          have rc := Nat.lt_succ_of_lt pc
          go_wp2
          go_ret
          refine ⟨rfl, ?_⟩
          repeat (first | with_reducible exact Ext.refl _ | with_reducible assumption | with_reducible refine Ext.alloc ?_ _ | with_reducible refine Ext.drew ?_ | with_reducible refine Ext.drewN ?_ _ | with_reducible refine Ext.setCell ?_ (by simp <;> omega) _ | with_reducible refine Ext.trans ?_ (by assumption))
      · have kg : (g == 0) = false := by simpa using hg
        rw [if_pos hg] at hval
        subst hval
        clear hg hB hCr
        go_enter Tryz.func49, Tryz.ntmps49
        go_wp2_with fail
        refine (HCR.out _).mono ?_
        rintro e w' ⟨rfl, rfl⟩
        go_wp2_with fail
        refine (CG.out _ (by repeat (first | with_reducible exact Ext.refl _ | with_reducible assumption | with_reducible refine Ext.alloc ?_ _ | with_reducible refine Ext.drew ?_ | with_reducible refine Ext.drewN ?_ _ | with_reducible refine Ext.setCell ?_ (by simp <;> omega) _ | with_reducible refine Ext.trans ?_ (by assumption)))).mono ?_
        rintro e w14 ⟨rfl, hb14⟩
        obtain ⟨hc14, hf14⟩ := hb14.cells
        clear hc14 hf14
        have qc_0 : w14.cell? ⟨w.heap.size, 0, none⟩ = some (.int .i64 V) := (hb14.cells.1 _ _ (by simp <;> omega)).trans (by simp [go_sem])
        have qc_1 : w14.cell? ⟨w.heap.size, 1, none⟩ = some (.int .i64 64) := (hb14.cells.1 _ _ (by simp <;> omega)).trans (by simp [go_sem])
        have qc_2 : w14.cell? ⟨w.heap.size, 2, none⟩ = some (.int .i64 C) := (hb14.cells.1 _ _ (by simp <;> omega)).trans (by simp [go_sem])
        have qc_3 : w14.cell? ⟨w.heap.size, 3, none⟩ = some (.int .i64 P) := (hb14.cells.1 _ _ (by simp <;> omega)).trans (by simp [go_sem])
        have qc_4 : w14.cell? ⟨w.heap.size, 4, none⟩ = some (.int .u64 (S)) := (hb14.cells.1 _ _ (by simp <;> omega)).trans (by simp [go_sem])
        have qc_5 : w14.cell? ⟨w.heap.size, 5, none⟩ = some (.slice a n cap) := (hb14.cells.1 _ _ (by simp <;> omega)).trans (by simp [go_sem])
        have pc := World.block_lt_of_cell? _ ⟨w.heap.size, 0, none⟩ qc_0
        have rc := Nat.lt_succ_of_lt pc
        go_wp2
        go_ret
        refine ⟨rfl, ?_⟩
        repeat (first | with_reducible exact Ext.refl _ | with_reducible assumption | with_reducible refine Ext.alloc ?_ _ | with_reducible refine Ext.drew ?_ | with_reducible refine Ext.drewN ?_ _ | with_reducible refine Ext.setCell ?_ (by simp <;> omega) _ | with_reducible refine Ext.trans ?_ (by assumption))
theorem r10Right (V W C P S : Int) (u : Value) (ups : List (List Int)) (w : World) (hL : ListsV w u ups) (hll : ∀ l ∈ ups, l.length ≤ 1000000) (hn : ups.length ≤ 1000000) :
    Calls Tryz.prog 9 #[(.agg #[.int .i64 V, .int .i64 W, .int .i64 C, .int .i64 P, .int .u64 (S), u])] w fun e w' => e = .returned (.bool (ckC V W C P ups == 0)) ∧ Ext w w' := by
  obtain ⟨a, cap, e, -⟩ := id hL
  subst e
  have CG := Lib.hid (fun w' (hx : Ext w w') => r10Chk V W C P S _ ups w' (hL.ext hx) hll hn)
  clear hL hll
  generalize ups.length = n at *
  generalize ckC V W C P ups = g at *
  go_enter Tryz.func9, Tryz.ntmps9
  go_wp2_with fail
  refine (CG.out _ (by repeat (first | with_reducible exact Ext.refl _ | with_reducible assumption | with_reducible refine Ext.alloc ?_ _ | with_reducible refine Ext.drew ?_ | with_reducible refine Ext.drewN ?_ _ | with_reducible refine Ext.setCell ?_ (by simp <;> omega) _ | with_reducible refine Ext.trans ?_ (by assumption)))).mono ?_
  rintro e w1 ⟨rfl, hb1⟩
  obtain ⟨hc1, hf1⟩ := hb1.cells
  go_wp2
  go_ret
  refine ⟨rfl, ?_⟩
  repeat (first | with_reducible exact Ext.refl _ | with_reducible assumption | with_reducible refine Ext.alloc ?_ _ | with_reducible refine Ext.drew ?_ | with_reducible refine Ext.drewN ?_ _ | with_reducible refine Ext.setCell ?_ (by simp <;> omega) _ | with_reducible refine Ext.trans ?_ (by assumption))
end Go.Proofs.YtkmfamidahlgiaaGreatDoor

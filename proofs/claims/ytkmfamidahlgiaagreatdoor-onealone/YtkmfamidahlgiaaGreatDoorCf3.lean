/- conf's small functions, and the document's. -/
import Derived.Test.YtkmfamidahlgiaaGreatDoorCf
namespace Go.Proofs.YtkmfamidahlgiaaGreatDoor
open Go.RowKit
set_option linter.unusedVariables false
set_option maxHeartbeats 1000000
attribute [local go_sem] later_cell later_frozen later_const
/-- a configuration that may be -/
structure Ok (V W C P : Int) (ups : List (List Int)) : Prop where
  v1 : 1 ≤ V
  v5 : V ≤ 5
  wd : W = 32 ∨ W = 64
  rc : rightB C = true
  c2 : 2 ≤ C
  c64 : C ≤ 64
  p1 : 1 ≤ P
  p4 : P ≤ 4
  pm : P ≤ mostOf V
  rt : Rt ups
theorem ok_iff {V W C P : Int} {ups : List (List Int)} : ckC V W C P ups = 0 ↔ Ok V W C P ups := by
  constructor
  · intro h
    unfold ckC at h
    by_cases h1 : V < 1 ∨ 5 < V
    · rw [if_pos h1] at h; simp at h
    rw [if_neg h1] at h
    by_cases h2 : ¬ (W = 32 ∨ W = 64)
    · rw [if_pos h2] at h; simp at h
    rw [if_neg h2] at h
    by_cases h3 : rightB C = false
    · rw [if_pos h3] at h; simp at h
    rw [if_neg h3] at h
    by_cases h4 : P < 1 ∨ mostOf V < P
    · rw [if_pos h4] at h; simp at h
    rw [if_neg h4] at h
    by_cases h5 : chk ups = 0
    · rw [if_neg (by simpa using h5)] at h
      have hr : rightB C = true := by cases hh : rightB C <;> simp_all
      by_cases h6 : W = 32 ∧ 2147483648 ≤ (P + 2) * C
      · rw [if_pos h6] at h; simp at h
      rw [if_neg h6] at h
      by_cases h7 : 64 < C
      · rw [if_pos h7] at h; simp at h
      have hm := most_le V
      exact ⟨by omega, by omega, by omega, hr, (right_range hr).1, by omega, by omega, by omega, by omega, chk_zero.1 h5⟩
    · rw [if_pos h5] at h; exact absurd h h5
  · intro h
    have hr := right_range h.rc
    have hb := bound_le h.p1 h.p4 h.c2 hr.2
    have := h.v1; have := h.v5; have := h.wd; have := h.p1; have := h.pm; have := h.c64; have := h.p4
    unfold ckC
    rw [if_neg (by omega), if_neg (by omega), if_neg (by simp [h.rc]), if_neg (by omega), if_neg (by simpa using chk_zero.2 h.rt)]
    have : (P + 2) * C ≤ 384 := by
      have h2 := h.c2
      have : P = 1 ∨ P = 2 ∨ P = 3 ∨ P = 4 := by omega
      rcases this with rfl | rfl | rfl | rfl <;> omega
    rw [if_neg (by omega), if_neg (by omega)]
/-- how many threads -/
def thr (V W C P : Int) (ups : List (List Int)) : Int := if ckC V W C P ups = 0 then P + (ups.length : Int) else 0
theorem thr_le {V W C P : Int} {ups : List (List Int)} : 0 ≤ thr V W C P ups ∧ thr V W C P ups ≤ 10 := by
  unfold thr
  split
  · rename_i h
    have ok := ok_iff.1 h
    have := ok.p1; have := ok.p4; have := ok.rt.six
    omega
  · omega
theorem cThreads (V W C P S : Int) (u : Value) (ups : List (List Int)) (w : World) (hL : ListsV w u ups) (hll : ∀ l ∈ ups, l.length ≤ 1000000) (hn : ups.length ≤ 1000000) :
    Calls Tryz.prog 168 #[(.agg #[.int .i64 V, .int .i64 W, .int .i64 C, .int .i64 P, .int .u64 (S), u])] w fun e w' => e = .returned (.int .i64 (thr V W C P ups)) ∧ Ext w w' := by
  obtain ⟨a, cap, e, -⟩ := id hL
  subst e
  have CG := Lib.hid (fun w' (hx : Ext w w') => cCheck V W C P S _ ups w' (hL.ext hx) hll hn)
  clear hL hll
  by_cases hg : ckC V W C P ups = 0
  · rw [show thr V W C P ups = P + (ups.length : Int) by simp [thr, hg]]
    have ok := ok_iff.1 hg
    have hp := ok.p4
    have hp1 := ok.p1
    rw [hg] at CG
    clear ok hg
    generalize ups.length = n at *
    go_enter Tryz.func168, Tryz.ntmps168
    go_wp2_with fail
    refine (CG.out _ (by repeat (first | with_reducible exact Ext.refl _ | with_reducible assumption | with_reducible refine Ext.alloc ?_ _ | with_reducible refine Ext.drew ?_ | with_reducible refine Ext.drewN ?_ _ | with_reducible refine Ext.setCell ?_ (by simp <;> omega) _ | with_reducible refine Ext.trans ?_ (by assumption)))).mono ?_
    rintro e w1 ⟨rfl, hb1⟩
    obtain ⟨hc1, hf1⟩ := hb1.cells
    clear hc1 hf1
    have qc_0 : w1.cell? ⟨w.heap.size, 0, none⟩ = some (.int .i64 V) := (hb1.cells.1 _ _ (by simp <;> omega)).trans (by simp [go_sem])
    have qc_1 : w1.cell? ⟨w.heap.size, 1, none⟩ = some (.int .i64 W) := (hb1.cells.1 _ _ (by simp <;> omega)).trans (by simp [go_sem])
    have qc_2 : w1.cell? ⟨w.heap.size, 2, none⟩ = some (.int .i64 C) := (hb1.cells.1 _ _ (by simp <;> omega)).trans (by simp [go_sem])
    have qc_3 : w1.cell? ⟨w.heap.size, 3, none⟩ = some (.int .i64 P) := (hb1.cells.1 _ _ (by simp <;> omega)).trans (by simp [go_sem])
    have qc_4 : w1.cell? ⟨w.heap.size, 4, none⟩ = some (.int .u64 (S)) := (hb1.cells.1 _ _ (by simp <;> omega)).trans (by simp [go_sem])
    have qc_5 : w1.cell? ⟨w.heap.size, 5, none⟩ = some (.slice a n cap) := (hb1.cells.1 _ _ (by simp <;> omega)).trans (by simp [go_sem])
    have pc := World.block_lt_of_cell? _ ⟨w.heap.size, 0, none⟩ qc_0
    have rc := Nat.lt_succ_of_lt pc
    go_wp2
    go_ret
    refine ⟨rfl, ?_⟩
    repeat (first | with_reducible exact Ext.refl _ | with_reducible assumption | with_reducible refine Ext.alloc ?_ _ | with_reducible refine Ext.drew ?_ | with_reducible refine Ext.drewN ?_ _ | with_reducible refine Ext.setCell ?_ (by simp <;> omega) _ | with_reducible refine Ext.trans ?_ (by assumption))
  · rw [show thr V W C P ups = 0 by simp [thr, hg]]
    have kg : (ckC V W C P ups == 0) = false := by simpa using hg
    generalize ckC V W C P ups = g at *
    generalize ups.length = n at *
    clear hg
    go_enter Tryz.func168, Tryz.ntmps168
    go_wp2_with fail
    refine (CG.out _ (by repeat (first | with_reducible exact Ext.refl _ | with_reducible assumption | with_reducible refine Ext.alloc ?_ _ | with_reducible refine Ext.drew ?_ | with_reducible refine Ext.drewN ?_ _ | with_reducible refine Ext.setCell ?_ (by simp <;> omega) _ | with_reducible refine Ext.trans ?_ (by assumption)))).mono ?_
    rintro e w2 ⟨rfl, hb2⟩
    obtain ⟨hc2, hf2⟩ := hb2.cells
    go_wp2
    go_ret
    refine ⟨rfl, ?_⟩
    repeat (first | with_reducible exact Ext.refl _ | with_reducible assumption | with_reducible refine Ext.alloc ?_ _ | with_reducible refine Ext.drew ?_ | with_reducible refine Ext.drewN ?_ _ | with_reducible refine Ext.setCell ?_ (by simp <;> omega) _ | with_reducible refine Ext.trans ?_ (by assumption))
def prodB (V W C P : Int) (ups : List (List Int)) (t : Int) : Bool := decide (0 ≤ t) && decide (t < thr V W C P ups) && decide (t < P)
theorem cProducer (V W C P S t : Int) (u : Value) (ups : List (List Int)) (w : World) (hL : ListsV w u ups) (hll : ∀ l ∈ ups, l.length ≤ 1000000) (hn : ups.length ≤ 1000000) :
    Calls Tryz.prog 136 #[(.agg #[.int .i64 V, .int .i64 W, .int .i64 C, .int .i64 P, .int .u64 (S), u]), .int .i64 t] w fun e w' => e = .returned (.bool (prodB V W C P ups t)) ∧ Ext w w' := by
  obtain ⟨a, cap, e, -⟩ := id hL
  subst e
  have CG := Lib.hid (fun w' (hx : Ext w w') => cThreads V W C P S _ ups w' (hL.ext hx) hll hn)
  clear hL hll
  unfold prodB
  generalize thr V W C P ups = T at *
  generalize ups.length = n at *
  by_cases h0 : 0 ≤ t
  · have d0 : decide (0 ≤ t) = true := by simpa using h0
    by_cases h1 : t < T
    · have d1 : decide (t < T) = true := by simpa using h1
      clear h0 h1
      go_enter Tryz.func136, Tryz.ntmps136
      go_wp2_with fail
      refine (CG.out _ (by repeat (first | with_reducible exact Ext.refl _ | with_reducible assumption | with_reducible refine Ext.alloc ?_ _ | with_reducible refine Ext.drew ?_ | with_reducible refine Ext.drewN ?_ _ | with_reducible refine Ext.setCell ?_ (by simp <;> omega) _ | with_reducible refine Ext.trans ?_ (by assumption)))).mono ?_
      rintro e w1 ⟨rfl, hb1⟩
      obtain ⟨hc1, hf1⟩ := hb1.cells
      clear hc1 hf1
      have qc_0 : w1.cell? ⟨w.heap.size, 0, none⟩ = some (.int .i64 V) := (hb1.cells.1 _ _ (by simp <;> omega)).trans (by simp [go_sem])
      have qc_1 : w1.cell? ⟨w.heap.size, 1, none⟩ = some (.int .i64 W) := (hb1.cells.1 _ _ (by simp <;> omega)).trans (by simp [go_sem])
      have qc_2 : w1.cell? ⟨w.heap.size, 2, none⟩ = some (.int .i64 C) := (hb1.cells.1 _ _ (by simp <;> omega)).trans (by simp [go_sem])
      have qc_3 : w1.cell? ⟨w.heap.size, 3, none⟩ = some (.int .i64 P) := (hb1.cells.1 _ _ (by simp <;> omega)).trans (by simp [go_sem])
      have qc_4 : w1.cell? ⟨w.heap.size, 4, none⟩ = some (.int .u64 (S)) := (hb1.cells.1 _ _ (by simp <;> omega)).trans (by simp [go_sem])
      have qc_5 : w1.cell? ⟨w.heap.size, 5, none⟩ = some (.slice a n cap) := (hb1.cells.1 _ _ (by simp <;> omega)).trans (by simp [go_sem])
      have pc := World.block_lt_of_cell? _ ⟨w.heap.size, 0, none⟩ qc_0
      have rc := Nat.lt_succ_of_lt pc
      go_wp2
      go_ret
      refine ⟨ret_bool (by rw [d0, d1]; simp), ?_⟩
      repeat (first | with_reducible exact Ext.refl _ | with_reducible assumption | with_reducible refine Ext.alloc ?_ _ | with_reducible refine Ext.drew ?_ | with_reducible refine Ext.drewN ?_ _ | with_reducible refine Ext.setCell ?_ (by simp <;> omega) _ | with_reducible refine Ext.trans ?_ (by assumption))
    · have d1 : decide (t < T) = false := by simpa using h1
      clear h0 h1
      go_enter Tryz.func136, Tryz.ntmps136
      go_wp2_with fail
      refine (CG.out _ (by repeat (first | with_reducible exact Ext.refl _ | with_reducible assumption | with_reducible refine Ext.alloc ?_ _ | with_reducible refine Ext.drew ?_ | with_reducible refine Ext.drewN ?_ _ | with_reducible refine Ext.setCell ?_ (by simp <;> omega) _ | with_reducible refine Ext.trans ?_ (by assumption)))).mono ?_
      rintro e w2 ⟨rfl, hb2⟩
      obtain ⟨hc2, hf2⟩ := hb2.cells
      go_wp2
      go_ret
      refine ⟨ret_bool (by rw [d0, d1]; simp), ?_⟩
      repeat (first | with_reducible exact Ext.refl _ | with_reducible assumption | with_reducible refine Ext.alloc ?_ _ | with_reducible refine Ext.drew ?_ | with_reducible refine Ext.drewN ?_ _ | with_reducible refine Ext.setCell ?_ (by simp <;> omega) _ | with_reducible refine Ext.trans ?_ (by assumption))
  · have d0 : decide (0 ≤ t) = false := by simpa using h0
    clear h0
    go_enter Tryz.func136, Tryz.ntmps136
    go_wp2
    go_ret
    refine ⟨ret_bool (by rw [d0]; simp), ?_⟩
    repeat (first | with_reducible exact Ext.refl _ | with_reducible assumption | with_reducible refine Ext.alloc ?_ _ | with_reducible refine Ext.drew ?_ | with_reducible refine Ext.drewN ?_ _ | with_reducible refine Ext.setCell ?_ (by simp <;> omega) _ | with_reducible refine Ext.trans ?_ (by assumption))
def consB (V W C P : Int) (ups : List (List Int)) (t : Int) : Bool := decide (0 ≤ t) && decide (t < thr V W C P ups) && !decide (t < P)
def thB (V W C P : Int) (ups : List (List Int)) (t : Int) : Bool := decide (ckC V W C P ups = 0) && decide (0 ≤ t) && decide (t < (ups.length : Int))
/-- cut to a width -/
def cutS (W S : Int) : Int := if W = 32 then S % 4294967296 else S
theorem cStart_ok (V W C P S : Int) (u : Value) (ups : List (List Int)) (w : World) (hL : ListsV w u ups) (hll : ∀ l ∈ ups, l.length ≤ 1000000) (hn : ups.length ≤ 1000000) (hg : ckC V W C P ups = 0) (hS0 : 0 ≤ S) (hS1 : S < 18446744073709551616) :
    Calls Tryz.prog 85 #[(.agg #[.int .i64 V, .int .i64 W, .int .i64 C, .int .i64 P, .int .u64 (S), u])] w fun e w' => e = .returned (.int .u64 (cutS W S)) ∧ Ext w w' := by
  obtain ⟨a, cap, e, -⟩ := id hL
  subst e
  have CG := Lib.hid (fun w' (hx : Ext w w') => cCheck V W C P S _ ups w' (hL.ext hx) hll hn)
  clear hL hll
  have hW := (ok_iff.1 hg).wd
  rw [hg] at CG
  clear hg
  generalize ups.length = n at *
  rcases hW with rfl | rfl
  · rw [show cutS 32 S = S % 4294967296 from rfl]
    go_enter Tryz.func85, Tryz.ntmps85
    go_wp2_with fail
    refine (CG.out _ (by repeat (first | with_reducible exact Ext.refl _ | with_reducible assumption | with_reducible refine Ext.alloc ?_ _ | with_reducible refine Ext.drew ?_ | with_reducible refine Ext.drewN ?_ _ | with_reducible refine Ext.setCell ?_ (by simp <;> omega) _ | with_reducible refine Ext.trans ?_ (by assumption)))).mono ?_
    rintro e w1 ⟨rfl, hb1⟩
    obtain ⟨hc1, hf1⟩ := hb1.cells
    clear hc1 hf1
    have qc_0 : w1.cell? ⟨w.heap.size, 0, none⟩ = some (.int .i64 V) := (hb1.cells.1 _ _ (by simp <;> omega)).trans (by simp [go_sem])
    have qc_1 : w1.cell? ⟨w.heap.size, 1, none⟩ = some (.int .i64 32) := (hb1.cells.1 _ _ (by simp <;> omega)).trans (by simp [go_sem])
    have qc_2 : w1.cell? ⟨w.heap.size, 2, none⟩ = some (.int .i64 C) := (hb1.cells.1 _ _ (by simp <;> omega)).trans (by simp [go_sem])
    have qc_3 : w1.cell? ⟨w.heap.size, 3, none⟩ = some (.int .i64 P) := (hb1.cells.1 _ _ (by simp <;> omega)).trans (by simp [go_sem])
    have qc_4 : w1.cell? ⟨w.heap.size, 4, none⟩ = some (.int .u64 (S)) := (hb1.cells.1 _ _ (by simp <;> omega)).trans (by simp [go_sem])
    have qc_5 : w1.cell? ⟨w.heap.size, 5, none⟩ = some (.slice a n cap) := (hb1.cells.1 _ _ (by simp <;> omega)).trans (by simp [go_sem])
    have pc := World.block_lt_of_cell? _ ⟨w.heap.size, 0, none⟩ qc_0
    have rc := Nat.lt_succ_of_lt pc
    go_wp2_with fail
    refine (wCut_32 _ _).mono ?_
    rintro e w' ⟨rfl, rfl⟩
    go_wp2
    go_ret
    refine ⟨rfl, ?_⟩
    repeat (first | with_reducible exact Ext.refl _ | with_reducible assumption | with_reducible refine Ext.alloc ?_ _ | with_reducible refine Ext.drew ?_ | with_reducible refine Ext.drewN ?_ _ | with_reducible refine Ext.setCell ?_ (by simp <;> omega) _ | with_reducible refine Ext.trans ?_ (by assumption))
  · rw [show cutS 64 S = S from rfl]
    go_enter Tryz.func85, Tryz.ntmps85
    go_wp2_with fail
    refine (CG.out _ (by repeat (first | with_reducible exact Ext.refl _ | with_reducible assumption | with_reducible refine Ext.alloc ?_ _ | with_reducible refine Ext.drew ?_ | with_reducible refine Ext.drewN ?_ _ | with_reducible refine Ext.setCell ?_ (by simp <;> omega) _ | with_reducible refine Ext.trans ?_ (by assumption)))).mono ?_
    rintro e w2 ⟨rfl, hb2⟩
    obtain ⟨hc2, hf2⟩ := hb2.cells
    clear hc2 hf2
    have qc_0 : w2.cell? ⟨w.heap.size, 0, none⟩ = some (.int .i64 V) := (hb2.cells.1 _ _ (by simp <;> omega)).trans (by simp [go_sem])
    have qc_1 : w2.cell? ⟨w.heap.size, 1, none⟩ = some (.int .i64 64) := (hb2.cells.1 _ _ (by simp <;> omega)).trans (by simp [go_sem])
    have qc_2 : w2.cell? ⟨w.heap.size, 2, none⟩ = some (.int .i64 C) := (hb2.cells.1 _ _ (by simp <;> omega)).trans (by simp [go_sem])
    have qc_3 : w2.cell? ⟨w.heap.size, 3, none⟩ = some (.int .i64 P) := (hb2.cells.1 _ _ (by simp <;> omega)).trans (by simp [go_sem])
    have qc_4 : w2.cell? ⟨w.heap.size, 4, none⟩ = some (.int .u64 (S)) := (hb2.cells.1 _ _ (by simp <;> omega)).trans (by simp [go_sem])
    have qc_5 : w2.cell? ⟨w.heap.size, 5, none⟩ = some (.slice a n cap) := (hb2.cells.1 _ _ (by simp <;> omega)).trans (by simp [go_sem])
    have pc := World.block_lt_of_cell? _ ⟨w.heap.size, 0, none⟩ qc_0
    have rc := Nat.lt_succ_of_lt pc
    go_wp2_with fail
    refine (wCut_64 _ _ hS0 hS1).mono ?_
    rintro e w' ⟨rfl, rfl⟩
    go_wp2
    go_ret
    refine ⟨rfl, ?_⟩
    repeat (first | with_reducible exact Ext.refl _ | with_reducible assumption | with_reducible refine Ext.alloc ?_ _ | with_reducible refine Ext.drew ?_ | with_reducible refine Ext.drewN ?_ _ | with_reducible refine Ext.setCell ?_ (by simp <;> omega) _ | with_reducible refine Ext.trans ?_ (by assumption))
theorem cStart_no (V W C P S : Int) (u : Value) (ups : List (List Int)) (w : World) (hL : ListsV w u ups) (hll : ∀ l ∈ ups, l.length ≤ 1000000) (hn : ups.length ≤ 1000000) (hg : ¬ ckC V W C P ups = 0) :
    Calls Tryz.prog 85 #[(.agg #[.int .i64 V, .int .i64 W, .int .i64 C, .int .i64 P, .int .u64 (S), u])] w fun e w' => e = .returned (.int .u64 0) ∧ Ext w w' := by
  obtain ⟨a, cap, e, -⟩ := id hL
  subst e
  have CG := Lib.hid (fun w' (hx : Ext w w') => cCheck V W C P S _ ups w' (hL.ext hx) hll hn)
  clear hL hll
  have kg : (ckC V W C P ups == 0) = false := by simpa using hg
  generalize ckC V W C P ups = g at *
  generalize ups.length = n at *
  clear hg
  go_enter Tryz.func85, Tryz.ntmps85
  go_wp2_with fail
  refine (CG.out _ (by repeat (first | with_reducible exact Ext.refl _ | with_reducible assumption | with_reducible refine Ext.alloc ?_ _ | with_reducible refine Ext.drew ?_ | with_reducible refine Ext.drewN ?_ _ | with_reducible refine Ext.setCell ?_ (by simp <;> omega) _ | with_reducible refine Ext.trans ?_ (by assumption)))).mono ?_
  rintro e w1 ⟨rfl, hb1⟩
  obtain ⟨hc1, hf1⟩ := hb1.cells
  go_wp2
  go_ret
  refine ⟨rfl, ?_⟩
  repeat (first | with_reducible exact Ext.refl _ | with_reducible assumption | with_reducible refine Ext.alloc ?_ _ | with_reducible refine Ext.drew ?_ | with_reducible refine Ext.drewN ?_ _ | with_reducible refine Ext.setCell ?_ (by simp <;> omega) _ | with_reducible refine Ext.trans ?_ (by assumption))
def trn (C P : Int) (n : Nat) : Int := (P + n + 1) * (4 * C + n + 8)
theorem trn_wrap {C P : Int} {n : Nat} (h1 : 1 ≤ P) (h2 : P ≤ 4) (h3 : 2 ≤ C) (h4 : C ≤ 64) (h5 : n ≤ 6) : wrap64 ((P + n + 1) * (4 * C + n + 8)) = trn C P n := by
  unfold trn
  have h6 : 0 ≤ (P + n + 1) * (4 * C + n + 8) := Int.mul_nonneg (by omega) (by omega)
  have h7 : (P + n + 1) * (4 * C + n + 8) ≤ 11 * 270 := Int.mul_le_mul (by omega) (by omega) (by omega) (by omega)
  unfold wrap64
  omega
theorem rStart (V W C P S : Int) (a : Option Addr) (n cap : Nat) (w : World) (hW : W = 32 ∨ W = 64) (hS0 : 0 ≤ S) :
    Calls Tryz.prog 123 #[(.agg #[.int .i64 V, .int .i64 W, .int .i64 C, .int .i64 P, .int .u64 (S), .slice a n cap])] w fun e w' => e = .returned (.int .u64 (cutS W S)) ∧ Ext w w' := by
  rcases hW with rfl | rfl
  · rw [show cutS 32 S = S % 4294967296 from rfl]
    go_enter Tryz.func123, Tryz.ntmps123
    go_wp2_with fail
    refine (rCut_32 _ _ hS0).mono ?_
    rintro e w' ⟨rfl, rfl⟩
    go_wp2
    go_ret
    refine ⟨rfl, ?_⟩
    repeat (first | with_reducible exact Ext.refl _ | with_reducible assumption | with_reducible refine Ext.alloc ?_ _ | with_reducible refine Ext.drew ?_ | with_reducible refine Ext.drewN ?_ _ | with_reducible refine Ext.setCell ?_ (by simp <;> omega) _ | with_reducible refine Ext.trans ?_ (by assumption))
  · rw [show cutS 64 S = S from rfl]
    go_enter Tryz.func123, Tryz.ntmps123
    go_wp2_with fail
    refine (rCut_64 _ _).mono ?_
    rintro e w' ⟨rfl, rfl⟩
    go_wp2
    go_ret
    refine ⟨rfl, ?_⟩
    repeat (first | with_reducible exact Ext.refl _ | with_reducible assumption | with_reducible refine Ext.alloc ?_ _ | with_reducible refine Ext.drew ?_ | with_reducible refine Ext.drewN ?_ _ | with_reducible refine Ext.setCell ?_ (by simp <;> omega) _ | with_reducible refine Ext.trans ?_ (by assumption))
end Go.Proofs.YtkmfamidahlgiaaGreatDoor

/- conf's small functions, and the document's. -/
import Derived.Test.YtlalkefbcddbfabCf
namespace Go.Proofs.Ytlalkefbcddbfab
open Go.RowKit
set_option linter.unusedVariables false
set_option maxHeartbeats 1000000
attribute [local go_sem] later_cell later_frozen later_const
/-- a configuration that may be -/
structure Ok (V W C P : Int) (ups : List (List Int)) : Prop where
  v1 : 1 ≤ V
  v5 : V ≤ 5
  wd : W = 32 ∨ W = 64
  rc : rightB C = true
  c2 : 2 ≤ C
  c64 : C ≤ 64
  p1 : 1 ≤ P
  p4 : P ≤ 4
  pm : P ≤ mostOf V
  rt : Rt ups
theorem ok_iff {V W C P : Int} {ups : List (List Int)} : ckC V W C P ups = 0 ↔ Ok V W C P ups := by
  constructor
  · intro h
    unfold ckC at h
    by_cases h1 : V < 1 ∨ 5 < V
    · rw [if_pos h1] at h; simp at h
    rw [if_neg h1] at h
    by_cases h2 : ¬ (W = 32 ∨ W = 64)
    · rw [if_pos h2] at h; simp at h
    rw [if_neg h2] at h
    by_cases h3 : rightB C = false
    · rw [if_pos h3] at h; simp at h
    rw [if_neg h3] at h
    by_cases h4 : P < 1 ∨ mostOf V < P
    · rw [if_pos h4] at h; simp at h
    rw [if_neg h4] at h
    by_cases h5 : chk ups = 0
    · rw [if_neg (by simpa using h5)] at h
      have hr : rightB C = true := by cases hh : rightB C <;> simp_all
      by_cases h6 : W = 32 ∧ 2147483648 ≤ (P + 2) * C
      · rw [if_pos h6] at h; simp at h
      rw [if_neg h6] at h
      by_cases h7 : 64 < C
      · rw [if_pos h7] at h; simp at h
      have hm := most_le V
      exact ⟨by omega, by omega, by omega, hr, (right_range hr).1, by omega, by omega, by omega, by omega, chk_zero.1 h5⟩
    · rw [if_pos h5] at h; exact absurd h h5
  · intro h
    have hr := right_range h.rc
    have hb := bound_le h.p1 h.p4 h.c2 hr.2
    have := h.v1; have := h.v5; have := h.wd; have := h.p1; have := h.pm; have := h.c64; have := h.p4
    unfold ckC
    rw [if_neg (by omega), if_neg (by omega), if_neg (by simp [h.rc]), if_neg (by omega), if_neg (by simpa using chk_zero.2 h.rt)]
    have : (P + 2) * C ≤ 384 := by
      have h2 := h.c2
      have : P = 1 ∨ P = 2 ∨ P = 3 ∨ P = 4 := by omega
      rcases this with rfl | rfl | rfl | rfl <;> omega
    rw [if_neg (by omega), if_neg (by omega)]
/-- how many threads -/
def thr (V W C P : Int) (ups : List (List Int)) : Int := if ckC V W C P ups = 0 then P + (ups.length : Int) else 0
theorem thr_le {V W C P : Int} {ups : List (List Int)} : 0 ≤ thr V W C P ups ∧ thr V W C P ups ≤ 10 := by
  unfold thr
  split
  · rename_i h
    have ok := ok_iff.1 h
    have := ok.p1; have := ok.p4; have := ok.rt.six
    omega
  · omega
theorem cThreads (V W C P S : Int) (u : Value) (ups : List (List Int)) (w : World) (hL : ListsV w u ups) (hll : ∀ l ∈ ups, l.length ≤ 1000000) (hn : ups.length ≤ 1000000) :
    Calls Try.prog 16 #[(.agg #[.int .i64 V, .int .i64 W, .int .i64 C, .int .i64 P, .int .u64 (S), u])] w fun e w' => e = .returned (.int .i64 (thr V W C P ups)) ∧ Ext w w' := by
  obtain ⟨a, cap, e, -⟩ := id hL
  subst e
  have CG := Lib.hid (fun w' (hx : Ext w w') => cCheck V W C P S _ ups w' (hL.ext hx) hll hn)
  clear hL hll
  by_cases hg : ckC V W C P ups = 0
  · rw [show thr V W C P ups = P + (ups.length : Int) by simp [thr, hg]]
    have ok := ok_iff.1 hg
    have hp := ok.p4
    have hp1 := ok.p1
    rw [hg] at CG
    clear ok hg
    generalize ups.length = n at *
    go_enter Try.func16, Try.ntmps16
    go_wp2_with fail
    refine (CG.out _ (by repeat (first | with_reducible exact Ext.refl _ | with_reducible assumption | with_reducible refine Ext.alloc ?_ _ | with_reducible refine Ext.drew ?_ | with_reducible refine Ext.drewN ?_ _ | with_reducible refine Ext.setCell ?_ (by simp <;> omega) _ | with_reducible refine Ext.trans ?_ (by assumption)))).mono ?_
    rintro e w1 ⟨rfl, hb1⟩
    obtain ⟨hc1, hf1⟩ := hb1.cells
    clear hc1 hf1
    have qc_0 : w1.cell? ⟨w.heap.size, 0, none⟩ = some (.int .i64 V) := (hb1.cells.1 _ _ (by simp <;> omega)).trans (by simp [go_sem])
    have qc_1 : w1.cell? ⟨w.heap.size, 1, none⟩ = some (.int .i64 W) := (hb1.cells.1 _ _ (by simp <;> omega)).trans (by simp [go_sem])
    have qc_2 : w1.cell? ⟨w.heap.size, 2, none⟩ = some (.int .i64 C) := (hb1.cells.1 _ _ (by simp <;> omega)).trans (by simp [go_sem])
    have qc_3 : w1.cell? ⟨w.heap.size, 3, none⟩ = some (.int .i64 P) := (hb1.cells.1 _ _ (by simp <;> omega)).trans (by simp [go_sem])
    have qc_4 : w1.cell? ⟨w.heap.size, 4, none⟩ = some (.int .u64 (S)) := (hb1.cells.1 _ _ (by simp <;> omega)).trans (by simp [go_sem])
    have qc_5 : w1.cell? ⟨w.heap.size, 5, none⟩ = some (.slice a n cap) := (hb1.cells.1 _ _ (by simp <;> omega)).trans (by simp [go_sem])
    have pc := World.block_lt_of_cell? _ ⟨w.heap.size, 0, none⟩ qc_0
    have rc := Nat.lt_succ_of_lt pc
    go_wp2
    go_ret
    refine ⟨rfl, ?_⟩
    repeat (first | with_reducible exact Ext.refl _ | with_reducible assumption | with_reducible refine Ext.alloc ?_ _ | with_reducible refine Ext.drew ?_ | with_reducible refine Ext.drewN ?_ _ | with_reducible refine Ext.setCell ?_ (by simp <;> omega) _ | with_reducible refine Ext.trans ?_ (by assumption))
  · rw [show thr V W C P ups = 0 by simp [thr, hg]]
    have kg : (ckC V W C P ups == 0) = false := by simpa using hg
    generalize ckC V W C P ups = g at *
    generalize ups.length = n at *
    clear hg
    go_enter Try.func16, Try.ntmps16
    go_wp2_with fail
    refine (CG.out _ (by repeat (first | with_reducible exact Ext.refl _ | with_reducible assumption | with_reducible refine Ext.alloc ?_ _ | with_reducible refine Ext.drew ?_ | with_reducible refine Ext.drewN ?_ _ | with_reducible refine Ext.setCell ?_ (by simp <;> omega) _ | with_reducible refine Ext.trans ?_ (by assumption)))).mono ?_
    rintro e w2 ⟨rfl, hb2⟩
    obtain ⟨hc2, hf2⟩ := hb2.cells
    go_wp2
    go_ret
    refine ⟨rfl, ?_⟩
    repeat (first | with_reducible exact Ext.refl _ | with_reducible assumption | with_reducible refine Ext.alloc ?_ _ | with_reducible refine Ext.drew ?_ | with_reducible refine Ext.drewN ?_ _ | with_reducible refine Ext.setCell ?_ (by simp <;> omega) _ | with_reducible refine Ext.trans ?_ (by assumption))
def prodB (V W C P : Int) (ups : List (List Int)) (t : Int) : Bool := decide (0 ≤ t) && decide (t < thr V W C P ups) && decide (t < P)
theorem cProducer (V W C P S t : Int) (u : Value) (ups : List (List Int)) (w : World) (hL : ListsV w u ups) (hll : ∀ l ∈ ups, l.length ≤ 1000000) (hn : ups.length ≤ 1000000) :
    Calls Try.prog 17 #[(.agg #[.int .i64 V, .int .i64 W, .int .i64 C, .int .i64 P, .int .u64 (S), u]), .int .i64 t] w fun e w' => e = .returned (.bool (prodB V W C P ups t)) ∧ Ext w w' := by
  obtain ⟨a, cap, e, -⟩ := id hL
  subst e
  have CG := Lib.hid (fun w' (hx : Ext w w') => cThreads V W C P S _ ups w' (hL.ext hx) hll hn)
  clear hL hll
  unfold prodB
  generalize thr V W C P ups = T at *
  generalize ups.length = n at *
  by_cases h0 : 0 ≤ t
  · have d0 : decide (0 ≤ t) = true := by simpa using h0
    by_cases h1 : t < T
    · have d1 : decide (t < T) = true := by simpa using h1
      clear h0 h1
      go_enter Try.func17, Try.ntmps17
      go_wp2_with fail
      refine (CG.out _ (by repeat (first | with_reducible exact Ext.refl _ | with_reducible assumption | with_reducible refine Ext.alloc ?_ _ | with_reducible refine Ext.drew ?_ | with_reducible refine Ext.drewN ?_ _ | with_reducible refine Ext.setCell ?_ (by simp <;> omega) _ | with_reducible refine Ext.trans ?_ (by assumption)))).mono ?_
      rintro e w1 ⟨rfl, hb1⟩
      obtain ⟨hc1, hf1⟩ := hb1.cells
      clear hc1 hf1
      have qc_0 : w1.cell? ⟨w.heap.size, 0, none⟩ = some (.int .i64 V) := (hb1.cells.1 _ _ (by simp <;> omega)).trans (by simp [go_sem])
      have qc_1 : w1.cell? ⟨w.heap.size, 1, none⟩ = some (.int .i64 W) := (hb1.cells.1 _ _ (by simp <;> omega)).trans (by simp [go_sem])
      have qc_2 : w1.cell? ⟨w.heap.size, 2, none⟩ = some (.int .i64 C) := (hb1.cells.1 _ _ (by simp <;> omega)).trans (by simp [go_sem])
      have qc_3 : w1.cell? ⟨w.heap.size, 3, none⟩ = some (.int .i64 P) := (hb1.cells.1 _ _ (by simp <;> omega)).trans (by simp [go_sem])
      have qc_4 : w1.cell? ⟨w.heap.size, 4, none⟩ = some (.int .u64 (S)) := (hb1.cells.1 _ _ (by simp <;> omega)).trans (by simp [go_sem])
      have qc_5 : w1.cell? ⟨w.heap.size, 5, none⟩ = some (.slice a n cap) := (hb1.cells.1 _ _ (by simp <;> omega)).trans (by simp [go_sem])
      have pc := World.block_lt_of_cell? _ ⟨w.heap.size, 0, none⟩ qc_0
      have rc := Nat.lt_succ_of_lt pc
      go_wp2
      go_ret
      refine ⟨ret_bool (by rw [d0, d1]; simp), ?_⟩
      repeat (first | with_reducible exact Ext.refl _ | with_reducible assumption | with_reducible refine Ext.alloc ?_ _ | with_reducible refine Ext.drew ?_ | with_reducible refine Ext.drewN ?_ _ | with_reducible refine Ext.setCell ?_ (by simp <;> omega) _ | with_reducible refine Ext.trans ?_ (by assumption))
    · have d1 : decide (t < T) = false := by simpa using h1
      clear h0 h1
      go_enter Try.func17, Try.ntmps17
      go_wp2_with fail
      refine (CG.out _ (by repeat (first | with_reducible exact Ext.refl _ | with_reducible assumption | with_reducible refine Ext.alloc ?_ _ | with_reducible refine Ext.drew ?_ | with_reducible refine Ext.drewN ?_ _ | with_reducible refine Ext.setCell ?_ (by simp <;> omega) _ | with_reducible refine Ext.trans ?_ (by assumption)))).mono ?_
      rintro e w2 ⟨rfl, hb2⟩
      obtain ⟨hc2, hf2⟩ := hb2.cells
      go_wp2
      go_ret
      refine ⟨ret_bool (by rw [d0, d1]; simp), ?_⟩
      repeat (first | with_reducible exact Ext.refl _ | with_reducible assumption | with_reducible refine Ext.alloc ?_ _ | with_reducible refine Ext.drew ?_ | with_reducible refine Ext.drewN ?_ _ | with_reducible refine Ext.setCell ?_ (by simp <;> omega) _ | with_reducible refine Ext.trans ?_ (by assumption))
  · have d0 : decide (0 ≤ t) = false := by simpa using h0
    clear h0
    go_enter Try.func17, Try.ntmps17
    go_wp2
    go_ret
    refine ⟨ret_bool (by rw [d0]; simp), ?_⟩
    repeat (first | with_reducible exact Ext.refl _ | with_reducible assumption | with_reducible refine Ext.alloc ?_ _ | with_reducible refine Ext.drew ?_ | with_reducible refine Ext.drewN ?_ _ | with_reducible refine Ext.setCell ?_ (by simp <;> omega) _ | with_reducible refine Ext.trans ?_ (by assumption))
def consB (V W C P : Int) (ups : List (List Int)) (t : Int) : Bool := decide (0 ≤ t) && decide (t < thr V W C P ups) && !decide (t < P)
theorem cConsumer (V W C P S t : Int) (u : Value) (ups : List (List Int)) (w : World) (hL : ListsV w u ups) (hll : ∀ l ∈ ups, l.length ≤ 1000000) (hn : ups.length ≤ 1000000) :
    Calls Try.prog 14 #[(.agg #[.int .i64 V, .int .i64 W, .int .i64 C, .int .i64 P, .int .u64 (S), u]), .int .i64 t] w fun e w' => e = .returned (.tuple #[.int .i64 (if consB V W C P ups t then t - P else 0), .bool (consB V W C P ups t)]) ∧ Ext w w' := by
  obtain ⟨a, cap, e, -⟩ := id hL
  subst e
  have CG := Lib.hid (fun w' (hx : Ext w w') => cThreads V W C P S _ ups w' (hL.ext hx) hll hn)
  clear hL hll
  unfold consB
  have hT := thr_le (V := V) (W := W) (C := C) (P := P) (ups := ups)
  have hTP : 0 < thr V W C P ups → 1 ≤ P := by
    unfold thr
    split
    · rename_i h; intro _; exact (ok_iff.1 h).p1
    · intro h; omega
  generalize thr V W C P ups = T at *
  generalize ups.length = n at *
  by_cases h0 : t < 0
  · have d0 : decide (t < 0) = true := by simpa using h0
    have e : (decide (0 ≤ t) && decide (t < T) && !decide (t < P)) = false := by simp; omega
    rw [e, if_neg (by simp)]
    clear h0 e hT hTP
    go_enter Try.func14, Try.ntmps14
    go_wp2
    go_ret2
    refine ⟨rfl, ?_⟩
    repeat (first | with_reducible exact Ext.refl _ | with_reducible assumption | with_reducible refine Ext.alloc ?_ _ | with_reducible refine Ext.drew ?_ | with_reducible refine Ext.drewN ?_ _ | with_reducible refine Ext.setCell ?_ (by simp <;> omega) _ | with_reducible refine Ext.trans ?_ (by assumption))
  have d0 : decide (t < 0) = false := by simpa using h0
  by_cases h1 : T ≤ t
  · have d1 : decide (T ≤ t) = true := by simpa using h1
    have e : (decide (0 ≤ t) && decide (t < T) && !decide (t < P)) = false := by simp; omega
    rw [e, if_neg (by simp)]
    clear h0 h1 e hT hTP
    go_enter Try.func14, Try.ntmps14
    go_wp2_with fail
    refine (CG.out _ (by repeat (first | with_reducible exact Ext.refl _ | with_reducible assumption | with_reducible refine Ext.alloc ?_ _ | with_reducible refine Ext.drew ?_ | with_reducible refine Ext.drewN ?_ _ | with_reducible refine Ext.setCell ?_ (by simp <;> omega) _ | with_reducible refine Ext.trans ?_ (by assumption)))).mono ?_
    rintro e w1 ⟨rfl, hb1⟩
    obtain ⟨hc1, hf1⟩ := hb1.cells
    go_wp2
    go_ret2
    refine ⟨rfl, ?_⟩
    repeat (first | with_reducible exact Ext.refl _ | with_reducible assumption | with_reducible refine Ext.alloc ?_ _ | with_reducible refine Ext.drew ?_ | with_reducible refine Ext.drewN ?_ _ | with_reducible refine Ext.setCell ?_ (by simp <;> omega) _ | with_reducible refine Ext.trans ?_ (by assumption))
  have d1 : decide (T ≤ t) = false := by simpa using h1
  by_cases h2 : t < P
  · have d2 : decide (t < P) = true := by simpa using h2
    have e : (decide (0 ≤ t) && decide (t < T) && !decide (t < P)) = false := by simp [h2]
    rw [e, if_neg (by simp)]
    clear h0 h1 h2 e hT hTP
    go_enter Try.func14, Try.ntmps14
    go_wp2_with fail
    refine (CG.out _ (by repeat (first | with_reducible exact Ext.refl _ | with_reducible assumption | with_reducible refine Ext.alloc ?_ _ | with_reducible refine Ext.drew ?_ | with_reducible refine Ext.drewN ?_ _ | with_reducible refine Ext.setCell ?_ (by simp <;> omega) _ | with_reducible refine Ext.trans ?_ (by assumption)))).mono ?_
    rintro e w2 ⟨rfl, hb2⟩
    obtain ⟨hc2, hf2⟩ := hb2.cells
    clear hc2 hf2
    have qc_0 : w2.cell? ⟨w.heap.size, 0, none⟩ = some (.int .i64 V) := (hb2.cells.1 _ _ (by simp <;> omega)).trans (by simp [go_sem])
    have qc_1 : w2.cell? ⟨w.heap.size, 1, none⟩ = some (.int .i64 W) := (hb2.cells.1 _ _ (by simp <;> omega)).trans (by simp [go_sem])
    have qc_2 : w2.cell? ⟨w.heap.size, 2, none⟩ = some (.int .i64 C) := (hb2.cells.1 _ _ (by simp <;> omega)).trans (by simp [go_sem])
    have qc_3 : w2.cell? ⟨w.heap.size, 3, none⟩ = some (.int .i64 P) := (hb2.cells.1 _ _ (by simp <;> omega)).trans (by simp [go_sem])
    have qc_4 : w2.cell? ⟨w.heap.size, 4, none⟩ = some (.int .u64 (S)) := (hb2.cells.1 _ _ (by simp <;> omega)).trans (by simp [go_sem])
    have qc_5 : w2.cell? ⟨w.heap.size, 5, none⟩ = some (.slice a n cap) := (hb2.cells.1 _ _ (by simp <;> omega)).trans (by simp [go_sem])
    have pc := World.block_lt_of_cell? _ ⟨w.heap.size, 0, none⟩ qc_0
    have rc := Nat.lt_succ_of_lt pc
    go_wp2
    go_ret2
    refine ⟨rfl, ?_⟩
    repeat (first | with_reducible exact Ext.refl _ | with_reducible assumption | with_reducible refine Ext.alloc ?_ _ | with_reducible refine Ext.drew ?_ | with_reducible refine Ext.drewN ?_ _ | with_reducible refine Ext.setCell ?_ (by simp <;> omega) _ | with_reducible refine Ext.trans ?_ (by assumption))
  · have d2 : decide (t < P) = false := by simpa using h2
    have e : (decide (0 ≤ t) && decide (t < T) && !decide (t < P)) = true := by simp; omega
    rw [e, if_pos rfl]
    have hsub : wrap64 (t - P) = t - P := by have := hTP (by omega); unfold wrap64; omega
    clear h0 h1 h2 e hT hTP
    go_enter Try.func14, Try.ntmps14
    go_wp2_with fail
    refine (CG.out _ (by repeat (first | with_reducible exact Ext.refl _ | with_reducible assumption | with_reducible refine Ext.alloc ?_ _ | with_reducible refine Ext.drew ?_ | with_reducible refine Ext.drewN ?_ _ | with_reducible refine Ext.setCell ?_ (by simp <;> omega) _ | with_reducible refine Ext.trans ?_ (by assumption)))).mono ?_
    rintro e w3 ⟨rfl, hb3⟩
    obtain ⟨hc3, hf3⟩ := hb3.cells
    clear hc3 hf3
    have qc_0 : w3.cell? ⟨w.heap.size, 0, none⟩ = some (.int .i64 V) := (hb3.cells.1 _ _ (by simp <;> omega)).trans (by simp [go_sem])
    have qc_1 : w3.cell? ⟨w.heap.size, 1, none⟩ = some (.int .i64 W) := (hb3.cells.1 _ _ (by simp <;> omega)).trans (by simp [go_sem])
    have qc_2 : w3.cell? ⟨w.heap.size, 2, none⟩ = some (.int .i64 C) := (hb3.cells.1 _ _ (by simp <;> omega)).trans (by simp [go_sem])
    have qc_3 : w3.cell? ⟨w.heap.size, 3, none⟩ = some (.int .i64 P) := (hb3.cells.1 _ _ (by simp <;> omega)).trans (by simp [go_sem])
    have qc_4 : w3.cell? ⟨w.heap.size, 4, none⟩ = some (.int .u64 (S)) := (hb3.cells.1 _ _ (by simp <;> omega)).trans (by simp [go_sem])
    have qc_5 : w3.cell? ⟨w.heap.size, 5, none⟩ = some (.slice a n cap) := (hb3.cells.1 _ _ (by simp <;> omega)).trans (by simp [go_sem])
    have pc := World.block_lt_of_cell? _ ⟨w.heap.size, 0, none⟩ qc_0
    have rc := Nat.lt_succ_of_lt pc
    go_wp2
    go_ret2
    refine ⟨congrArg (fun x => Ending.returned (Value.tuple #[.int .i64 x, .bool true])) hsub, ?_⟩
    repeat (first | with_reducible exact Ext.refl _ | with_reducible assumption | with_reducible refine Ext.alloc ?_ _ | with_reducible refine Ext.drew ?_ | with_reducible refine Ext.drewN ?_ _ | with_reducible refine Ext.setCell ?_ (by simp <;> omega) _ | with_reducible refine Ext.trans ?_ (by assumption))
def thB (V W C P : Int) (ups : List (List Int)) (t : Int) : Bool := decide (ckC V W C P ups = 0) && decide (0 ≤ t) && decide (t < (ups.length : Int))
theorem cThread (V W C P S t : Int) (u : Value) (ups : List (List Int)) (w : World) (hL : ListsV w u ups) (hll : ∀ l ∈ ups, l.length ≤ 1000000) (hn : ups.length ≤ 1000000) :
    Calls Try.prog 15 #[(.agg #[.int .i64 V, .int .i64 W, .int .i64 C, .int .i64 P, .int .u64 (S), u]), .int .i64 t] w fun e w' => e = .returned (.tuple #[.int .i64 (if thB V W C P ups t then P + t else 0), .bool (thB V W C P ups t)]) ∧ Ext w w' := by
  obtain ⟨a, cap, e, -⟩ := id hL
  subst e
  have CG := Lib.hid (fun w' (hx : Ext w w') => cCheck V W C P S _ ups w' (hL.ext hx) hll hn)
  clear hL hll
  unfold thB
  by_cases hg : ckC V W C P ups = 0
  · have ok := ok_iff.1 hg
    have hp := ok.p4
    have hp1 := ok.p1
    rw [hg] at CG
    rw [decide_eq_true hg]
    clear ok hg
    generalize ups.length = n at *
    by_cases h0 : t < 0
    · have d0 : decide (t < 0) = true := by simpa using h0
      have e : (true && decide (0 ≤ t) && decide (t < (n : Int))) = false := by simp; omega
      rw [e, if_neg (by simp)]
      clear h0 e
      go_enter Try.func15, Try.ntmps15
      go_wp2_with fail
      refine (CG.out _ (by repeat (first | with_reducible exact Ext.refl _ | with_reducible assumption | with_reducible refine Ext.alloc ?_ _ | with_reducible refine Ext.drew ?_ | with_reducible refine Ext.drewN ?_ _ | with_reducible refine Ext.setCell ?_ (by simp <;> omega) _ | with_reducible refine Ext.trans ?_ (by assumption)))).mono ?_
      rintro e w1 ⟨rfl, hb1⟩
      obtain ⟨hc1, hf1⟩ := hb1.cells
      go_wp2
      go_ret2
      refine ⟨rfl, ?_⟩
      repeat (first | with_reducible exact Ext.refl _ | with_reducible assumption | with_reducible refine Ext.alloc ?_ _ | with_reducible refine Ext.drew ?_ | with_reducible refine Ext.drewN ?_ _ | with_reducible refine Ext.setCell ?_ (by simp <;> omega) _ | with_reducible refine Ext.trans ?_ (by assumption))
    have d0 : decide (t < 0) = false := by simpa using h0
    by_cases h1 : (n : Int) ≤ t
    · have d1 : decide ((n : Int) ≤ t) = true := by simpa using h1
      have e : (true && decide (0 ≤ t) && decide (t < (n : Int))) = false := by simp; omega
      rw [e, if_neg (by simp)]
      clear h0 h1 e
      go_enter Try.func15, Try.ntmps15
      go_wp2_with fail
      refine (CG.out _ (by repeat (first | with_reducible exact Ext.refl _ | with_reducible assumption | with_reducible refine Ext.alloc ?_ _ | with_reducible refine Ext.drew ?_ | with_reducible refine Ext.drewN ?_ _ | with_reducible refine Ext.setCell ?_ (by simp <;> omega) _ | with_reducible refine Ext.trans ?_ (by assumption)))).mono ?_
      rintro e w2 ⟨rfl, hb2⟩
      obtain ⟨hc2, hf2⟩ := hb2.cells
      clear hc2 hf2
      have qc_0 : w2.cell? ⟨w.heap.size, 0, none⟩ = some (.int .i64 V) := (hb2.cells.1 _ _ (by simp <;> omega)).trans (by simp [go_sem])
      have qc_1 : w2.cell? ⟨w.heap.size, 1, none⟩ = some (.int .i64 W) := (hb2.cells.1 _ _ (by simp <;> omega)).trans (by simp [go_sem])
      have qc_2 : w2.cell? ⟨w.heap.size, 2, none⟩ = some (.int .i64 C) := (hb2.cells.1 _ _ (by simp <;> omega)).trans (by simp [go_sem])
      have qc_3 : w2.cell? ⟨w.heap.size, 3, none⟩ = some (.int .i64 P) := (hb2.cells.1 _ _ (by simp <;> omega)).trans (by simp [go_sem])
      have qc_4 : w2.cell? ⟨w.heap.size, 4, none⟩ = some (.int .u64 (S)) := (hb2.cells.1 _ _ (by simp <;> omega)).trans (by simp [go_sem])
      have qc_5 : w2.cell? ⟨w.heap.size, 5, none⟩ = some (.slice a n cap) := (hb2.cells.1 _ _ (by simp <;> omega)).trans (by simp [go_sem])
      have pc := World.block_lt_of_cell? _ ⟨w.heap.size, 0, none⟩ qc_0
      have rc := Nat.lt_succ_of_lt pc
      go_wp2
      go_ret2
      refine ⟨rfl, ?_⟩
      repeat (first | with_reducible exact Ext.refl _ | with_reducible assumption | with_reducible refine Ext.alloc ?_ _ | with_reducible refine Ext.drew ?_ | with_reducible refine Ext.drewN ?_ _ | with_reducible refine Ext.setCell ?_ (by simp <;> omega) _ | with_reducible refine Ext.trans ?_ (by assumption))
    · have d1 : decide ((n : Int) ≤ t) = false := by simpa using h1
      have e : (true && decide (0 ≤ t) && decide (t < (n : Int))) = true := by simp; omega
      rw [e, if_pos rfl]
      have hsub : wrap64 (P + t) = P + t := by unfold wrap64; omega
      clear h0 h1 e
      go_enter Try.func15, Try.ntmps15
      go_wp2_with fail
      refine (CG.out _ (by repeat (first | with_reducible exact Ext.refl _ | with_reducible assumption | with_reducible refine Ext.alloc ?_ _ | with_reducible refine Ext.drew ?_ | with_reducible refine Ext.drewN ?_ _ | with_reducible refine Ext.setCell ?_ (by simp <;> omega) _ | with_reducible refine Ext.trans ?_ (by assumption)))).mono ?_
      rintro e w3 ⟨rfl, hb3⟩
      obtain ⟨hc3, hf3⟩ := hb3.cells
      clear hc3 hf3
      have qc_0 : w3.cell? ⟨w.heap.size, 0, none⟩ = some (.int .i64 V) := (hb3.cells.1 _ _ (by simp <;> omega)).trans (by simp [go_sem])
      have qc_1 : w3.cell? ⟨w.heap.size, 1, none⟩ = some (.int .i64 W) := (hb3.cells.1 _ _ (by simp <;> omega)).trans (by simp [go_sem])
      have qc_2 : w3.cell? ⟨w.heap.size, 2, none⟩ = some (.int .i64 C) := (hb3.cells.1 _ _ (by simp <;> omega)).trans (by simp [go_sem])
      have qc_3 : w3.cell? ⟨w.heap.size, 3, none⟩ = some (.int .i64 P) := (hb3.cells.1 _ _ (by simp <;> omega)).trans (by simp [go_sem])
      have qc_4 : w3.cell? ⟨w.heap.size, 4, none⟩ = some (.int .u64 (S)) := (hb3.cells.1 _ _ (by simp <;> omega)).trans (by simp [go_sem])
      have qc_5 : w3.cell? ⟨w.heap.size, 5, none⟩ = some (.slice a n cap) := (hb3.cells.1 _ _ (by simp <;> omega)).trans (by simp [go_sem])
      have pc := World.block_lt_of_cell? _ ⟨w.heap.size, 0, none⟩ qc_0
      have rc := Nat.lt_succ_of_lt pc
      go_wp2
      go_ret2
      refine ⟨congrArg (fun x => Ending.returned (Value.tuple #[.int .i64 x, .bool true])) hsub, ?_⟩
      repeat (first | with_reducible exact Ext.refl _ | with_reducible assumption | with_reducible refine Ext.alloc ?_ _ | with_reducible refine Ext.drew ?_ | with_reducible refine Ext.drewN ?_ _ | with_reducible refine Ext.setCell ?_ (by simp <;> omega) _ | with_reducible refine Ext.trans ?_ (by assumption))
  · rw [decide_eq_false hg]
    have kg : (ckC V W C P ups != 0) = true := by simpa using hg
    generalize ckC V W C P ups = g at *
    generalize ups.length = n at *
    rw [show (false && decide (0 ≤ t) && decide (t < (n : Int))) = false by simp, if_neg (by simp)]
    clear hg
    go_enter Try.func15, Try.ntmps15
    go_wp2_with fail
    refine (CG.out _ (by repeat (first | with_reducible exact Ext.refl _ | with_reducible assumption | with_reducible refine Ext.alloc ?_ _ | with_reducible refine Ext.drew ?_ | with_reducible refine Ext.drewN ?_ _ | with_reducible refine Ext.setCell ?_ (by simp <;> omega) _ | with_reducible refine Ext.trans ?_ (by assumption)))).mono ?_
    rintro e w4 ⟨rfl, hb4⟩
    obtain ⟨hc4, hf4⟩ := hb4.cells
    go_wp2
    go_ret2
    refine ⟨rfl, ?_⟩
    repeat (first | with_reducible exact Ext.refl _ | with_reducible assumption | with_reducible refine Ext.alloc ?_ _ | with_reducible refine Ext.drew ?_ | with_reducible refine Ext.drewN ?_ _ | with_reducible refine Ext.setCell ?_ (by simp <;> omega) _ | with_reducible refine Ext.trans ?_ (by assumption))
/-- cut to a width -/
def cutS (W S : Int) : Int := if W = 32 then S % 4294967296 else S
theorem cStart_ok (V W C P S : Int) (u : Value) (ups : List (List Int)) (w : World) (hL : ListsV w u ups) (hll : ∀ l ∈ ups, l.length ≤ 1000000) (hn : ups.length ≤ 1000000) (hg : ckC V W C P ups = 0) (hS0 : 0 ≤ S) (hS1 : S < 18446744073709551616) :
    Calls Try.prog 18 #[(.agg #[.int .i64 V, .int .i64 W, .int .i64 C, .int .i64 P, .int .u64 (S), u])] w fun e w' => e = .returned (.int .u64 (cutS W S)) ∧ Ext w w' := by
  obtain ⟨a, cap, e, -⟩ := id hL
  subst e
  have CG := Lib.hid (fun w' (hx : Ext w w') => cCheck V W C P S _ ups w' (hL.ext hx) hll hn)
  clear hL hll
  have hW := (ok_iff.1 hg).wd
  rw [hg] at CG
  clear hg
  generalize ups.length = n at *
  rcases hW with rfl | rfl
  · rw [show cutS 32 S = S % 4294967296 from rfl]
    go_enter Try.func18, Try.ntmps18
    go_wp2_with fail
    refine (CG.out _ (by repeat (first | with_reducible exact Ext.refl _ | with_reducible assumption | with_reducible refine Ext.alloc ?_ _ | with_reducible refine Ext.drew ?_ | with_reducible refine Ext.drewN ?_ _ | with_reducible refine Ext.setCell ?_ (by simp <;> omega) _ | with_reducible refine Ext.trans ?_ (by assumption)))).mono ?_
    rintro e w1 ⟨rfl, hb1⟩
    obtain ⟨hc1, hf1⟩ := hb1.cells
    clear hc1 hf1
    have qc_0 : w1.cell? ⟨w.heap.size, 0, none⟩ = some (.int .i64 V) := (hb1.cells.1 _ _ (by simp <;> omega)).trans (by simp [go_sem])
    have qc_1 : w1.cell? ⟨w.heap.size, 1, none⟩ = some (.int .i64 32) := (hb1.cells.1 _ _ (by simp <;> omega)).trans (by simp [go_sem])
    have qc_2 : w1.cell? ⟨w.heap.size, 2, none⟩ = some (.int .i64 C) := (hb1.cells.1 _ _ (by simp <;> omega)).trans (by simp [go_sem])
    have qc_3 : w1.cell? ⟨w.heap.size, 3, none⟩ = some (.int .i64 P) := (hb1.cells.1 _ _ (by simp <;> omega)).trans (by simp [go_sem])
    have qc_4 : w1.cell? ⟨w.heap.size, 4, none⟩ = some (.int .u64 (S)) := (hb1.cells.1 _ _ (by simp <;> omega)).trans (by simp [go_sem])
    have qc_5 : w1.cell? ⟨w.heap.size, 5, none⟩ = some (.slice a n cap) := (hb1.cells.1 _ _ (by simp <;> omega)).trans (by simp [go_sem])
    have pc := World.block_lt_of_cell? _ ⟨w.heap.size, 0, none⟩ qc_0
    have rc := Nat.lt_succ_of_lt pc
    go_wp2_with fail
    refine (wCut_32 _ _).mono ?_
    rintro e w' ⟨rfl, rfl⟩
    go_wp2
    go_ret
    refine ⟨rfl, ?_⟩
    repeat (first | with_reducible exact Ext.refl _ | with_reducible assumption | with_reducible refine Ext.alloc ?_ _ | with_reducible refine Ext.drew ?_ | with_reducible refine Ext.drewN ?_ _ | with_reducible refine Ext.setCell ?_ (by simp <;> omega) _ | with_reducible refine Ext.trans ?_ (by assumption))
  · rw [show cutS 64 S = S from rfl]
    go_enter Try.func18, Try.ntmps18
    go_wp2_with fail
    refine (CG.out _ (by repeat (first | with_reducible exact Ext.refl _ | with_reducible assumption | with_reducible refine Ext.alloc ?_ _ | with_reducible refine Ext.drew ?_ | with_reducible refine Ext.drewN ?_ _ | with_reducible refine Ext.setCell ?_ (by simp <;> omega) _ | with_reducible refine Ext.trans ?_ (by assumption)))).mono ?_
    rintro e w2 ⟨rfl, hb2⟩
    obtain ⟨hc2, hf2⟩ := hb2.cells
    clear hc2 hf2
    have qc_0 : w2.cell? ⟨w.heap.size, 0, none⟩ = some (.int .i64 V) := (hb2.cells.1 _ _ (by simp <;> omega)).trans (by simp [go_sem])
    have qc_1 : w2.cell? ⟨w.heap.size, 1, none⟩ = some (.int .i64 64) := (hb2.cells.1 _ _ (by simp <;> omega)).trans (by simp [go_sem])
    have qc_2 : w2.cell? ⟨w.heap.size, 2, none⟩ = some (.int .i64 C) := (hb2.cells.1 _ _ (by simp <;> omega)).trans (by simp [go_sem])
    have qc_3 : w2.cell? ⟨w.heap.size, 3, none⟩ = some (.int .i64 P) := (hb2.cells.1 _ _ (by simp <;> omega)).trans (by simp [go_sem])
    have qc_4 : w2.cell? ⟨w.heap.size, 4, none⟩ = some (.int .u64 (S)) := (hb2.cells.1 _ _ (by simp <;> omega)).trans (by simp [go_sem])
    have qc_5 : w2.cell? ⟨w.heap.size, 5, none⟩ = some (.slice a n cap) := (hb2.cells.1 _ _ (by simp <;> omega)).trans (by simp [go_sem])
    have pc := World.block_lt_of_cell? _ ⟨w.heap.size, 0, none⟩ qc_0
    have rc := Nat.lt_succ_of_lt pc
    go_wp2_with fail
    refine (wCut_64 _ _ hS0 hS1).mono ?_
    rintro e w' ⟨rfl, rfl⟩
    go_wp2
    go_ret
    refine ⟨rfl, ?_⟩
    repeat (first | with_reducible exact Ext.refl _ | with_reducible assumption | with_reducible refine Ext.alloc ?_ _ | with_reducible refine Ext.drew ?_ | with_reducible refine Ext.drewN ?_ _ | with_reducible refine Ext.setCell ?_ (by simp <;> omega) _ | with_reducible refine Ext.trans ?_ (by assumption))
theorem cStart_no (V W C P S : Int) (u : Value) (ups : List (List Int)) (w : World) (hL : ListsV w u ups) (hll : ∀ l ∈ ups, l.length ≤ 1000000) (hn : ups.length ≤ 1000000) (hg : ¬ ckC V W C P ups = 0) :
    Calls Try.prog 18 #[(.agg #[.int .i64 V, .int .i64 W, .int .i64 C, .int .i64 P, .int .u64 (S), u])] w fun e w' => e = .returned (.int .u64 0) ∧ Ext w w' := by
  obtain ⟨a, cap, e, -⟩ := id hL
  subst e
  have CG := Lib.hid (fun w' (hx : Ext w w') => cCheck V W C P S _ ups w' (hL.ext hx) hll hn)
  clear hL hll
  have kg : (ckC V W C P ups == 0) = false := by simpa using hg
  generalize ckC V W C P ups = g at *
  generalize ups.length = n at *
  clear hg
  go_enter Try.func18, Try.ntmps18
  go_wp2_with fail
  refine (CG.out _ (by repeat (first | with_reducible exact Ext.refl _ | with_reducible assumption | with_reducible refine Ext.alloc ?_ _ | with_reducible refine Ext.drew ?_ | with_reducible refine Ext.drewN ?_ _ | with_reducible refine Ext.setCell ?_ (by simp <;> omega) _ | with_reducible refine Ext.trans ?_ (by assumption)))).mono ?_
  rintro e w1 ⟨rfl, hb1⟩
  obtain ⟨hc1, hf1⟩ := hb1.cells
  go_wp2
  go_ret
  refine ⟨rfl, ?_⟩
  repeat (first | with_reducible exact Ext.refl _ | with_reducible assumption | with_reducible refine Ext.alloc ?_ _ | with_reducible refine Ext.drew ?_ | with_reducible refine Ext.drewN ?_ _ | with_reducible refine Ext.setCell ?_ (by simp <;> omega) _ | with_reducible refine Ext.trans ?_ (by assumption))
theorem cTurns_no (V W C P S : Int) (u : Value) (ups : List (List Int)) (w : World) (hL : ListsV w u ups) (hll : ∀ l ∈ ups, l.length ≤ 1000000) (hn : ups.length ≤ 1000000) (hg : ¬ ckC V W C P ups = 0) :
    Calls Try.prog 20 #[(.agg #[.int .i64 V, .int .i64 W, .int .i64 C, .int .i64 P, .int .u64 (S), u])] w fun e w' => e = .returned (.int .i64 0) ∧ Ext w w' := by
  obtain ⟨a, cap, e, -⟩ := id hL
  subst e
  have CG := Lib.hid (fun w' (hx : Ext w w') => cCheck V W C P S _ ups w' (hL.ext hx) hll hn)
  clear hL hll
  have kg : (ckC V W C P ups == 0) = false := by simpa using hg
  generalize ckC V W C P ups = g at *
  generalize ups.length = n at *
  clear hg
  go_enter Try.func20, Try.ntmps20
  go_wp2_with fail
  refine (CG.out _ (by repeat (first | with_reducible exact Ext.refl _ | with_reducible assumption | with_reducible refine Ext.alloc ?_ _ | with_reducible refine Ext.drew ?_ | with_reducible refine Ext.drewN ?_ _ | with_reducible refine Ext.setCell ?_ (by simp <;> omega) _ | with_reducible refine Ext.trans ?_ (by assumption)))).mono ?_
  rintro e w1 ⟨rfl, hb1⟩
  obtain ⟨hc1, hf1⟩ := hb1.cells
  go_wp2
  go_ret
  refine ⟨rfl, ?_⟩
  repeat (first | with_reducible exact Ext.refl _ | with_reducible assumption | with_reducible refine Ext.alloc ?_ _ | with_reducible refine Ext.drew ?_ | with_reducible refine Ext.drewN ?_ _ | with_reducible refine Ext.setCell ?_ (by simp <;> omega) _ | with_reducible refine Ext.trans ?_ (by assumption))
theorem cOthers_no (V W C P S : Int) (u : Value) (ups : List (List Int)) (w : World) (hL : ListsV w u ups) (hll : ∀ l ∈ ups, l.length ≤ 1000000) (hn : ups.length ≤ 1000000) (hg : ¬ ckC V W C P ups = 0) :
    Calls Try.prog 22 #[(.agg #[.int .i64 V, .int .i64 W, .int .i64 C, .int .i64 P, .int .u64 (S), u])] w fun e w' => e = .returned (.slice none 0 0) ∧ Ext w w' := by
  obtain ⟨a, cap, e, -⟩ := id hL
  subst e
  have CG := Lib.hid (fun w' (hx : Ext w w') => cCheck V W C P S _ ups w' (hL.ext hx) hll hn)
  clear hL hll
  have kg : (ckC V W C P ups == 0) = false := by simpa using hg
  generalize ckC V W C P ups = g at *
  generalize ups.length = n at *
  clear hg
  go_enter Try.func22, Try.ntmps22
  go_wp2_with fail
  refine (CG.out _ (by repeat (first | with_reducible exact Ext.refl _ | with_reducible assumption | with_reducible refine Ext.alloc ?_ _ | with_reducible refine Ext.drew ?_ | with_reducible refine Ext.drewN ?_ _ | with_reducible refine Ext.setCell ?_ (by simp <;> omega) _ | with_reducible refine Ext.trans ?_ (by assumption)))).mono ?_
  rintro e w1 ⟨rfl, hb1⟩
  obtain ⟨hc1, hf1⟩ := hb1.cells
  go_wp2
  go_ret
  refine ⟨rfl, ?_⟩
  repeat (first | with_reducible exact Ext.refl _ | with_reducible assumption | with_reducible refine Ext.alloc ?_ _ | with_reducible refine Ext.drew ?_ | with_reducible refine Ext.drewN ?_ _ | with_reducible refine Ext.setCell ?_ (by simp <;> omega) _ | with_reducible refine Ext.trans ?_ (by assumption))
def trn (C P : Int) (n : Nat) : Int := (P + n + 1) * (4 * C + n + 8)
theorem trn_wrap {C P : Int} {n : Nat} (h1 : 1 ≤ P) (h2 : P ≤ 4) (h3 : 2 ≤ C) (h4 : C ≤ 64) (h5 : n ≤ 6) : wrap64 ((P + n + 1) * (4 * C + n + 8)) = trn C P n := by
  unfold trn
  have h6 : 0 ≤ (P + n + 1) * (4 * C + n + 8) := Int.mul_nonneg (by omega) (by omega)
  have h7 : (P + n + 1) * (4 * C + n + 8) ≤ 11 * 270 := Int.mul_le_mul (by omega) (by omega) (by omega) (by omega)
  unfold wrap64
  omega
theorem rThreads (V W C P S : Int) (a : Option Addr) (n cap : Nat) (w : World) (h1 : 1 ≤ P) (h2 : P ≤ 4) (hn : n ≤ 1000000) :
    Calls Try.prog 13 #[(.agg #[.int .i64 V, .int .i64 W, .int .i64 C, .int .i64 P, .int .u64 (S), .slice a n cap])] w fun e w' => e = .returned (.int .i64 (P + n)) ∧ Ext w w' := by
  go_enter Try.func13, Try.ntmps13
  go_wp2
  go_ret
  refine ⟨rfl, ?_⟩
  repeat (first | with_reducible exact Ext.refl _ | with_reducible assumption | with_reducible refine Ext.alloc ?_ _ | with_reducible refine Ext.drew ?_ | with_reducible refine Ext.drewN ?_ _ | with_reducible refine Ext.setCell ?_ (by simp <;> omega) _ | with_reducible refine Ext.trans ?_ (by assumption))
theorem cTurns_ok (V W C P S : Int) (u : Value) (ups : List (List Int)) (w : World) (hL : ListsV w u ups) (hll : ∀ l ∈ ups, l.length ≤ 1000000) (hn : ups.length ≤ 1000000) (hg : ckC V W C P ups = 0) :
    Calls Try.prog 20 #[(.agg #[.int .i64 V, .int .i64 W, .int .i64 C, .int .i64 P, .int .u64 (S), u])] w fun e w' => e = .returned (.int .i64 (trn C P ups.length)) ∧ Ext w w' := by
  obtain ⟨a, cap, e, -⟩ := id hL
  subst e
  have CG := Lib.hid (fun w' (hx : Ext w w') => cCheck V W C P S _ ups w' (hL.ext hx) hll hn)
  have CT := Lib.hid (fun w' (hx : Ext w w') => cThreads V W C P S _ ups w' (hL.ext hx) hll hn)
  clear hL hll
  have ok := ok_iff.1 hg
  rw [hg] at CG
  rw [show thr V W C P ups = P + (ups.length : Int) by simp [thr, hg]] at CT
  have hp := ok.p4
  have hp1 := ok.p1
  have hc2 := ok.c2
  have hc64 := ok.c64
  have h6 := ok.rt.six
  clear hg ok
  generalize ups.length = n at *
  have hw := trn_wrap hp1 hp hc2 hc64 h6
  generalize trn C P n = T at *
  go_enter Try.func20, Try.ntmps20
  go_wp2_with fail
  refine (CG.out _ (by repeat (first | with_reducible exact Ext.refl _ | with_reducible assumption | with_reducible refine Ext.alloc ?_ _ | with_reducible refine Ext.drew ?_ | with_reducible refine Ext.drewN ?_ _ | with_reducible refine Ext.setCell ?_ (by simp <;> omega) _ | with_reducible refine Ext.trans ?_ (by assumption)))).mono ?_
  rintro e w1 ⟨rfl, hb1⟩
  obtain ⟨hc1, hf1⟩ := hb1.cells
  clear hc1 hf1
  have qc_0 : w1.cell? ⟨w.heap.size, 0, none⟩ = some (.int .i64 V) := (hb1.cells.1 _ _ (by simp <;> omega)).trans (by simp [go_sem])
  have qc_1 : w1.cell? ⟨w.heap.size, 1, none⟩ = some (.int .i64 W) := (hb1.cells.1 _ _ (by simp <;> omega)).trans (by simp [go_sem])
  have qc_2 : w1.cell? ⟨w.heap.size, 2, none⟩ = some (.int .i64 C) := (hb1.cells.1 _ _ (by simp <;> omega)).trans (by simp [go_sem])
  have qc_3 : w1.cell? ⟨w.heap.size, 3, none⟩ = some (.int .i64 P) := (hb1.cells.1 _ _ (by simp <;> omega)).trans (by simp [go_sem])
  have qc_4 : w1.cell? ⟨w.heap.size, 4, none⟩ = some (.int .u64 (S)) := (hb1.cells.1 _ _ (by simp <;> omega)).trans (by simp [go_sem])
  have qc_5 : w1.cell? ⟨w.heap.size, 5, none⟩ = some (.slice a n cap) := (hb1.cells.1 _ _ (by simp <;> omega)).trans (by simp [go_sem])
  have pc := World.block_lt_of_cell? _ ⟨w.heap.size, 0, none⟩ qc_0
  have rc := Nat.lt_succ_of_lt pc
  have hxx : Ext w w1 := by repeat (first | with_reducible exact Ext.refl _ | with_reducible assumption | with_reducible refine Ext.alloc ?_ _ | with_reducible refine Ext.drew ?_ | with_reducible refine Ext.drewN ?_ _ | with_reducible refine Ext.setCell ?_ (by simp <;> omega) _ | with_reducible refine Ext.trans ?_ (by assumption))
  go_upto_region 3 with (fail)
  refine wp_region_later (by kernel_rfl) (by kernel_rfl) ?_
  have lc_0 := fun (g : Later w1) => g.ok.cell qc_0
  have lc_1 := fun (g : Later w1) => g.ok.cell qc_1
  have lc_2 := fun (g : Later w1) => g.ok.cell qc_2
  have lc_3 := fun (g : Later w1) => g.ok.cell qc_3
  have lc_4 := fun (g : Later w1) => g.ok.cell qc_4
  have lc_5 := fun (g : Later w1) => g.ok.cell qc_5
  repeat (go_big_quiet_step ((fail)))
  go_big_quiet_step ((go_at_call 16; exact laterC (CT.out _ (hxx.trans (Later.ok _)))))
  repeat (go_big_quiet_step ((fail)))
  refine wpQuiet_nil ?_
  intro w2 hl2
  have hb2 := laters_ext hl2
  clear hl2 lc_0 lc_1 lc_2 lc_3 lc_4 lc_5
  have hx2 : Ext w1 w2 := by repeat (first | with_reducible exact Ext.refl _ | with_reducible assumption | with_reducible refine Ext.alloc ?_ _ | with_reducible refine Ext.drew ?_ | with_reducible refine Ext.drewN ?_ _ | with_reducible refine Ext.setCell ?_ (by simp <;> omega) _ | with_reducible refine Ext.trans ?_ (by assumption))
  replace qc_0 := hx2.cell qc_0
  replace qc_1 := hx2.cell qc_1
  replace qc_2 := hx2.cell qc_2
  replace qc_3 := hx2.cell qc_3
  replace qc_4 := hx2.cell qc_4
  replace qc_5 := hx2.cell qc_5
  replace pc := Nat.lt_of_lt_of_le pc hx2.size
  replace rc := Nat.lt_succ_of_lt pc
  clear hx2
  go_wp2
  go_ret
  refine ⟨ret_int hw, ?_⟩
  repeat (first | with_reducible exact Ext.refl _ | with_reducible assumption | with_reducible refine Ext.alloc ?_ _ | with_reducible refine Ext.drew ?_ | with_reducible refine Ext.drewN ?_ _ | with_reducible refine Ext.setCell ?_ (by simp <;> omega) _ | with_reducible refine Ext.trans ?_ (by assumption))
theorem rTurns (V W C P S : Int) (a : Option Addr) (n cap : Nat) (w : World) (hp1 : 1 ≤ P) (hp : P ≤ 4) (hc2 : 2 ≤ C) (hc64 : C ≤ 64) (h6 : n ≤ 6) :
    Calls Try.prog 21 #[(.agg #[.int .i64 V, .int .i64 W, .int .i64 C, .int .i64 P, .int .u64 (S), .slice a n cap])] w fun e w' => e = .returned (.int .i64 (trn C P n)) ∧ Ext w w' := by
  have hw := trn_wrap hp1 hp hc2 hc64 h6
  have CT := Lib.hid (fun w' => rThreads V W C P S a n cap w' hp1 hp (by omega))
  generalize trn C P n = T at *
  go_enter Try.func21, Try.ntmps21
  go_upto_region 1 with (fail)
  refine settle_wp ?_
  intro w1 hb1
  have qc_0 : w1.cell? ⟨w.heap.size, 0, none⟩ = some (.int .i64 V) := (hb1.cells.1 _ _ (by simp <;> omega)).trans (by simp [go_sem])
  have qc_1 : w1.cell? ⟨w.heap.size, 1, none⟩ = some (.int .i64 W) := (hb1.cells.1 _ _ (by simp <;> omega)).trans (by simp [go_sem])
  have qc_2 : w1.cell? ⟨w.heap.size, 2, none⟩ = some (.int .i64 C) := (hb1.cells.1 _ _ (by simp <;> omega)).trans (by simp [go_sem])
  have qc_3 : w1.cell? ⟨w.heap.size, 3, none⟩ = some (.int .i64 P) := (hb1.cells.1 _ _ (by simp <;> omega)).trans (by simp [go_sem])
  have qc_4 : w1.cell? ⟨w.heap.size, 4, none⟩ = some (.int .u64 (S)) := (hb1.cells.1 _ _ (by simp <;> omega)).trans (by simp [go_sem])
  have qc_5 : w1.cell? ⟨w.heap.size, 5, none⟩ = some (.slice a n cap) := (hb1.cells.1 _ _ (by simp <;> omega)).trans (by simp [go_sem])
  have pc := World.block_lt_of_cell? _ ⟨w.heap.size, 0, none⟩ qc_0
  have rc := Nat.lt_succ_of_lt pc
  refine wp_region_later (by kernel_rfl) (by kernel_rfl) ?_
  have lc_0 := fun (g : Later w1) => g.ok.cell qc_0
  have lc_1 := fun (g : Later w1) => g.ok.cell qc_1
  have lc_2 := fun (g : Later w1) => g.ok.cell qc_2
  have lc_3 := fun (g : Later w1) => g.ok.cell qc_3
  have lc_4 := fun (g : Later w1) => g.ok.cell qc_4
  have lc_5 := fun (g : Later w1) => g.ok.cell qc_5
  repeat (go_big_quiet_step ((fail)))
  go_big_quiet_step ((go_at_call 13; exact laterC (CT.out _)))
  repeat (go_big_quiet_step ((fail)))
  refine wpQuiet_nil ?_
  intro w2 hl2
  have hb2 := laters_ext hl2
  clear hl2 lc_0 lc_1 lc_2 lc_3 lc_4 lc_5
  have hx2 : Ext w1 w2 := by repeat (first | with_reducible exact Ext.refl _ | with_reducible assumption | with_reducible refine Ext.alloc ?_ _ | with_reducible refine Ext.drew ?_ | with_reducible refine Ext.drewN ?_ _ | with_reducible refine Ext.setCell ?_ (by simp <;> omega) _ | with_reducible refine Ext.trans ?_ (by assumption))
  replace qc_0 := hx2.cell qc_0
  replace qc_1 := hx2.cell qc_1
  replace qc_2 := hx2.cell qc_2
  replace qc_3 := hx2.cell qc_3
  replace qc_4 := hx2.cell qc_4
  replace qc_5 := hx2.cell qc_5
  replace pc := Nat.lt_of_lt_of_le pc hx2.size
  replace rc := Nat.lt_succ_of_lt pc
  clear hx2
  go_wp2
  go_ret
  refine ⟨rfl, ?_⟩
  repeat (first | with_reducible exact Ext.refl _ | with_reducible assumption | with_reducible refine Ext.alloc ?_ _ | with_reducible refine Ext.drew ?_ | with_reducible refine Ext.drewN ?_ _ | with_reducible refine Ext.setCell ?_ (by simp <;> omega) _ | with_reducible refine Ext.trans ?_ (by assumption))
theorem rStart (V W C P S : Int) (a : Option Addr) (n cap : Nat) (w : World) (hW : W = 32 ∨ W = 64) (hS0 : 0 ≤ S) :
    Calls Try.prog 19 #[(.agg #[.int .i64 V, .int .i64 W, .int .i64 C, .int .i64 P, .int .u64 (S), .slice a n cap])] w fun e w' => e = .returned (.int .u64 (cutS W S)) ∧ Ext w w' := by
  rcases hW with rfl | rfl
  · rw [show cutS 32 S = S % 4294967296 from rfl]
    go_enter Try.func19, Try.ntmps19
    go_wp2_with fail
    refine (rCut_32 _ _ hS0).mono ?_
    rintro e w' ⟨rfl, rfl⟩
    go_wp2
    go_ret
    refine ⟨rfl, ?_⟩
    repeat (first | with_reducible exact Ext.refl _ | with_reducible assumption | with_reducible refine Ext.alloc ?_ _ | with_reducible refine Ext.drew ?_ | with_reducible refine Ext.drewN ?_ _ | with_reducible refine Ext.setCell ?_ (by simp <;> omega) _ | with_reducible refine Ext.trans ?_ (by assumption))
  · rw [show cutS 64 S = S from rfl]
    go_enter Try.func19, Try.ntmps19
    go_wp2_with fail
    refine (rCut_64 _ _).mono ?_
    rintro e w' ⟨rfl, rfl⟩
    go_wp2
    go_ret
    refine ⟨rfl, ?_⟩
    repeat (first | with_reducible exact Ext.refl _ | with_reducible assumption | with_reducible refine Ext.alloc ?_ _ | with_reducible refine Ext.drew ?_ | with_reducible refine Ext.drewN ?_ _ | with_reducible refine Ext.setCell ?_ (by simp <;> omega) _ | with_reducible refine Ext.trans ?_ (by assumption))
end Go.Proofs.Ytlalkefbcddbfab

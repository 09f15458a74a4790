/- The walk of GuardPlays. -/
import Derived.Test.YtoaifbengichbabGdL
import Derived.Test.YtoaifbengichbabGd7
import Derived.Test.YtoaifbengichbabOpenG
import Derived.Test.YtoaifbengichbabRef02
import Derived.Test.YtoaifbengichbabGrow
import Derived.Test.YtoaifbengichbabFree
namespace Go.Proofs.Ytoaifbengichbab
open Go.RowKit
set_option linter.unusedVariables false
set_option linter.unusedSimpArgs false
set_option maxHeartbeats 4000000
attribute [local go_sem] later_cell later_frozen later_const
theorem but_set7 (w : World) (b : Nat) (v0 v1 v2 v3 v4 v5 v6 : Value) : But (fun k => k = b) w (((((((w.setCell ⟨b, 0, none⟩ v0).setCell ⟨b, 1, none⟩ v1).setCell ⟨b, 2, none⟩ v2).setCell ⟨b, 3, none⟩ v3).setCell ⟨b, 4, none⟩ v4).setCell ⟨b, 5, none⟩ v5).setCell ⟨b, 6, none⟩ v6) :=
  ((((((but_set _ _ _ _).trans (but_set _ _ _ _)).trans (but_set _ _ _ _)).trans (but_set _ _ _ _)).trans (but_set _ _ _ _)).trans (but_set _ _ _ _)).trans (but_set _ _ _ _)
theorem store7 {w : World} {b T : Nat} {z0 z1 z2 z3 z4 z5 z6 : Value} (v0 v1 v2 v3 v4 v5 v6 : Value) (h : w.heap[b]? = some (.cells #[z0, z1, z2, z3, z4, z5, z6] T)) :
    (w.cell? ⟨b, 0, none⟩ = some z0 ∧ w.cell? ⟨b, 1, none⟩ = some z1 ∧ w.cell? ⟨b, 2, none⟩ = some z2 ∧ w.cell? ⟨b, 3, none⟩ = some z3 ∧ w.cell? ⟨b, 4, none⟩ = some z4 ∧ w.cell? ⟨b, 5, none⟩ = some z5 ∧ w.cell? ⟨b, 6, none⟩ = some z6) ∧ (w.frozen? ⟨b, 0, none⟩ = false ∧ w.frozen? ⟨b, 1, none⟩ = false ∧ w.frozen? ⟨b, 2, none⟩ = false ∧ w.frozen? ⟨b, 3, none⟩ = false ∧ w.frozen? ⟨b, 4, none⟩ = false ∧ w.frozen? ⟨b, 5, none⟩ = false ∧ w.frozen? ⟨b, 6, none⟩ = false) ∧ (((((((w.setCell ⟨b, 0, none⟩ v0).setCell ⟨b, 1, none⟩ v1).setCell ⟨b, 2, none⟩ v2).setCell ⟨b, 3, none⟩ v3).setCell ⟨b, 4, none⟩ v4).setCell ⟨b, 5, none⟩ v5).setCell ⟨b, 6, none⟩ v6).heap[b]? = some (.cells #[v0, v1, v2, v3, v4, v5, v6] T) ∧ But (· = b) w (((((((w.setCell ⟨b, 0, none⟩ v0).setCell ⟨b, 1, none⟩ v1).setCell ⟨b, 2, none⟩ v2).setCell ⟨b, 3, none⟩ v3).setCell ⟨b, 4, none⟩ v4).setCell ⟨b, 5, none⟩ v5).setCell ⟨b, 6, none⟩ v6) := by
  refine ⟨⟨by simp [World.cell?, h], by simp [World.cell?, h], by simp [World.cell?, h], by simp [World.cell?, h], by simp [World.cell?, h], by simp [World.cell?, h], by simp [World.cell?, h]⟩, ⟨by simp [World.frozen?, h], by simp [World.frozen?, h], by simp [World.frozen?, h], by simp [World.frozen?, h], by simp [World.frozen?, h], by simp [World.frozen?, h], by simp [World.frozen?, h]⟩, ?_, but_set7 w b v0 v1 v2 v3 v4 v5 v6⟩
  simp [World.setCell, Array.getElem?_modify, h]
/-- the document's handle in block b -/
structure MB (w : World) (b : Nat) (r : RH) : Prop where
  q0 : w.cell? ⟨b, 0, none⟩ = some (.int .i64 r.C)
  q1 : w.cell? ⟨b, 1, none⟩ = some (.bool r.P)
  q2 : w.cell? ⟨b, 2, none⟩ = some (.bool r.H)
  q3 : w.cell? ⟨b, 3, none⟩ = some (.int .u64 r.F)
  q4 : w.cell? ⟨b, 4, none⟩ = some (.int .i64 r.N)
  q5 : w.cell? ⟨b, 5, none⟩ = some (.int .i64 r.G)
  q6 : w.cell? ⟨b, 6, none⟩ = some (.int .i64 r.U)
  z0 : w.frozen? ⟨b, 0, none⟩ = false
  z1 : w.frozen? ⟨b, 1, none⟩ = false
  z2 : w.frozen? ⟨b, 2, none⟩ = false
  z3 : w.frozen? ⟨b, 3, none⟩ = false
  z4 : w.frozen? ⟨b, 4, none⟩ = false
  z5 : w.frozen? ⟨b, 5, none⟩ = false
  z6 : w.frozen? ⟨b, 6, none⟩ = false
theorem MB.but {S : Nat → Prop} {w w' : World} {b : Nat} {r : RH} (H : MB w b r) (hb : But S w w') (hs : ¬ S b) : MB w' b r :=
  ⟨hb.cell H.q0 hs, hb.cell H.q1 hs, hb.cell H.q2 hs, hb.cell H.q3 hs, hb.cell H.q4 hs, hb.cell H.q5 hs, hb.cell H.q6 hs, hb.frozen H.q0 H.z0 hs, hb.frozen H.q1 H.z1 hs, hb.frozen H.q2 H.z2 hs, hb.frozen H.q3 H.z3 hs, hb.frozen H.q4 H.z4 hs, hb.frozen H.q5 H.z5 hs, hb.frozen H.q6 H.z6 hs⟩
theorem MB.ext {w w' : World} {b : Nat} {r : RH} (H : MB w b r) (hx : Ext w w') : MB w' b r := H.but (hx.but (fun _ => False)) (fun h => h)
theorem MB.lt {w : World} {b : Nat} {r : RH} (H : MB w b r) : b < w.heap.size := World.block_lt_of_cell? w _ H.q0
theorem MB.set {w : World} {b : Nat} {r : RH} (H : MB w b r) (y : RH) : MB (((((((w.setCell ⟨b, 0, none⟩ (.int .i64 y.C)).setCell ⟨b, 1, none⟩ (.bool y.P)).setCell ⟨b, 2, none⟩ (.bool y.H)).setCell ⟨b, 3, none⟩ (.int .u64 y.F)).setCell ⟨b, 4, none⟩ (.int .i64 y.N)).setCell ⟨b, 5, none⟩ (.int .i64 y.G)).setCell ⟨b, 6, none⟩ (.int .i64 y.U)) b y := by
  have lt := H.lt
  obtain ⟨q0, q1, q2, q3, q4, q5, q6, z0, z1, z2, z3, z4, z5, z6⟩ := H
  constructor <;> simp [go_sem, q0, q1, q2, q3, q4, q5, q6, z0, z1, z2, z3, z4, z5, z6]
set_option maxRecDepth 100000 in
theorem plays_true_none (C s : Int) (hd : Bool) (f0 n0 g0 t0 : Int) (a : Option Addr) (len cap : Nat) (ds : List GDo) (w : World) (s0 : 0 ≤ s) (s1 : s < 18446744073709551616) (hD : IsGDos w a len cap ds) (hr : rightB C = false) :
    Calls Try.prog 3 #[.agg #[.int .i64 C, .bool true, .bool hd, .int .u64 f0, .int .i64 n0, .int .i64 g0, .int .i64 t0], .int .u64 s, .slice a len cap] w fun e w' => e = .returned (.bool true) ∧ Below w.heap.size w w' := by
  obtain ⟨hdl, hdc, hdm, hdo, hdr⟩ := hD
  have hd63 : len ≤ 9223372036854775807 := by unfold maxLen at hdm; omega
  have CR := Lib.hid (fun w => r2Right C w)
  rw [hr] at CR
  have CV := Lib.hid (fun w => live14 w)
  clear hdr hdo hdl
  go_enter Try.func3, Try.ntmps3
  go_upto_region 2 with (fail)
  refine settle_wp ?_
  intro wA hbA
  have EA : Ext w wA := Ext.trans (by repeat (first | with_reducible exact Ext.refl _ | with_reducible assumption | with_reducible refine Ext.alloc ?_ _ | with_reducible refine Ext.drew ?_ | with_reducible refine Ext.drewN ?_ _ | with_reducible refine Ext.setCell ?_ (by simp <;> omega) _ | with_reducible refine Ext.trans ?_ (by assumption))) hbA
  have M0 : MB wA (w.heap.size + 1) ⟨C, true, false, 0, 0, 0, 0⟩ := MB.ext (by constructor <;> simp [go_sem]) hbA
  have sA : w.heap.size + 1 < wA.heap.size := M0.lt
  have qm_0 := M0.q0
  have qm_1 := M0.q1
  have HM0 := Lib.hid M0
  clear hbA M0
  refine wp_region_held_drew (S := fun w' => Ext wA w') (by kernel_rfl) ?hbeg (fun hHeld => ?_)
  case hbeg => exact (Ext.refl wA).drew
  have lm_0 := fun w' (hx : Ext wA w') => hx.cell qm_0
  refine take_at (i := 0) (v := ?_) rfl rfl (by kernel_rfl) (by kernel_rfl) (by kernel_rfl) (fun _ _ _ h => h) (Or.inl ⟨by rfl, ?hy⟩) (by assumption) ?_
  case hy => (intro wz hSw; (try dsimp only at hSw); go_simp <;> with_reducible rfl)
  simp only [List.setIfInBounds_toArray, List.set_cons_zero, List.set_cons_succ]
  refine take_at (i := 1) (v := ?_) rfl rfl (by kernel_rfl) (by kernel_rfl) (by kernel_rfl) (fun _ _ _ h => h) (Or.inl ⟨by rfl, ?hy⟩) (by assumption) ?_
  case hy => (intro wz hSw; (try dsimp only at hSw); go_simp <;> with_reducible rfl)
  simp only [List.setIfInBounds_toArray, List.set_cons_zero, List.set_cons_succ]
  refine take_at (i := 2) (v := ?_) rfl rfl (by kernel_rfl) (by kernel_rfl) (by kernel_rfl) (fun _ _ _ h => h) (Or.inl ⟨by rfl, ?hy⟩) (by assumption) ?_
  case hy => (intro wz hSw; (try dsimp only at hSw); go_simp <;> with_reducible rfl)
  simp only [List.setIfInBounds_toArray, List.set_cons_zero, List.set_cons_succ]
  refine take_at (i := 5) (v := ?_) rfl rfl (by kernel_rfl) (by kernel_rfl) (by kernel_rfl) (fun _ _ _ h => h) (Or.inl ⟨by rfl, ?hy⟩) (by assumption) ?_
  case hy => (intro wz hSw; (try dsimp only at hSw); go_simp <;> with_reducible rfl)
  simp only [List.setIfInBounds_toArray, List.set_cons_zero, List.set_cons_succ]
  refine take_at (i := 6) (v := ?_) rfl rfl (by kernel_rfl) (by kernel_rfl) (by kernel_rfl) (fun _ _ _ h => h) (Or.inl ⟨by rfl, ?hy⟩) (by assumption) ?_
  case hy => (intro wz hSw; (try dsimp only at hSw); go_simp <;> with_reducible rfl)
  simp only [List.setIfInBounds_toArray, List.set_cons_zero, List.set_cons_succ]
  refine take_at (i := 7) (v := ?_) rfl rfl (by kernel_rfl) (by kernel_rfl) (by kernel_rfl) (fun _ _ _ h => h) (Or.inl ⟨by rfl, ?hy⟩) (by assumption) ?_
  case hy => (intro wz hSw; (try dsimp only at hSw); go_simp <;> with_reducible rfl)
  simp only [List.setIfInBounds_toArray, List.set_cons_zero, List.set_cons_succ]
  refine call_at (i := 3) (F := 7) (ofU32 s _) rfl rfl (by kernel_rfl) (by rfl) (by first | rfl | (go_simp <;> rfl)) ?_
  rintro e w' ⟨rfl, rfl⟩
  refine ⟨_, rfl, hHeld, ?_⟩
  simp only [List.setIfInBounds_toArray, List.set_cons_zero, List.set_cons_succ]
  refine call_at (i := 4) (F := 6) (consumer32_no C _ _ hr) rfl rfl (by kernel_rfl) (by rfl) (by first | rfl | (go_simp <;> rfl)) ?_
  rintro e w' ⟨rfl, rfl⟩
  refine ⟨_, rfl, hHeld, ?_⟩
  simp only [List.setIfInBounds_toArray, List.set_cons_zero, List.set_cons_succ]
  refine call_at (i := 8) (F := 8) (consumer64_no C _ _ hr) rfl rfl (by kernel_rfl) (by rfl) (by first | rfl | (go_simp <;> rfl)) ?_
  rintro e w' ⟨rfl, rfl⟩
  refine ⟨_, rfl, hHeld, ?_⟩
  simp only [List.setIfInBounds_toArray, List.set_cons_zero, List.set_cons_succ]
  refine take_at (i := 9) (v := ?_) rfl rfl (by kernel_rfl) (by kernel_rfl) (by kernel_rfl) (fun _ _ _ h => h) (Or.inl ⟨by rfl, ?hy⟩) (by assumption) ?_
  case hy => (intro wz hSw; (try dsimp only at hSw); go_simp <;> with_reducible rfl)
  simp only [List.setIfInBounds_toArray, List.set_cons_zero, List.set_cons_succ]
  refine take_at (i := 10) (v := ?_) rfl rfl (by kernel_rfl) (by kernel_rfl) (by kernel_rfl) (fun _ _ _ h => h) (Or.inl ⟨by rfl, ?hy⟩) (by assumption) ?_
  case hy => (intro wz hSw; (try dsimp only at hSw); go_simp <;> with_reducible rfl)
  simp only [List.setIfInBounds_toArray, List.set_cons_zero, List.set_cons_succ]
  refine wpAnyH_done (by kernel_rfl) ?_ _
  replace qm_0 := hHeld.cell qm_0
  replace qm_1 := hHeld.cell qm_1
  clear lm_0
  go_upto_region 4 with (fail)
  refine settle_wp ?_
  intro wB hbB
  replace qm_0 := hbB.cell qm_0
  replace hHeld := hHeld.trans hbB
  have HAB := Lib.hid hHeld
  clear hHeld hbB qm_1
  refine wp_region_held_drew (S := fun w' => Ext wB w') (by kernel_rfl) ?hbeg2 (fun hHeld => ?_)
  case hbeg2 => exact (Ext.refl wB).drew
  have lm_0 := fun w' (hx : Ext wB w') => hx.cell qm_0
  refine take_at (i := 0) (v := ?_) rfl rfl (by kernel_rfl) (by kernel_rfl) (by kernel_rfl) (fun _ _ _ h => h) (Or.inl ⟨by rfl, ?hy⟩) (by assumption) ?_
  case hy => (intro wz hSw; (try dsimp only at hSw); go_simp <;> with_reducible rfl)
  simp only [List.setIfInBounds_toArray, List.set_cons_zero, List.set_cons_succ]
  refine take_at (i := 1) (v := ?_) rfl rfl (by kernel_rfl) (by kernel_rfl) (by kernel_rfl) (fun _ _ _ h => h) (Or.inl ⟨by rfl, ?hy⟩) (by assumption) ?_
  case hy => (intro wz hSw; (try dsimp only at hSw); go_simp <;> with_reducible rfl)
  simp only [List.setIfInBounds_toArray, List.set_cons_zero, List.set_cons_succ]
  refine take_at (i := 3) (v := ?_) rfl rfl (by kernel_rfl) (by kernel_rfl) (by kernel_rfl) (fun _ _ _ h => h) (Or.inl ⟨by rfl, ?hy⟩) (by assumption) ?_
  case hy => (intro wz hSw; (try dsimp only at hSw); go_simp <;> with_reducible rfl)
  simp only [List.setIfInBounds_toArray, List.set_cons_zero, List.set_cons_succ]
  refine take_at (i := 4) (v := ?_) rfl rfl (by kernel_rfl) (by kernel_rfl) (by kernel_rfl) (fun _ _ _ h => h) (Or.inl ⟨by rfl, ?hy⟩) (by assumption) ?_
  case hy => (intro wz hSw; (try dsimp only at hSw); go_simp <;> with_reducible rfl)
  simp only [List.setIfInBounds_toArray, List.set_cons_zero, List.set_cons_succ]
  refine call_at (i := 2) (F := 9) (producer32_no C _ hr) rfl rfl (by kernel_rfl) (by rfl) (by first | rfl | (go_simp <;> rfl)) ?_
  rintro e w' ⟨rfl, rfl⟩
  refine ⟨_, rfl, hHeld, ?_⟩
  simp only [List.setIfInBounds_toArray, List.set_cons_zero, List.set_cons_succ]
  refine call_at (i := 5) (F := 10) (producer64_no C _ hr) rfl rfl (by kernel_rfl) (by rfl) (by first | rfl | (go_simp <;> rfl)) ?_
  rintro e w' ⟨rfl, rfl⟩
  refine ⟨_, rfl, hHeld, ?_⟩
  simp only [List.setIfInBounds_toArray, List.set_cons_zero, List.set_cons_succ]
  refine take_at (i := 6) (v := ?_) rfl rfl (by kernel_rfl) (by kernel_rfl) (by kernel_rfl) (fun _ _ _ h => h) (Or.inl ⟨by rfl, ?hy⟩) (by assumption) ?_
  case hy => (intro wz hSw; (try dsimp only at hSw); go_simp <;> with_reducible rfl)
  simp only [List.setIfInBounds_toArray, List.set_cons_zero, List.set_cons_succ]
  refine take_at (i := 7) (v := ?_) rfl rfl (by kernel_rfl) (by kernel_rfl) (by kernel_rfl) (fun _ _ _ h => h) (Or.inl ⟨by rfl, ?hy⟩) (by assumption) ?_
  case hy => (intro wz hSw; (try dsimp only at hSw); go_simp <;> with_reducible rfl)
  simp only [List.setIfInBounds_toArray, List.set_cons_zero, List.set_cons_succ]
  refine wpAnyH_done (by kernel_rfl) ?_ _
  replace qm_0 := hHeld.cell qm_0
  replace hHeld := HAB.out.trans hHeld
  clear lm_0 HAB
  go_wp2_with fail
  refine (CR.out _).mono ?_
  rintro e w' ⟨rfl, rfl⟩
  go_wp2_with fail
  refine (CV.out _).mono ?_
  rintro e w9 ⟨rfl, X9⟩
  go_wp2
  go_ret
  exact ⟨rfl, (EA.trans (hHeld.trans X9)).below⟩
set_option maxRecDepth 100000 in
theorem plays_true_long (C s : Int) (hd : Bool) (f0 n0 g0 t0 : Int) (a : Option Addr) (len cap : Nat) (ds : List GDo) (w : World) (s0 : 0 ≤ s) (s1 : s < 18446744073709551616) (hD : IsGDos w a len cap ds) (hr : rightB C = true) (h100 : 100 < len) :
    Calls Try.prog 3 #[.agg #[.int .i64 C, .bool true, .bool hd, .int .u64 f0, .int .i64 n0, .int .i64 g0, .int .i64 t0], .int .u64 s, .slice a len cap] w fun e w' => e = .returned (.bool true) ∧ Below w.heap.size w w' := by
  obtain ⟨hdl, hdc, hdm, hdo, hdr⟩ := hD
  have hd63 : len ≤ 9223372036854775807 := by unfold maxLen at hdm; omega
  have CR := Lib.hid (fun w => r2Right C w)
  rw [hr] at CR
  have CV := Lib.hid (fun w => live14 w)
  clear hdr hdo hdl
  have d100 : decide ((100 : Int) < (len : Int)) = true := by simp; omega
  go_enter Try.func3, Try.ntmps3
  go_upto_region 2 with (fail)
  refine settle_wp ?_
  intro wA hbA
  have EA : Ext w wA := Ext.trans (by repeat (first | with_reducible exact Ext.refl _ | with_reducible assumption | with_reducible refine Ext.alloc ?_ _ | with_reducible refine Ext.drew ?_ | with_reducible refine Ext.drewN ?_ _ | with_reducible refine Ext.setCell ?_ (by simp <;> omega) _ | with_reducible refine Ext.trans ?_ (by assumption))) hbA
  have M0 : MB wA (w.heap.size + 1) ⟨C, true, false, 0, 0, 0, 0⟩ := MB.ext (by constructor <;> simp [go_sem]) hbA
  have sA : w.heap.size + 1 < wA.heap.size := M0.lt
  have qm_0 := M0.q0
  have qm_1 := M0.q1
  have HM0 := Lib.hid M0
  clear hbA M0
  refine wp_region_held_drew (S := fun w' => Ext wA w') (by kernel_rfl) ?hbeg (fun hHeld => ?_)
  case hbeg => exact (Ext.refl wA).drew
  have lm_0 := fun w' (hx : Ext wA w') => hx.cell qm_0
  refine take_at (i := 0) (v := ?_) rfl rfl (by kernel_rfl) (by kernel_rfl) (by kernel_rfl) (fun _ _ _ h => h) (Or.inl ⟨by rfl, ?hy⟩) (by assumption) ?_
  case hy => (intro wz hSw; (try dsimp only at hSw); go_simp <;> with_reducible rfl)
  simp only [List.setIfInBounds_toArray, List.set_cons_zero, List.set_cons_succ]
  refine take_at (i := 1) (v := ?_) rfl rfl (by kernel_rfl) (by kernel_rfl) (by kernel_rfl) (fun _ _ _ h => h) (Or.inl ⟨by rfl, ?hy⟩) (by assumption) ?_
  case hy => (intro wz hSw; (try dsimp only at hSw); go_simp <;> with_reducible rfl)
  simp only [List.setIfInBounds_toArray, List.set_cons_zero, List.set_cons_succ]
  refine take_at (i := 2) (v := ?_) rfl rfl (by kernel_rfl) (by kernel_rfl) (by kernel_rfl) (fun _ _ _ h => h) (Or.inl ⟨by rfl, ?hy⟩) (by assumption) ?_
  case hy => (intro wz hSw; (try dsimp only at hSw); go_simp <;> with_reducible rfl)
  simp only [List.setIfInBounds_toArray, List.set_cons_zero, List.set_cons_succ]
  refine take_at (i := 5) (v := ?_) rfl rfl (by kernel_rfl) (by kernel_rfl) (by kernel_rfl) (fun _ _ _ h => h) (Or.inl ⟨by rfl, ?hy⟩) (by assumption) ?_
  case hy => (intro wz hSw; (try dsimp only at hSw); go_simp <;> with_reducible rfl)
  simp only [List.setIfInBounds_toArray, List.set_cons_zero, List.set_cons_succ]
  refine take_at (i := 6) (v := ?_) rfl rfl (by kernel_rfl) (by kernel_rfl) (by kernel_rfl) (fun _ _ _ h => h) (Or.inl ⟨by rfl, ?hy⟩) (by assumption) ?_
  case hy => (intro wz hSw; (try dsimp only at hSw); go_simp <;> with_reducible rfl)
  simp only [List.setIfInBounds_toArray, List.set_cons_zero, List.set_cons_succ]
  refine take_at (i := 7) (v := ?_) rfl rfl (by kernel_rfl) (by kernel_rfl) (by kernel_rfl) (fun _ _ _ h => h) (Or.inl ⟨by rfl, ?hy⟩) (by assumption) ?_
  case hy => (intro wz hSw; (try dsimp only at hSw); go_simp <;> with_reducible rfl)
  simp only [List.setIfInBounds_toArray, List.set_cons_zero, List.set_cons_succ]
  refine call_at (i := 3) (F := 7) (ofU32 s _) rfl rfl (by kernel_rfl) (by rfl) (by first | rfl | (go_simp <;> rfl)) ?_
  rintro e w' ⟨rfl, rfl⟩
  refine ⟨_, rfl, hHeld, ?_⟩
  simp only [List.setIfInBounds_toArray, List.set_cons_zero, List.set_cons_succ]
  refine call_at (i := 4) (F := 6) (consumer32_yes C _ _ hr) rfl rfl (by kernel_rfl) (by rfl) (by first | rfl | (go_simp <;> rfl)) ?_
  rintro e u3 ⟨bx, rfl, H3, hb3, X3⟩
  replace hb3 := Nat.le_trans hHeld.size hb3
  replace hHeld := hHeld.trans X3
  refine ⟨_, rfl, hHeld, ?_⟩
  simp only [List.setIfInBounds_toArray, List.set_cons_zero, List.set_cons_succ]
  refine call_at (i := 8) (F := 8) (consumer64_yes C _ _ hr) rfl rfl (by kernel_rfl) (by rfl) (by first | rfl | (go_simp <;> rfl)) ?_
  rintro e u4 ⟨b2, rfl, H4, hb4, X4⟩
  have n34 : bx < b2 := Nat.lt_of_lt_of_le H3.lt hb4
  replace H3 := H3.ext X4
  replace hHeld := hHeld.trans X4
  refine ⟨_, rfl, hHeld, ?_⟩
  simp only [List.setIfInBounds_toArray, List.set_cons_zero, List.set_cons_succ]
  refine take_at (i := 9) (v := ?_) rfl rfl (by kernel_rfl) (by kernel_rfl) (by kernel_rfl) (fun _ _ _ h => h) (Or.inl ⟨by rfl, ?hy⟩) (by assumption) ?_
  case hy => (intro wz hSw; (try dsimp only at hSw); go_simp <;> with_reducible rfl)
  simp only [List.setIfInBounds_toArray, List.set_cons_zero, List.set_cons_succ]
  refine take_at (i := 10) (v := ?_) rfl rfl (by kernel_rfl) (by kernel_rfl) (by kernel_rfl) (fun _ _ _ h => h) (Or.inl ⟨by rfl, ?hy⟩) (by assumption) ?_
  case hy => (intro wz hSw; (try dsimp only at hSw); go_simp <;> with_reducible rfl)
  simp only [List.setIfInBounds_toArray, List.set_cons_zero, List.set_cons_succ]
  have K3 := Lib.hid H3
  have K4 := Lib.hid H4
  clear H3 H4 X3 X4
  refine wpAnyH_done (by kernel_rfl) ?_ _
  replace qm_0 := hHeld.cell qm_0
  replace qm_1 := hHeld.cell qm_1
  clear lm_0
  go_upto_region 4 with (fail)
  refine settle_wp ?_
  intro wB hbB
  replace qm_0 := hbB.cell qm_0
  replace hHeld := hHeld.trans hbB
  have HAB := Lib.hid hHeld
  clear hHeld hbB qm_1
  refine wp_region_held_drew (S := fun w' => Ext wB w') (by kernel_rfl) ?hbeg2 (fun hHeld => ?_)
  case hbeg2 => exact (Ext.refl wB).drew
  have lm_0 := fun w' (hx : Ext wB w') => hx.cell qm_0
  refine take_at (i := 0) (v := ?_) rfl rfl (by kernel_rfl) (by kernel_rfl) (by kernel_rfl) (fun _ _ _ h => h) (Or.inl ⟨by rfl, ?hy⟩) (by assumption) ?_
  case hy => (intro wz hSw; (try dsimp only at hSw); go_simp <;> with_reducible rfl)
  simp only [List.setIfInBounds_toArray, List.set_cons_zero, List.set_cons_succ]
  refine take_at (i := 1) (v := ?_) rfl rfl (by kernel_rfl) (by kernel_rfl) (by kernel_rfl) (fun _ _ _ h => h) (Or.inl ⟨by rfl, ?hy⟩) (by assumption) ?_
  case hy => (intro wz hSw; (try dsimp only at hSw); go_simp <;> with_reducible rfl)
  simp only [List.setIfInBounds_toArray, List.set_cons_zero, List.set_cons_succ]
  refine take_at (i := 3) (v := ?_) rfl rfl (by kernel_rfl) (by kernel_rfl) (by kernel_rfl) (fun _ _ _ h => h) (Or.inl ⟨by rfl, ?hy⟩) (by assumption) ?_
  case hy => (intro wz hSw; (try dsimp only at hSw); go_simp <;> with_reducible rfl)
  simp only [List.setIfInBounds_toArray, List.set_cons_zero, List.set_cons_succ]
  refine take_at (i := 4) (v := ?_) rfl rfl (by kernel_rfl) (by kernel_rfl) (by kernel_rfl) (fun _ _ _ h => h) (Or.inl ⟨by rfl, ?hy⟩) (by assumption) ?_
  case hy => (intro wz hSw; (try dsimp only at hSw); go_simp <;> with_reducible rfl)
  simp only [List.setIfInBounds_toArray, List.set_cons_zero, List.set_cons_succ]
  refine call_at (i := 2) (F := 9) (producer32_yes C _ hr) rfl rfl (by kernel_rfl) (by rfl) (by first | rfl | (go_simp <;> rfl)) ?_
  rintro e u5 ⟨cx, rfl, H5, hb5, X5⟩
  replace hb5 := Nat.le_trans (Nat.le_trans HAB.out.size hHeld.size) hb5
  replace hHeld := hHeld.trans X5
  refine ⟨_, rfl, hHeld, ?_⟩
  simp only [List.setIfInBounds_toArray, List.set_cons_zero, List.set_cons_succ]
  refine call_at (i := 5) (F := 10) (producer64_yes C _ hr) rfl rfl (by kernel_rfl) (by rfl) (by first | rfl | (go_simp <;> rfl)) ?_
  rintro e u6 ⟨c2, rfl, H6, hb6, X6⟩
  have n56 : cx < c2 := Nat.lt_of_lt_of_le H5.lt hb6
  replace H5 := H5.ext X6
  replace hHeld := hHeld.trans X6
  refine ⟨_, rfl, hHeld, ?_⟩
  simp only [List.setIfInBounds_toArray, List.set_cons_zero, List.set_cons_succ]
  refine take_at (i := 6) (v := ?_) rfl rfl (by kernel_rfl) (by kernel_rfl) (by kernel_rfl) (fun _ _ _ h => h) (Or.inl ⟨by rfl, ?hy⟩) (by assumption) ?_
  case hy => (intro wz hSw; (try dsimp only at hSw); go_simp <;> with_reducible rfl)
  simp only [List.setIfInBounds_toArray, List.set_cons_zero, List.set_cons_succ]
  refine take_at (i := 7) (v := ?_) rfl rfl (by kernel_rfl) (by kernel_rfl) (by kernel_rfl) (fun _ _ _ h => h) (Or.inl ⟨by rfl, ?hy⟩) (by assumption) ?_
  case hy => (intro wz hSw; (try dsimp only at hSw); go_simp <;> with_reducible rfl)
  simp only [List.setIfInBounds_toArray, List.set_cons_zero, List.set_cons_succ]
  have K5 := Lib.hid H5
  have K6 := Lib.hid H6
  clear H5 H6 X5 X6 K3 K4
  refine wpAnyH_done (by kernel_rfl) ?_ _
  replace qm_0 := hHeld.cell qm_0
  replace hHeld := HAB.out.trans hHeld
  clear lm_0 HAB
  go_wp2_with fail
  refine (CR.out _).mono ?_
  rintro e w' ⟨rfl, rfl⟩
  go_wp2_with fail
  refine (CV.out _).mono ?_
  rintro e w9 ⟨rfl, X9⟩
  go_wp2
  go_ret
  exact ⟨rfl, (EA.trans (hHeld.trans X9)).below⟩
set_option maxRecDepth 100000 in
theorem plays_true (C s : Int) (hd : Bool) (f0 n0 g0 t0 : Int) (a : Option Addr) (len cap : Nat) (ds : List GDo) (w : World) (s0 : 0 ≤ s) (s1 : s < 18446744073709551616) (hD : IsGDos w a len cap ds) (hr : rightB C = true) (h100 : ¬ 100 < len) :
    Calls Try.prog 3 #[.agg #[.int .i64 C, .bool true, .bool hd, .int .u64 f0, .int .i64 n0, .int .i64 g0, .int .i64 t0], .int .u64 s, .slice a len cap] w fun e w' => e = .returned (.bool true) ∧ Below w.heap.size w w' := by
  obtain ⟨hdl, hdc, hdm, hdo, hdr⟩ := hD
  have hd63 : len ≤ 9223372036854775807 := by unfold maxLen at hdm; omega
  have CR := Lib.hid (fun w => r2Right C w)
  rw [hr] at CR
  have CV := Lib.hid (fun w => live14 w)
  have HDO := Lib.hid hdo
  have HDR := Lib.hid hdr
  have HDL := Lib.hid hdl
  have R0 : Rel s ⟨C, false, 0, 0, 0, 0⟩ ⟨C, false, 0, 0, 0, 0⟩ ⟨C, true, false, 0, 0, 0, 0⟩ 0 := Rel.start s C true hr s0 s1
  have HR0 := Lib.hid R0
  clear hdr hdo hdl R0
  have d100 : decide ((100 : Int) < (len : Int)) = false := by simp; omega
  go_enter Try.func3, Try.ntmps3
  go_upto_region 2 with (fail)
  refine settle_wp ?_
  intro wA hbA
  have EA : Ext w wA := Ext.trans (by repeat (first | with_reducible exact Ext.refl _ | with_reducible assumption | with_reducible refine Ext.alloc ?_ _ | with_reducible refine Ext.drew ?_ | with_reducible refine Ext.drewN ?_ _ | with_reducible refine Ext.setCell ?_ (by simp <;> omega) _ | with_reducible refine Ext.trans ?_ (by assumption))) hbA
  have M0 : MB wA (w.heap.size + 1) ⟨C, true, false, 0, 0, 0, 0⟩ := MB.ext (by constructor <;> simp [go_sem]) hbA
  have sA : w.heap.size + 1 < wA.heap.size := M0.lt
  have qm_0 := M0.q0
  have qm_1 := M0.q1
  have HM0 := Lib.hid M0
  clear hbA M0
  refine wp_region_held_drew (S := fun w' => Ext wA w') (by kernel_rfl) ?hbeg (fun hHeld => ?_)
  case hbeg => exact (Ext.refl wA).drew
  have lm_0 := fun w' (hx : Ext wA w') => hx.cell qm_0
  refine take_at (i := 0) (v := ?_) rfl rfl (by kernel_rfl) (by kernel_rfl) (by kernel_rfl) (fun _ _ _ h => h) (Or.inl ⟨by rfl, ?hy⟩) (by assumption) ?_
  case hy => (intro wz hSw; (try dsimp only at hSw); go_simp <;> with_reducible rfl)
  simp only [List.setIfInBounds_toArray, List.set_cons_zero, List.set_cons_succ]
  refine take_at (i := 1) (v := ?_) rfl rfl (by kernel_rfl) (by kernel_rfl) (by kernel_rfl) (fun _ _ _ h => h) (Or.inl ⟨by rfl, ?hy⟩) (by assumption) ?_
  case hy => (intro wz hSw; (try dsimp only at hSw); go_simp <;> with_reducible rfl)
  simp only [List.setIfInBounds_toArray, List.set_cons_zero, List.set_cons_succ]
  refine take_at (i := 2) (v := ?_) rfl rfl (by kernel_rfl) (by kernel_rfl) (by kernel_rfl) (fun _ _ _ h => h) (Or.inl ⟨by rfl, ?hy⟩) (by assumption) ?_
  case hy => (intro wz hSw; (try dsimp only at hSw); go_simp <;> with_reducible rfl)
  simp only [List.setIfInBounds_toArray, List.set_cons_zero, List.set_cons_succ]
  refine take_at (i := 5) (v := ?_) rfl rfl (by kernel_rfl) (by kernel_rfl) (by kernel_rfl) (fun _ _ _ h => h) (Or.inl ⟨by rfl, ?hy⟩) (by assumption) ?_
  case hy => (intro wz hSw; (try dsimp only at hSw); go_simp <;> with_reducible rfl)
  simp only [List.setIfInBounds_toArray, List.set_cons_zero, List.set_cons_succ]
  refine take_at (i := 6) (v := ?_) rfl rfl (by kernel_rfl) (by kernel_rfl) (by kernel_rfl) (fun _ _ _ h => h) (Or.inl ⟨by rfl, ?hy⟩) (by assumption) ?_
  case hy => (intro wz hSw; (try dsimp only at hSw); go_simp <;> with_reducible rfl)
  simp only [List.setIfInBounds_toArray, List.set_cons_zero, List.set_cons_succ]
  refine take_at (i := 7) (v := ?_) rfl rfl (by kernel_rfl) (by kernel_rfl) (by kernel_rfl) (fun _ _ _ h => h) (Or.inl ⟨by rfl, ?hy⟩) (by assumption) ?_
  case hy => (intro wz hSw; (try dsimp only at hSw); go_simp <;> with_reducible rfl)
  simp only [List.setIfInBounds_toArray, List.set_cons_zero, List.set_cons_succ]
  refine call_at (i := 3) (F := 7) (ofU32 s _) rfl rfl (by kernel_rfl) (by rfl) (by first | rfl | (go_simp <;> rfl)) ?_
  rintro e w' ⟨rfl, rfl⟩
  refine ⟨_, rfl, hHeld, ?_⟩
  simp only [List.setIfInBounds_toArray, List.set_cons_zero, List.set_cons_succ]
  refine call_at (i := 4) (F := 6) (consumer32_yes C _ _ hr) rfl rfl (by kernel_rfl) (by rfl) (by first | rfl | (go_simp <;> rfl)) ?_
  rintro e u3 ⟨bx, rfl, H3, hb3, X3⟩
  replace hb3 := Nat.le_trans hHeld.size hb3
  replace hHeld := hHeld.trans X3
  refine ⟨_, rfl, hHeld, ?_⟩
  simp only [List.setIfInBounds_toArray, List.set_cons_zero, List.set_cons_succ]
  refine call_at (i := 8) (F := 8) (consumer64_yes C _ _ hr) rfl rfl (by kernel_rfl) (by rfl) (by first | rfl | (go_simp <;> rfl)) ?_
  rintro e u4 ⟨b2, rfl, H4, hb4, X4⟩
  have n34 : bx < b2 := Nat.lt_of_lt_of_le H3.lt hb4
  replace H3 := H3.ext X4
  replace hHeld := hHeld.trans X4
  refine ⟨_, rfl, hHeld, ?_⟩
  simp only [List.setIfInBounds_toArray, List.set_cons_zero, List.set_cons_succ]
  refine take_at (i := 9) (v := ?_) rfl rfl (by kernel_rfl) (by kernel_rfl) (by kernel_rfl) (fun _ _ _ h => h) (Or.inl ⟨by rfl, ?hy⟩) (by assumption) ?_
  case hy => (intro wz hSw; (try dsimp only at hSw); go_simp <;> with_reducible rfl)
  simp only [List.setIfInBounds_toArray, List.set_cons_zero, List.set_cons_succ]
  refine take_at (i := 10) (v := ?_) rfl rfl (by kernel_rfl) (by kernel_rfl) (by kernel_rfl) (fun _ _ _ h => h) (Or.inl ⟨by rfl, ?hy⟩) (by assumption) ?_
  case hy => (intro wz hSw; (try dsimp only at hSw); go_simp <;> with_reducible rfl)
  simp only [List.setIfInBounds_toArray, List.set_cons_zero, List.set_cons_succ]
  have K3 := Lib.hid H3
  have K4 := Lib.hid H4
  clear H3 H4 X3 X4
  refine wpAnyH_done (by kernel_rfl) ?_ _
  replace qm_0 := hHeld.cell qm_0
  replace qm_1 := hHeld.cell qm_1
  clear lm_0
  go_upto_region 4 with (fail)
  refine settle_wp ?_
  intro wB hbB
  replace qm_0 := hbB.cell qm_0
  replace hHeld := hHeld.trans hbB
  have HAB := Lib.hid hHeld
  clear hHeld hbB qm_1
  refine wp_region_held_drew (S := fun w' => Ext wB w') (by kernel_rfl) ?hbeg2 (fun hHeld => ?_)
  case hbeg2 => exact (Ext.refl wB).drew
  have lm_0 := fun w' (hx : Ext wB w') => hx.cell qm_0
  refine take_at (i := 0) (v := ?_) rfl rfl (by kernel_rfl) (by kernel_rfl) (by kernel_rfl) (fun _ _ _ h => h) (Or.inl ⟨by rfl, ?hy⟩) (by assumption) ?_
  case hy => (intro wz hSw; (try dsimp only at hSw); go_simp <;> with_reducible rfl)
  simp only [List.setIfInBounds_toArray, List.set_cons_zero, List.set_cons_succ]
  refine take_at (i := 1) (v := ?_) rfl rfl (by kernel_rfl) (by kernel_rfl) (by kernel_rfl) (fun _ _ _ h => h) (Or.inl ⟨by rfl, ?hy⟩) (by assumption) ?_
  case hy => (intro wz hSw; (try dsimp only at hSw); go_simp <;> with_reducible rfl)
  simp only [List.setIfInBounds_toArray, List.set_cons_zero, List.set_cons_succ]
  refine take_at (i := 3) (v := ?_) rfl rfl (by kernel_rfl) (by kernel_rfl) (by kernel_rfl) (fun _ _ _ h => h) (Or.inl ⟨by rfl, ?hy⟩) (by assumption) ?_
  case hy => (intro wz hSw; (try dsimp only at hSw); go_simp <;> with_reducible rfl)
  simp only [List.setIfInBounds_toArray, List.set_cons_zero, List.set_cons_succ]
  refine take_at (i := 4) (v := ?_) rfl rfl (by kernel_rfl) (by kernel_rfl) (by kernel_rfl) (fun _ _ _ h => h) (Or.inl ⟨by rfl, ?hy⟩) (by assumption) ?_
  case hy => (intro wz hSw; (try dsimp only at hSw); go_simp <;> with_reducible rfl)
  simp only [List.setIfInBounds_toArray, List.set_cons_zero, List.set_cons_succ]
  refine call_at (i := 2) (F := 9) (producer32_yes C _ hr) rfl rfl (by kernel_rfl) (by rfl) (by first | rfl | (go_simp <;> rfl)) ?_
  rintro e u5 ⟨cx, rfl, H5, hb5, X5⟩
  replace hb5 := Nat.le_trans (Nat.le_trans HAB.out.size hHeld.size) hb5
  replace hHeld := hHeld.trans X5
  refine ⟨_, rfl, hHeld, ?_⟩
  simp only [List.setIfInBounds_toArray, List.set_cons_zero, List.set_cons_succ]
  refine call_at (i := 5) (F := 10) (producer64_yes C _ hr) rfl rfl (by kernel_rfl) (by rfl) (by first | rfl | (go_simp <;> rfl)) ?_
  rintro e u6 ⟨c2, rfl, H6, hb6, X6⟩
  have n56 : cx < c2 := Nat.lt_of_lt_of_le H5.lt hb6
  replace H5 := H5.ext X6
  replace hHeld := hHeld.trans X6
  refine ⟨_, rfl, hHeld, ?_⟩
  simp only [List.setIfInBounds_toArray, List.set_cons_zero, List.set_cons_succ]
  refine take_at (i := 6) (v := ?_) rfl rfl (by kernel_rfl) (by kernel_rfl) (by kernel_rfl) (fun _ _ _ h => h) (Or.inl ⟨by rfl, ?hy⟩) (by assumption) ?_
  case hy => (intro wz hSw; (try dsimp only at hSw); go_simp <;> with_reducible rfl)
  simp only [List.setIfInBounds_toArray, List.set_cons_zero, List.set_cons_succ]
  refine take_at (i := 7) (v := ?_) rfl rfl (by kernel_rfl) (by kernel_rfl) (by kernel_rfl) (fun _ _ _ h => h) (Or.inl ⟨by rfl, ?hy⟩) (by assumption) ?_
  case hy => (intro wz hSw; (try dsimp only at hSw); go_simp <;> with_reducible rfl)
  simp only [List.setIfInBounds_toArray, List.set_cons_zero, List.set_cons_succ]
  have K5 := Lib.hid H5
  have K6 := Lib.hid H6
  clear H5 H6 X5 X6 K3 K4
  refine wpAnyH_done (by kernel_rfl) ?_ _
  replace qm_0 := hHeld.cell qm_0
  replace hHeld := HAB.out.trans hHeld
  clear lm_0 HAB
  go_wp2_with fail
  refine (CR.out _).mono ?_
  rintro e w' ⟨rfl, rfl⟩
  have HE := Lib.hid hHeld
  have HMW := Lib.hid (HM0.out.ext hHeld)
  have dist : wA.heap.size ≤ cx ∧ cx < c2 := ⟨hb5, n56⟩
  clear hHeld qm_0 HM0
  go_wp2
  go_loopw [10] (fun i wr => ∃ k : Nat, k ≤ len ∧ i = .int .i64 k ∧ ∃ x y r, HD .u32 wr cx x ∧ HD .u64 wr c2 y ∧ Rel s x y r k ∧ MB wr (w.heap.size + 1) r ∧ Ext w wr) (fun i _ => len - (intOf i).toNat)
  case atStart => exact ⟨0, Nat.zero_le _, rfl, _, _, _, K5.out, K6.out, HR0.out, HMW.out, EA.trans HE.out⟩
  case round =>
    obtain ⟨k, hk, rfl, x, y, r, hX, hY, hR, hM, hx⟩ := hrel
    obtain ⟨dx0, dxy⟩ := dist
    have ne1 : ¬ cx = w.heap.size + 1 := by omega
    have ne2 : ¬ c2 = w.heap.size + 1 := by omega
    have ne3 : ¬ c2 = cx := by omega
    have ne4 : ¬ cx = c2 := by omega
    have ne5 : ¬ w.heap.size + 1 = cx := by omega
    have ne6 : ¬ w.heap.size + 1 = c2 := by omega
    have ge1 : w.heap.size ≤ cx := by omega
    have ge2 : w.heap.size ≤ c2 := by omega
    have NE := Lib.hid (And.intro ne1 (And.intro ne2 (And.intro ne3 (And.intro ne4 (And.intro ne5 (And.intro ne6 (And.intro ge1 ge2)))))))
    clear ne1 ne2 ne3 ne4 ne5 ne6 ge1 ge2 dx0 dxy sA
    by_cases hlt : k < len
    case neg =>
      obtain rfl : k = len := by omega
      have CAL := Lib.hid (alike_ok cx c2 x y r s k wr hX hY hR (by omega))
      have HX := Lib.hid hx
      have qm_0 := hM.q0
      have qm_1 := hM.q1
      have qm_2 := hM.q2
      have qm_3 := hM.q3
      have qm_4 := hM.q4
      have qm_5 := hM.q5
      have qm_6 := hM.q6
      clear hX hY hR hM hx
      go_wp2_with fail
      refine CAL.out.mono ?_
      rintro e v1 ⟨rfl, X1⟩
      go_wp2_with fail
      refine (CV.out _).mono ?_
      rintro e v2 ⟨rfl, X2⟩
      go_wp2
      go_ret
      exact ⟨rfl, (HX.out.trans (X1.trans X2)).below⟩
    have hkl : (k : Int) < (len : Int) := by omega
    have hkd : k < ds.length := by rw [HDL.out]; exact hlt
    obtain ⟨db, doff, ea, hcell⟩ := HDR.out k hkd
    subst ea
    obtain ⟨_, wn, wp, _, _, wl⟩ := HDO.out _ (List.getElem_mem hkd)
    obtain ⟨p0, p1⟩ := wf_u64 wp
    have hc0 := hcell 0 _ rfl
    have hc1 := hcell 1 _ rfl
    have hc2 := hcell 2 _ rfl
    have hc3 := hcell 3 _ rfl
    have hc4 := hcell 4 _ rfl
    have hc5 := hcell 5 _ rfl
    clear hcell
    generalize ds[k] = d at *
    have hll : d.len ≤ 9223372036854775807 := by unfold maxLen at wl; omega
    rw [show doff + (k * 6 + 0) = doff + k * 6 by omega] at hc0
    rw [show doff + (k * 6 + 1) = doff + k * 6 + 1 by omega] at hc1
    rw [show doff + (k * 6 + 2) = doff + k * 6 + 2 by omega] at hc2
    rw [show doff + (k * 6 + 3) = doff + k * 6 + 3 by omega] at hc3
    rw [show doff + (k * 6 + 4) = doff + k * 6 + 4 by omega] at hc4
    rw [show doff + (k * 6 + 5) = doff + k * 6 + 5 by omega] at hc5
    have HC := Lib.hid (fun w' (h : Ext w w') => And.intro (h.cell hc0) (And.intro (h.cell hc1) (And.intro (h.cell hc2) (And.intro (h.cell hc3) (And.intro (h.cell hc4) (h.cell hc5))))))
    clear hc0 hc1 hc2 hc3 hc4 hc5 wn wp wl hkd
    obtain ⟨qd_0, qd_1, qd_2, qd_3, qd_4, qd_5⟩ := HC.out _ hx
    have CF := Lib.hid (fun w => far_ok d.k d.n d.p d.op d.m (.slice d.a d.len d.cap) w)
    by_cases hdl : 100 < d.len
    · have dd : decide ((100 : Int) < (d.len : Int)) = true := by simp; omega
      have HX := Lib.hid hx
      clear hX hY hR hM hx
      go_wp2_with fail
      refine (CV.out _).mono ?_
      rintro e v2 ⟨rfl, X2⟩
      go_wp2
      go_ret
      exact ⟨rfl, (HX.out.trans X2).below⟩
    have dd : decide ((100 : Int) < (d.len : Int)) = false := by simp; omega
    cases hf : farB d.k d.n
    case true =>
      rw [hf] at CF
      clear hX hY hR hM
      go_wp2_with fail
      refine (CF.out _).mono ?_
      rintro e w1 ⟨rfl, hb1⟩
      have hx1 : Ext wr w1 := by repeat (first | with_reducible exact Ext.refl _ | with_reducible assumption | with_reducible refine Ext.alloc ?_ _ | with_reducible refine Ext.drew ?_ | with_reducible refine Ext.drewN ?_ _ | with_reducible refine Ext.setCell ?_ (by simp <;> omega) _ | with_reducible refine Ext.trans ?_ (by assumption))
      replace qd_0 := hx1.cell qd_0
      replace qd_1 := hx1.cell qd_1
      replace qd_2 := hx1.cell qd_2
      replace qd_3 := hx1.cell qd_3
      replace qd_4 := hx1.cell qd_4
      replace qd_5 := hx1.cell qd_5
      clear hx1
      go_wp2_with fail
      refine (CV.out _).mono ?_
      rintro e w2 ⟨rfl, hb2⟩
      have hx2 : Ext w1 w2 := by repeat (first | with_reducible exact Ext.refl _ | with_reducible assumption | with_reducible refine Ext.alloc ?_ _ | with_reducible refine Ext.drew ?_ | with_reducible refine Ext.drewN ?_ _ | with_reducible refine Ext.setCell ?_ (by simp <;> omega) _ | with_reducible refine Ext.trans ?_ (by assumption))
      replace qd_0 := hx2.cell qd_0
      replace qd_1 := hx2.cell qd_1
      replace qd_2 := hx2.cell qd_2
      replace qd_3 := hx2.cell qd_3
      replace qd_4 := hx2.cell qd_4
      replace qd_5 := hx2.cell qd_5
      clear hx2
      go_wp2
      go_ret
      refine ⟨rfl, Ext.below ?_⟩
      repeat (first | with_reducible exact Ext.refl _ | with_reducible assumption | with_reducible refine Ext.alloc ?_ _ | with_reducible refine Ext.drew ?_ | with_reducible refine Ext.drewN ?_ _ | with_reducible refine Ext.setCell ?_ (by simp <;> omega) _ | with_reducible refine Ext.trans ?_ (by assumption))
    rw [hf] at CF
    have S := hR.sm (by omega)
    have hst := hR.step d.k d.n d.p hf p0 p1
    obtain ⟨RS2, e1, e2⟩ := hst
    have CMR := fun w => rMay r d.op d.m d.a d.len d.cap w hll S
    have CM1 := fun w' (h : Ext wr w') => may32_ok cx x d.op d.m d.a d.len d.cap w' hll (hX.ext h)
    have CM2 := fun w' (h : Ext wr w') => may64_ok c2 y d.op d.m d.a d.len d.cap w' hll (hY.ext h)
    rw [hR.may32] at CM1
    rw [hR.may64] at CM2
    generalize mayR r d.op d.m d.len = mm at CMR CM1 CM2
    have CMD := fun w => model_ok r d.k d.n d.p d.op d.m (.slice d.a d.len d.cap) w S p0 p1
    have CSM := fun w' (h : HD .u32 w' cx x) => small_ok cx x d.k d.n d.p d.op d.m (.slice d.a d.len d.cap) w' h p0 p1
    have CGR := fun w' (h : HD .u64 w' c2 y) => great_ok c2 y d.k d.n d.p d.op d.m (.slice d.a d.len d.cap) w' h p0 p1
    rw [e1] at CSM
    rw [e2] at CGR
    clear e1 e2
    generalize mstp r d.k d.n d.p = ms at *
    generalize gstp32 x d.k d.n d.p = sx at *
    generalize gstp64 y d.k d.n d.p = sy at *
    have CAL := Lib.hid (fun w' h1 h2 => alike_ok cx c2 sx.h sy.h ms.r s (k + 1) w' h1 h2 RS2 (by omega))
    have HCMR := Lib.hid CMR
    have HCM1 := Lib.hid CM1
    have HCM2 := Lib.hid CM2
    have HCMD := Lib.hid CMD
    have HCSM := Lib.hid CSM
    have HCGR := Lib.hid CGR
    have HHX := Lib.hid hX
    have HHY := Lib.hid hY
    have HHM := Lib.hid hM
    have HRS := Lib.hid RS2
    have qm_0 := hM.q0
    have qm_1 := hM.q1
    have qm_2 := hM.q2
    have qm_3 := hM.q3
    have qm_4 := hM.q4
    have qm_5 := hM.q5
    have qm_6 := hM.q6
    have zm_0 := hM.z0
    have zm_1 := hM.z1
    have zm_2 := hM.z2
    have zm_3 := hM.z3
    have zm_4 := hM.z4
    have zm_5 := hM.z5
    have zm_6 := hM.z6
    have HXT := Lib.hid hx
    clear CMR CM1 CM2 CMD CSM CGR hX hY hR hM hx RS2 S hf p0 p1
    go_wp2_with fail
    refine (CF.out _).mono ?_
    rintro e w3 ⟨rfl, hb3⟩
    have hx3 : Ext wr w3 := by repeat (first | with_reducible exact Ext.refl _ | with_reducible assumption | with_reducible refine Ext.alloc ?_ _ | with_reducible refine Ext.drew ?_ | with_reducible refine Ext.drewN ?_ _ | with_reducible refine Ext.setCell ?_ (by simp <;> omega) _ | with_reducible refine Ext.trans ?_ (by assumption))
    replace qd_0 := hx3.cell qd_0
    replace qd_1 := hx3.cell qd_1
    replace qd_2 := hx3.cell qd_2
    replace qd_3 := hx3.cell qd_3
    replace qd_4 := hx3.cell qd_4
    replace qd_5 := hx3.cell qd_5
    replace zm_0 := hx3.frozen qm_0 zm_0
    replace qm_0 := hx3.cell qm_0
    replace zm_1 := hx3.frozen qm_1 zm_1
    replace qm_1 := hx3.cell qm_1
    replace zm_2 := hx3.frozen qm_2 zm_2
    replace qm_2 := hx3.cell qm_2
    replace zm_3 := hx3.frozen qm_3 zm_3
    replace qm_3 := hx3.cell qm_3
    replace zm_4 := hx3.frozen qm_4 zm_4
    replace qm_4 := hx3.cell qm_4
    replace zm_5 := hx3.frozen qm_5 zm_5
    replace qm_5 := hx3.cell qm_5
    replace zm_6 := hx3.frozen qm_6 zm_6
    replace qm_6 := hx3.cell qm_6
    clear hx3
    go_upto_region 14 with (fail)
    refine wp_region_later (by kernel_rfl) (by kernel_rfl) ?_
    have ld_0 := fun (g : Later w3) => g.ok.cell qd_0
    have ld_1 := fun (g : Later w3) => g.ok.cell qd_1
    have ld_2 := fun (g : Later w3) => g.ok.cell qd_2
    have ld_3 := fun (g : Later w3) => g.ok.cell qd_3
    have ld_4 := fun (g : Later w3) => g.ok.cell qd_4
    have ld_5 := fun (g : Later w3) => g.ok.cell qd_5
    have lm_0 := fun (g : Later w3) => g.ok.cell qm_0
    have lm_1 := fun (g : Later w3) => g.ok.cell qm_1
    have lm_2 := fun (g : Later w3) => g.ok.cell qm_2
    have lm_3 := fun (g : Later w3) => g.ok.cell qm_3
    have lm_4 := fun (g : Later w3) => g.ok.cell qm_4
    have lm_5 := fun (g : Later w3) => g.ok.cell qm_5
    have lm_6 := fun (g : Later w3) => g.ok.cell qm_6
    repeat (go_big_quiet_step ((fail)))
    go_big_quiet_step ((go_at_call 14; exact laterC (HCMR.out _)))
    repeat (go_big_quiet_step ((fail)))
    refine wpQuiet_nil ?_
    intro w4 hl4
    have hb4 := laters_ext hl4
    clear hl4 ld_0 ld_1 ld_2 ld_3 ld_4 ld_5 lm_0 lm_1 lm_2 lm_3 lm_4 lm_5 lm_6
    have hx4 : Ext w3 w4 := by repeat (first | with_reducible exact Ext.refl _ | with_reducible assumption | with_reducible refine Ext.alloc ?_ _ | with_reducible refine Ext.drew ?_ | with_reducible refine Ext.drewN ?_ _ | with_reducible refine Ext.setCell ?_ (by simp <;> omega) _ | with_reducible refine Ext.trans ?_ (by assumption))
    replace qd_0 := hx4.cell qd_0
    replace qd_1 := hx4.cell qd_1
    replace qd_2 := hx4.cell qd_2
    replace qd_3 := hx4.cell qd_3
    replace qd_4 := hx4.cell qd_4
    replace qd_5 := hx4.cell qd_5
    replace zm_0 := hx4.frozen qm_0 zm_0
    replace qm_0 := hx4.cell qm_0
    replace zm_1 := hx4.frozen qm_1 zm_1
    replace qm_1 := hx4.cell qm_1
    replace zm_2 := hx4.frozen qm_2 zm_2
    replace qm_2 := hx4.cell qm_2
    replace zm_3 := hx4.frozen qm_3 zm_3
    replace qm_3 := hx4.cell qm_3
    replace zm_4 := hx4.frozen qm_4 zm_4
    replace qm_4 := hx4.cell qm_4
    replace zm_5 := hx4.frozen qm_5 zm_5
    replace qm_5 := hx4.cell qm_5
    replace zm_6 := hx4.frozen qm_6 zm_6
    replace qm_6 := hx4.cell qm_6
    clear hx4
    go_wp2_with fail
    refine (HCM1.out _ (by repeat (first | with_reducible exact Ext.refl _ | with_reducible assumption | with_reducible refine Ext.alloc ?_ _ | with_reducible refine Ext.drew ?_ | with_reducible refine Ext.drewN ?_ _ | with_reducible refine Ext.setCell ?_ (by simp <;> omega) _ | with_reducible refine Ext.trans ?_ (by assumption)))).mono ?_
    rintro e w5 ⟨rfl, hb5⟩
    have hx5 : Ext w4 w5 := by repeat (first | with_reducible exact Ext.refl _ | with_reducible assumption | with_reducible refine Ext.alloc ?_ _ | with_reducible refine Ext.drew ?_ | with_reducible refine Ext.drewN ?_ _ | with_reducible refine Ext.setCell ?_ (by simp <;> omega) _ | with_reducible refine Ext.trans ?_ (by assumption))
    replace qd_0 := hx5.cell qd_0
    replace qd_1 := hx5.cell qd_1
    replace qd_2 := hx5.cell qd_2
    replace qd_3 := hx5.cell qd_3
    replace qd_4 := hx5.cell qd_4
    replace qd_5 := hx5.cell qd_5
    replace zm_0 := hx5.frozen qm_0 zm_0
    replace qm_0 := hx5.cell qm_0
    replace zm_1 := hx5.frozen qm_1 zm_1
    replace qm_1 := hx5.cell qm_1
    replace zm_2 := hx5.frozen qm_2 zm_2
    replace qm_2 := hx5.cell qm_2
    replace zm_3 := hx5.frozen qm_3 zm_3
    replace qm_3 := hx5.cell qm_3
    replace zm_4 := hx5.frozen qm_4 zm_4
    replace qm_4 := hx5.cell qm_4
    replace zm_5 := hx5.frozen qm_5 zm_5
    replace qm_5 := hx5.cell qm_5
    replace zm_6 := hx5.frozen qm_6 zm_6
    replace qm_6 := hx5.cell qm_6
    clear hx5
    go_wp2_with fail
    refine (HCM2.out _ (by repeat (first | with_reducible exact Ext.refl _ | with_reducible assumption | with_reducible refine Ext.alloc ?_ _ | with_reducible refine Ext.drew ?_ | with_reducible refine Ext.drewN ?_ _ | with_reducible refine Ext.setCell ?_ (by simp <;> omega) _ | with_reducible refine Ext.trans ?_ (by assumption)))).mono ?_
    rintro e w6 ⟨rfl, hb6⟩
    have hx6 : Ext w5 w6 := by repeat (first | with_reducible exact Ext.refl _ | with_reducible assumption | with_reducible refine Ext.alloc ?_ _ | with_reducible refine Ext.drew ?_ | with_reducible refine Ext.drewN ?_ _ | with_reducible refine Ext.setCell ?_ (by simp <;> omega) _ | with_reducible refine Ext.trans ?_ (by assumption))
    replace qd_0 := hx6.cell qd_0
    replace qd_1 := hx6.cell qd_1
    replace qd_2 := hx6.cell qd_2
    replace qd_3 := hx6.cell qd_3
    replace qd_4 := hx6.cell qd_4
    replace qd_5 := hx6.cell qd_5
    replace zm_0 := hx6.frozen qm_0 zm_0
    replace qm_0 := hx6.cell qm_0
    replace zm_1 := hx6.frozen qm_1 zm_1
    replace qm_1 := hx6.cell qm_1
    replace zm_2 := hx6.frozen qm_2 zm_2
    replace qm_2 := hx6.cell qm_2
    replace zm_3 := hx6.frozen qm_3 zm_3
    replace qm_3 := hx6.cell qm_3
    replace zm_4 := hx6.frozen qm_4 zm_4
    replace qm_4 := hx6.cell qm_4
    replace zm_5 := hx6.frozen qm_5 zm_5
    replace qm_5 := hx6.cell qm_5
    replace zm_6 := hx6.frozen qm_6 zm_6
    replace qm_6 := hx6.cell qm_6
    clear hx6
    go_upto_region 17 with (fail)
    refine wp_freeE [.quiet, .quiet, .quiet, .quiet, .quiet, .quiet, .quiet, .quiet, .quiet, .new (.cells #[.int .i64 0, .bool false, .bool false, .int .u64 0, .int .i64 0, .int .i64 0, .int .i64 0] 24), .set 9 (.cells #[.int .i64 ms.r.C, .bool ms.r.P, .bool ms.r.H, .int .u64 ms.r.F, .int .i64 ms.r.N, .int .i64 ms.r.G, .int .i64 ms.r.U] 24), .quiet] [(9, 12)] 162 (by kernel_rfl) (by kernel_rfl) (by kernel_rfl) rfl ?hnew1 ?_
    case hnew1 =>
      intro i o op hr ho ρ w
      match i, hr, ho with
      | 0, hr, ho => exact absurd hr (by intro h; cases h)
      | 1, hr, ho => exact absurd hr (by intro h; cases h)
      | 2, hr, ho => exact absurd hr (by intro h; cases h)
      | 3, hr, ho => exact absurd hr (by intro h; cases h)
      | 4, hr, ho => exact absurd hr (by intro h; cases h)
      | 5, hr, ho => exact absurd hr (by intro h; cases h)
      | 6, hr, ho => exact absurd hr (by intro h; cases h)
      | 7, hr, ho => exact absurd hr (by intro h; cases h)
      | 8, hr, ho => exact absurd hr (by intro h; cases h)
      | 9, hr, ho => cases hr; cases ho; simp [go_sem]
      | 10, hr, ho => exact absurd hr (by intro h; cases h)
      | 11, hr, ho => exact absurd hr (by intro h; cases h)
      | i + 12, hr, ho => exact absurd hr (by intro h; cases h)
    apply Exists.intro
    refine ⟨?hwalk1, ?hset1, ?_⟩
    case hwalk1 =>
      intro F hF g0
      have hconst : ∀ p : Prop, (LaterF _ F → p) ↔ p := fun p => ⟨fun h => h g0, fun h _ => h⟩
      have ld_0 := fun (g : LaterF w6 F) => g.ok.cell qd_0
      have ld_1 := fun (g : LaterF w6 F) => g.ok.cell qd_1
      have ld_2 := fun (g : LaterF w6 F) => g.ok.cell qd_2
      have ld_3 := fun (g : LaterF w6 F) => g.ok.cell qd_3
      have ld_4 := fun (g : LaterF w6 F) => g.ok.cell qd_4
      have ld_5 := fun (g : LaterF w6 F) => g.ok.cell qd_5
      have lm_0 := fun (g : LaterF w6 F) => g.ok.cell qm_0
      have lm_1 := fun (g : LaterF w6 F) => g.ok.cell qm_1
      have lm_2 := fun (g : LaterF w6 F) => g.ok.cell qm_2
      have lm_3 := fun (g : LaterF w6 F) => g.ok.cell qm_3
      have lm_4 := fun (g : LaterF w6 F) => g.ok.cell qm_4
      have lm_5 := fun (g : LaterF w6 F) => g.ok.cell qm_5
      have lm_6 := fun (g : LaterF w6 F) => g.ok.cell qm_6
      simp only [keepQ]
      repeat (go_big_quiet_step ((fail)))
      go_big_quiet_step ((go_at_call 17; exact laterFC hF (HCMD.out _)))
      repeat (go_big_quiet_step ((fail)))
      exact wpQuiet_nil rfl
    case hset1 =>
      intro B i s o' op hr ho o hz w hw
      match i, hr, ho with
      | 0, hr, ho => exact absurd hr (by intro h; cases h)
      | 1, hr, ho => exact absurd hr (by intro h; cases h)
      | 2, hr, ho => exact absurd hr (by intro h; cases h)
      | 3, hr, ho => exact absurd hr (by intro h; cases h)
      | 4, hr, ho => exact absurd hr (by intro h; cases h)
      | 5, hr, ho => exact absurd hr (by intro h; cases h)
      | 6, hr, ho => exact absurd hr (by intro h; cases h)
      | 7, hr, ho => exact absurd hr (by intro h; cases h)
      | 8, hr, ho => exact absurd hr (by intro h; cases h)
      | 9, hr, ho => exact absurd hr (by intro h; cases h)
      | 10, hr, ho => cases hr; cases ho; cases hz; obtain ⟨⟨c0, c1, c2, c3, c4, c5, c6⟩, ⟨z0, z1, z2, z3, z4, z5, z6⟩, hh, hbut⟩ := store7 (.int .i64 ms.r.C) (.bool ms.r.P) (.bool ms.r.H) (.int .u64 ms.r.F) (.int .i64 ms.r.N) (.int .i64 ms.r.G) (.int .i64 ms.r.U) hw; exact ⟨.skip, _, by simp [go_sem, withNews, Act.put, c0, c1, c2, c3, c4, c5, c6, z0, z1, z2, z3, z4, z5, z6], .inl rfl, hh, hbut⟩
      | 11, hr, ho => exact absurd hr (by intro h; cases h)
      | i + 12, hr, ho => exact absurd hr (by intro h; cases h)
    intro B w7 hb7 hN1
    have hhv : w7.heap[B 9]? = some (.cells #[.int .i64 ms.r.C, .bool ms.r.P, .bool ms.r.H, .int .u64 ms.r.F, .int .i64 ms.r.N, .int .i64 ms.r.G, .int .i64 ms.r.U] 24) := hN1.holds 9 _ rfl rfl
    have hyv : w6.heap.size ≤ B 9 := hN1.beyond 9 _ rfl rfl
    clear hN1
    simp only [withNews, List.foldl_cons, List.foldl_nil, Act.put, List.setIfInBounds_toArray, List.set_cons_succ, List.set_cons_zero]
    generalize B 9 = bkv at *
    have hx7 : Ext w6 w7 := by repeat (first | with_reducible exact Ext.refl _ | with_reducible assumption | with_reducible refine Ext.alloc ?_ _ | with_reducible refine Ext.drew ?_ | with_reducible refine Ext.drewN ?_ _ | with_reducible refine Ext.setCell ?_ (by simp <;> omega) _ | with_reducible refine Ext.trans ?_ (by assumption))
    replace qd_0 := hx7.cell qd_0
    replace qd_1 := hx7.cell qd_1
    replace qd_2 := hx7.cell qd_2
    replace qd_3 := hx7.cell qd_3
    replace qd_4 := hx7.cell qd_4
    replace qd_5 := hx7.cell qd_5
    replace zm_0 := hx7.frozen qm_0 zm_0
    replace qm_0 := hx7.cell qm_0
    replace zm_1 := hx7.frozen qm_1 zm_1
    replace qm_1 := hx7.cell qm_1
    replace zm_2 := hx7.frozen qm_2 zm_2
    replace qm_2 := hx7.cell qm_2
    replace zm_3 := hx7.frozen qm_3 zm_3
    replace qm_3 := hx7.cell qm_3
    replace zm_4 := hx7.frozen qm_4 zm_4
    replace qm_4 := hx7.cell qm_4
    replace zm_5 := hx7.frozen qm_5 zm_5
    replace qm_5 := hx7.cell qm_5
    replace zm_6 := hx7.frozen qm_6 zm_6
    replace qm_6 := hx7.cell qm_6
    clear hx7
    have qv_0 := (cell_of_heap (j := 0) (v := .int .i64 ms.r.C) hhv rfl).1
    have qv_1 := (cell_of_heap (j := 1) (v := .bool ms.r.P) hhv rfl).1
    have qv_2 := (cell_of_heap (j := 2) (v := .bool ms.r.H) hhv rfl).1
    have qv_3 := (cell_of_heap (j := 3) (v := .int .u64 ms.r.F) hhv rfl).1
    have qv_4 := (cell_of_heap (j := 4) (v := .int .i64 ms.r.N) hhv rfl).1
    have qv_5 := (cell_of_heap (j := 5) (v := .int .i64 ms.r.G) hhv rfl).1
    have qv_6 := (cell_of_heap (j := 6) (v := .int .i64 ms.r.U) hhv rfl).1
    have pv := World.block_lt_of_cell? _ ⟨bkv, 0, none⟩ qv_0
    have rv := Nat.lt_succ_of_lt pv
    clear hhv hyv
    have E8 : Ext wr w7 := by repeat (first | with_reducible exact Ext.refl _ | with_reducible assumption | with_reducible refine Ext.alloc ?_ _ | with_reducible refine Ext.drew ?_ | with_reducible refine Ext.drewN ?_ _ | with_reducible refine Ext.setCell ?_ (by simp <;> omega) _ | with_reducible refine Ext.trans ?_ (by assumption))
    have E8w := HXT.out.trans E8
    have HX8 := Lib.hid (HHX.out.ext E8)
    have HY8 := Lib.hid (HHY.out.ext E8)
    have HM8 := Lib.hid (HHM.out.ext E8)
    go_upto_region 19 with (fail)
    refine settle_wp ?_
    intro vT hT
    have B7 := ((but_set7 w7 (w.heap.size + 1) (.int .i64 ms.r.C) (.bool ms.r.P) (.bool ms.r.H) (.int .u64 ms.r.F) (.int .i64 ms.r.N) (.int .i64 ms.r.G) (.int .i64 ms.r.U))).trans (hT.but _)
    have KXT := Lib.hid (HX8.out.but B7 NE.out.1)
    have KYT := Lib.hid (HY8.out.but B7 NE.out.2.1)
    have KMT := Lib.hid ((HM8.out.set ms.r).ext hT)
    have ET : Ext w vT := But.ext E8w B7 (fun i hi => by rw [hi]; exact Nat.le_succ _)
    have KET := Lib.hid ET
    clear hT B7 qd_0 qd_1 qd_2 qd_3 qd_4 qd_5 qm_0 qm_1 qm_2 qm_3 qm_4 qm_5 qm_6 zm_0 zm_1 zm_2 zm_3 zm_4 zm_5 zm_6 qv_0 qv_1 qv_2 qv_3 qv_4 qv_5 qv_6 E8 E8w
    obtain ⟨j0, j1, j2, j3, j4, j5⟩ := HC.out _ ET
    clear ET
    go_wp2_with fail
    refine (HCSM.out _ KXT.out).mono ?_
    rintro e vS ⟨rfl, HS, TS⟩
    have HMS := KMT.out.but TS NE.out.2.2.2.2.1
    have HYS := KYT.out.but TS NE.out.2.2.1
    have ES : Ext w vS := But.ext KET.out TS (fun i hi => by rw [hi]; exact NE.out.2.2.2.2.2.2.1)
    clear j0 j1 j2 j3 j4 j5
    obtain ⟨k0, k1, k2, k3, k4, k5⟩ := HC.out _ ES
    have KMS := Lib.hid HMS
    have KYS := Lib.hid HYS
    have KS := Lib.hid HS
    have KES := Lib.hid ES
    clear HMS HYS HS ES TS
    go_wp2_with fail
    refine (HCGR.out _ KYS.out).mono ?_
    rintro e vG ⟨rfl, HG, TG⟩
    have HMG := KMS.out.but TG NE.out.2.2.2.2.2.1
    have HXG := KS.out.but TG NE.out.2.2.2.1
    have EG : Ext w vG := But.ext KES.out TG (fun i hi => by rw [hi]; exact NE.out.2.2.2.2.2.2.2)
    have g0 := HMG.q0
    have g1 := HMG.q1
    have g2 := HMG.q2
    have g3 := HMG.q3
    have g4 := HMG.q4
    have g5 := HMG.q5
    have g6 := HMG.q6
    have KMG := Lib.hid HMG
    have KXG := Lib.hid HXG
    have KG := Lib.hid HG
    have KEG := Lib.hid EG
    clear HMG HXG HG EG TG k0 k1 k2 k3 k4 k5
    go_wp2_with fail
    refine (CAL.out _ KXG.out KG.out).mono ?_
    rintro e vL ⟨rfl, XL⟩
    have HXL := Lib.hid XL
    clear XL g0 g1 g2 g3 g4 g5 g6
    go_wp2
    exact ⟨⟨k + 1, by omega, by go_num, _, _, _, KXG.out.ext HXL.out, KG.out.ext HXL.out, HRS.out, KMG.out.ext HXL.out, KEG.out.trans HXL.out⟩, by simp [intOf]; omega⟩
set_option maxRecDepth 100000 in
theorem plays_false_none (C s : Int) (hd : Bool) (f0 n0 g0 t0 : Int) (a : Option Addr) (len cap : Nat) (ds : List GDo) (w : World) (s0 : 0 ≤ s) (s1 : s < 18446744073709551616) (hD : IsGDos w a len cap ds) (hr : rightB C = false) :
    Calls Try.prog 3 #[.agg #[.int .i64 C, .bool false, .bool hd, .int .u64 f0, .int .i64 n0, .int .i64 g0, .int .i64 t0], .int .u64 s, .slice a len cap] w fun e w' => e = .returned (.bool true) ∧ Below w.heap.size w w' := by
  obtain ⟨hdl, hdc, hdm, hdo, hdr⟩ := hD
  have hd63 : len ≤ 9223372036854775807 := by unfold maxLen at hdm; omega
  have CR := Lib.hid (fun w => r2Right C w)
  rw [hr] at CR
  have CV := Lib.hid (fun w => live14 w)
  clear hdr hdo hdl
  go_enter Try.func3, Try.ntmps3
  go_upto_region 2 with (fail)
  refine settle_wp ?_
  intro wA hbA
  have EA : Ext w wA := Ext.trans (by repeat (first | with_reducible exact Ext.refl _ | with_reducible assumption | with_reducible refine Ext.alloc ?_ _ | with_reducible refine Ext.drew ?_ | with_reducible refine Ext.drewN ?_ _ | with_reducible refine Ext.setCell ?_ (by simp <;> omega) _ | with_reducible refine Ext.trans ?_ (by assumption))) hbA
  have M0 : MB wA (w.heap.size + 1) ⟨C, false, false, 0, 0, 0, 0⟩ := MB.ext (by constructor <;> simp [go_sem]) hbA
  have sA : w.heap.size + 1 < wA.heap.size := M0.lt
  have qm_0 := M0.q0
  have qm_1 := M0.q1
  have HM0 := Lib.hid M0
  clear hbA M0
  refine wp_region_held_drew (S := fun w' => Ext wA w') (by kernel_rfl) ?hbeg (fun hHeld => ?_)
  case hbeg => exact (Ext.refl wA).drew
  have lm_0 := fun w' (hx : Ext wA w') => hx.cell qm_0
  refine take_at (i := 0) (v := ?_) rfl rfl (by kernel_rfl) (by kernel_rfl) (by kernel_rfl) (fun _ _ _ h => h) (Or.inl ⟨by rfl, ?hy⟩) (by assumption) ?_
  case hy => (intro wz hSw; (try dsimp only at hSw); go_simp <;> with_reducible rfl)
  simp only [List.setIfInBounds_toArray, List.set_cons_zero, List.set_cons_succ]
  refine take_at (i := 1) (v := ?_) rfl rfl (by kernel_rfl) (by kernel_rfl) (by kernel_rfl) (fun _ _ _ h => h) (Or.inl ⟨by rfl, ?hy⟩) (by assumption) ?_
  case hy => (intro wz hSw; (try dsimp only at hSw); go_simp <;> with_reducible rfl)
  simp only [List.setIfInBounds_toArray, List.set_cons_zero, List.set_cons_succ]
  refine take_at (i := 2) (v := ?_) rfl rfl (by kernel_rfl) (by kernel_rfl) (by kernel_rfl) (fun _ _ _ h => h) (Or.inl ⟨by rfl, ?hy⟩) (by assumption) ?_
  case hy => (intro wz hSw; (try dsimp only at hSw); go_simp <;> with_reducible rfl)
  simp only [List.setIfInBounds_toArray, List.set_cons_zero, List.set_cons_succ]
  refine take_at (i := 5) (v := ?_) rfl rfl (by kernel_rfl) (by kernel_rfl) (by kernel_rfl) (fun _ _ _ h => h) (Or.inl ⟨by rfl, ?hy⟩) (by assumption) ?_
  case hy => (intro wz hSw; (try dsimp only at hSw); go_simp <;> with_reducible rfl)
  simp only [List.setIfInBounds_toArray, List.set_cons_zero, List.set_cons_succ]
  refine take_at (i := 6) (v := ?_) rfl rfl (by kernel_rfl) (by kernel_rfl) (by kernel_rfl) (fun _ _ _ h => h) (Or.inl ⟨by rfl, ?hy⟩) (by assumption) ?_
  case hy => (intro wz hSw; (try dsimp only at hSw); go_simp <;> with_reducible rfl)
  simp only [List.setIfInBounds_toArray, List.set_cons_zero, List.set_cons_succ]
  refine take_at (i := 7) (v := ?_) rfl rfl (by kernel_rfl) (by kernel_rfl) (by kernel_rfl) (fun _ _ _ h => h) (Or.inl ⟨by rfl, ?hy⟩) (by assumption) ?_
  case hy => (intro wz hSw; (try dsimp only at hSw); go_simp <;> with_reducible rfl)
  simp only [List.setIfInBounds_toArray, List.set_cons_zero, List.set_cons_succ]
  refine call_at (i := 3) (F := 7) (ofU32 s _) rfl rfl (by kernel_rfl) (by rfl) (by first | rfl | (go_simp <;> rfl)) ?_
  rintro e w' ⟨rfl, rfl⟩
  refine ⟨_, rfl, hHeld, ?_⟩
  simp only [List.setIfInBounds_toArray, List.set_cons_zero, List.set_cons_succ]
  refine call_at (i := 4) (F := 6) (consumer32_no C _ _ hr) rfl rfl (by kernel_rfl) (by rfl) (by first | rfl | (go_simp <;> rfl)) ?_
  rintro e w' ⟨rfl, rfl⟩
  refine ⟨_, rfl, hHeld, ?_⟩
  simp only [List.setIfInBounds_toArray, List.set_cons_zero, List.set_cons_succ]
  refine call_at (i := 8) (F := 8) (consumer64_no C _ _ hr) rfl rfl (by kernel_rfl) (by rfl) (by first | rfl | (go_simp <;> rfl)) ?_
  rintro e w' ⟨rfl, rfl⟩
  refine ⟨_, rfl, hHeld, ?_⟩
  simp only [List.setIfInBounds_toArray, List.set_cons_zero, List.set_cons_succ]
  refine take_at (i := 9) (v := ?_) rfl rfl (by kernel_rfl) (by kernel_rfl) (by kernel_rfl) (fun _ _ _ h => h) (Or.inl ⟨by rfl, ?hy⟩) (by assumption) ?_
  case hy => (intro wz hSw; (try dsimp only at hSw); go_simp <;> with_reducible rfl)
  simp only [List.setIfInBounds_toArray, List.set_cons_zero, List.set_cons_succ]
  refine take_at (i := 10) (v := ?_) rfl rfl (by kernel_rfl) (by kernel_rfl) (by kernel_rfl) (fun _ _ _ h => h) (Or.inl ⟨by rfl, ?hy⟩) (by assumption) ?_
  case hy => (intro wz hSw; (try dsimp only at hSw); go_simp <;> with_reducible rfl)
  simp only [List.setIfInBounds_toArray, List.set_cons_zero, List.set_cons_succ]
  refine wpAnyH_done (by kernel_rfl) ?_ _
  replace qm_0 := hHeld.cell qm_0
  replace qm_1 := hHeld.cell qm_1
  clear lm_0
  go_wp2_with fail
  refine (CR.out _).mono ?_
  rintro e w' ⟨rfl, rfl⟩
  go_wp2_with fail
  refine (CV.out _).mono ?_
  rintro e w9 ⟨rfl, X9⟩
  go_wp2
  go_ret
  exact ⟨rfl, (EA.trans (hHeld.trans X9)).below⟩
set_option maxRecDepth 100000 in
theorem plays_false_long (C s : Int) (hd : Bool) (f0 n0 g0 t0 : Int) (a : Option Addr) (len cap : Nat) (ds : List GDo) (w : World) (s0 : 0 ≤ s) (s1 : s < 18446744073709551616) (hD : IsGDos w a len cap ds) (hr : rightB C = true) (h100 : 100 < len) :
    Calls Try.prog 3 #[.agg #[.int .i64 C, .bool false, .bool hd, .int .u64 f0, .int .i64 n0, .int .i64 g0, .int .i64 t0], .int .u64 s, .slice a len cap] w fun e w' => e = .returned (.bool true) ∧ Below w.heap.size w w' := by
  obtain ⟨hdl, hdc, hdm, hdo, hdr⟩ := hD
  have hd63 : len ≤ 9223372036854775807 := by unfold maxLen at hdm; omega
  have CR := Lib.hid (fun w => r2Right C w)
  rw [hr] at CR
  have CV := Lib.hid (fun w => live14 w)
  clear hdr hdo hdl
  have d100 : decide ((100 : Int) < (len : Int)) = true := by simp; omega
  go_enter Try.func3, Try.ntmps3
  go_upto_region 2 with (fail)
  refine settle_wp ?_
  intro wA hbA
  have EA : Ext w wA := Ext.trans (by repeat (first | with_reducible exact Ext.refl _ | with_reducible assumption | with_reducible refine Ext.alloc ?_ _ | with_reducible refine Ext.drew ?_ | with_reducible refine Ext.drewN ?_ _ | with_reducible refine Ext.setCell ?_ (by simp <;> omega) _ | with_reducible refine Ext.trans ?_ (by assumption))) hbA
  have M0 : MB wA (w.heap.size + 1) ⟨C, false, false, 0, 0, 0, 0⟩ := MB.ext (by constructor <;> simp [go_sem]) hbA
  have sA : w.heap.size + 1 < wA.heap.size := M0.lt
  have qm_0 := M0.q0
  have qm_1 := M0.q1
  have HM0 := Lib.hid M0
  clear hbA M0
  refine wp_region_held_drew (S := fun w' => Ext wA w') (by kernel_rfl) ?hbeg (fun hHeld => ?_)
  case hbeg => exact (Ext.refl wA).drew
  have lm_0 := fun w' (hx : Ext wA w') => hx.cell qm_0
  refine take_at (i := 0) (v := ?_) rfl rfl (by kernel_rfl) (by kernel_rfl) (by kernel_rfl) (fun _ _ _ h => h) (Or.inl ⟨by rfl, ?hy⟩) (by assumption) ?_
  case hy => (intro wz hSw; (try dsimp only at hSw); go_simp <;> with_reducible rfl)
  simp only [List.setIfInBounds_toArray, List.set_cons_zero, List.set_cons_succ]
  refine take_at (i := 1) (v := ?_) rfl rfl (by kernel_rfl) (by kernel_rfl) (by kernel_rfl) (fun _ _ _ h => h) (Or.inl ⟨by rfl, ?hy⟩) (by assumption) ?_
  case hy => (intro wz hSw; (try dsimp only at hSw); go_simp <;> with_reducible rfl)
  simp only [List.setIfInBounds_toArray, List.set_cons_zero, List.set_cons_succ]
  refine take_at (i := 2) (v := ?_) rfl rfl (by kernel_rfl) (by kernel_rfl) (by kernel_rfl) (fun _ _ _ h => h) (Or.inl ⟨by rfl, ?hy⟩) (by assumption) ?_
  case hy => (intro wz hSw; (try dsimp only at hSw); go_simp <;> with_reducible rfl)
  simp only [List.setIfInBounds_toArray, List.set_cons_zero, List.set_cons_succ]
  refine take_at (i := 5) (v := ?_) rfl rfl (by kernel_rfl) (by kernel_rfl) (by kernel_rfl) (fun _ _ _ h => h) (Or.inl ⟨by rfl, ?hy⟩) (by assumption) ?_
  case hy => (intro wz hSw; (try dsimp only at hSw); go_simp <;> with_reducible rfl)
  simp only [List.setIfInBounds_toArray, List.set_cons_zero, List.set_cons_succ]
  refine take_at (i := 6) (v := ?_) rfl rfl (by kernel_rfl) (by kernel_rfl) (by kernel_rfl) (fun _ _ _ h => h) (Or.inl ⟨by rfl, ?hy⟩) (by assumption) ?_
  case hy => (intro wz hSw; (try dsimp only at hSw); go_simp <;> with_reducible rfl)
  simp only [List.setIfInBounds_toArray, List.set_cons_zero, List.set_cons_succ]
  refine take_at (i := 7) (v := ?_) rfl rfl (by kernel_rfl) (by kernel_rfl) (by kernel_rfl) (fun _ _ _ h => h) (Or.inl ⟨by rfl, ?hy⟩) (by assumption) ?_
  case hy => (intro wz hSw; (try dsimp only at hSw); go_simp <;> with_reducible rfl)
  simp only [List.setIfInBounds_toArray, List.set_cons_zero, List.set_cons_succ]
  refine call_at (i := 3) (F := 7) (ofU32 s _) rfl rfl (by kernel_rfl) (by rfl) (by first | rfl | (go_simp <;> rfl)) ?_
  rintro e w' ⟨rfl, rfl⟩
  refine ⟨_, rfl, hHeld, ?_⟩
  simp only [List.setIfInBounds_toArray, List.set_cons_zero, List.set_cons_succ]
  refine call_at (i := 4) (F := 6) (consumer32_yes C _ _ hr) rfl rfl (by kernel_rfl) (by rfl) (by first | rfl | (go_simp <;> rfl)) ?_
  rintro e u3 ⟨bx, rfl, H3, hb3, X3⟩
  replace hb3 := Nat.le_trans hHeld.size hb3
  replace hHeld := hHeld.trans X3
  refine ⟨_, rfl, hHeld, ?_⟩
  simp only [List.setIfInBounds_toArray, List.set_cons_zero, List.set_cons_succ]
  refine call_at (i := 8) (F := 8) (consumer64_yes C _ _ hr) rfl rfl (by kernel_rfl) (by rfl) (by first | rfl | (go_simp <;> rfl)) ?_
  rintro e u4 ⟨b2, rfl, H4, hb4, X4⟩
  have n34 : bx < b2 := Nat.lt_of_lt_of_le H3.lt hb4
  replace H3 := H3.ext X4
  replace hHeld := hHeld.trans X4
  refine ⟨_, rfl, hHeld, ?_⟩
  simp only [List.setIfInBounds_toArray, List.set_cons_zero, List.set_cons_succ]
  refine take_at (i := 9) (v := ?_) rfl rfl (by kernel_rfl) (by kernel_rfl) (by kernel_rfl) (fun _ _ _ h => h) (Or.inl ⟨by rfl, ?hy⟩) (by assumption) ?_
  case hy => (intro wz hSw; (try dsimp only at hSw); go_simp <;> with_reducible rfl)
  simp only [List.setIfInBounds_toArray, List.set_cons_zero, List.set_cons_succ]
  refine take_at (i := 10) (v := ?_) rfl rfl (by kernel_rfl) (by kernel_rfl) (by kernel_rfl) (fun _ _ _ h => h) (Or.inl ⟨by rfl, ?hy⟩) (by assumption) ?_
  case hy => (intro wz hSw; (try dsimp only at hSw); go_simp <;> with_reducible rfl)
  simp only [List.setIfInBounds_toArray, List.set_cons_zero, List.set_cons_succ]
  have K3 := Lib.hid H3
  have K4 := Lib.hid H4
  clear H3 H4 X3 X4
  refine wpAnyH_done (by kernel_rfl) ?_ _
  replace qm_0 := hHeld.cell qm_0
  replace qm_1 := hHeld.cell qm_1
  clear lm_0
  go_wp2_with fail
  refine (CR.out _).mono ?_
  rintro e w' ⟨rfl, rfl⟩
  go_wp2_with fail
  refine (CV.out _).mono ?_
  rintro e w9 ⟨rfl, X9⟩
  go_wp2
  go_ret
  exact ⟨rfl, (EA.trans (hHeld.trans X9)).below⟩
set_option maxRecDepth 100000 in
theorem plays_false (C s : Int) (hd : Bool) (f0 n0 g0 t0 : Int) (a : Option Addr) (len cap : Nat) (ds : List GDo) (w : World) (s0 : 0 ≤ s) (s1 : s < 18446744073709551616) (hD : IsGDos w a len cap ds) (hr : rightB C = true) (h100 : ¬ 100 < len) :
    Calls Try.prog 3 #[.agg #[.int .i64 C, .bool false, .bool hd, .int .u64 f0, .int .i64 n0, .int .i64 g0, .int .i64 t0], .int .u64 s, .slice a len cap] w fun e w' => e = .returned (.bool true) ∧ Below w.heap.size w w' := by
  obtain ⟨hdl, hdc, hdm, hdo, hdr⟩ := hD
  have hd63 : len ≤ 9223372036854775807 := by unfold maxLen at hdm; omega
  have CR := Lib.hid (fun w => r2Right C w)
  rw [hr] at CR
  have CV := Lib.hid (fun w => live14 w)
  have HDO := Lib.hid hdo
  have HDR := Lib.hid hdr
  have HDL := Lib.hid hdl
  have R0 : Rel s ⟨C, true, 0, 0, s % 4294967296, s % 4294967296⟩ ⟨C, true, 0, 0, s, s⟩ ⟨C, false, false, 0, 0, 0, 0⟩ 0 := Rel.start s C false hr s0 s1
  have HR0 := Lib.hid R0
  clear hdr hdo hdl R0
  have d100 : decide ((100 : Int) < (len : Int)) = false := by simp; omega
  go_enter Try.func3, Try.ntmps3
  go_upto_region 2 with (fail)
  refine settle_wp ?_
  intro wA hbA
  have EA : Ext w wA := Ext.trans (by repeat (first | with_reducible exact Ext.refl _ | with_reducible assumption | with_reducible refine Ext.alloc ?_ _ | with_reducible refine Ext.drew ?_ | with_reducible refine Ext.drewN ?_ _ | with_reducible refine Ext.setCell ?_ (by simp <;> omega) _ | with_reducible refine Ext.trans ?_ (by assumption))) hbA
  have M0 : MB wA (w.heap.size + 1) ⟨C, false, false, 0, 0, 0, 0⟩ := MB.ext (by constructor <;> simp [go_sem]) hbA
  have sA : w.heap.size + 1 < wA.heap.size := M0.lt
  have qm_0 := M0.q0
  have qm_1 := M0.q1
  have HM0 := Lib.hid M0
  clear hbA M0
  refine wp_region_held_drew (S := fun w' => Ext wA w') (by kernel_rfl) ?hbeg (fun hHeld => ?_)
  case hbeg => exact (Ext.refl wA).drew
  have lm_0 := fun w' (hx : Ext wA w') => hx.cell qm_0
  refine take_at (i := 0) (v := ?_) rfl rfl (by kernel_rfl) (by kernel_rfl) (by kernel_rfl) (fun _ _ _ h => h) (Or.inl ⟨by rfl, ?hy⟩) (by assumption) ?_
  case hy => (intro wz hSw; (try dsimp only at hSw); go_simp <;> with_reducible rfl)
  simp only [List.setIfInBounds_toArray, List.set_cons_zero, List.set_cons_succ]
  refine take_at (i := 1) (v := ?_) rfl rfl (by kernel_rfl) (by kernel_rfl) (by kernel_rfl) (fun _ _ _ h => h) (Or.inl ⟨by rfl, ?hy⟩) (by assumption) ?_
  case hy => (intro wz hSw; (try dsimp only at hSw); go_simp <;> with_reducible rfl)
  simp only [List.setIfInBounds_toArray, List.set_cons_zero, List.set_cons_succ]
  refine take_at (i := 2) (v := ?_) rfl rfl (by kernel_rfl) (by kernel_rfl) (by kernel_rfl) (fun _ _ _ h => h) (Or.inl ⟨by rfl, ?hy⟩) (by assumption) ?_
  case hy => (intro wz hSw; (try dsimp only at hSw); go_simp <;> with_reducible rfl)
  simp only [List.setIfInBounds_toArray, List.set_cons_zero, List.set_cons_succ]
  refine take_at (i := 5) (v := ?_) rfl rfl (by kernel_rfl) (by kernel_rfl) (by kernel_rfl) (fun _ _ _ h => h) (Or.inl ⟨by rfl, ?hy⟩) (by assumption) ?_
  case hy => (intro wz hSw; (try dsimp only at hSw); go_simp <;> with_reducible rfl)
  simp only [List.setIfInBounds_toArray, List.set_cons_zero, List.set_cons_succ]
  refine take_at (i := 6) (v := ?_) rfl rfl (by kernel_rfl) (by kernel_rfl) (by kernel_rfl) (fun _ _ _ h => h) (Or.inl ⟨by rfl, ?hy⟩) (by assumption) ?_
  case hy => (intro wz hSw; (try dsimp only at hSw); go_simp <;> with_reducible rfl)
  simp only [List.setIfInBounds_toArray, List.set_cons_zero, List.set_cons_succ]
  refine take_at (i := 7) (v := ?_) rfl rfl (by kernel_rfl) (by kernel_rfl) (by kernel_rfl) (fun _ _ _ h => h) (Or.inl ⟨by rfl, ?hy⟩) (by assumption) ?_
  case hy => (intro wz hSw; (try dsimp only at hSw); go_simp <;> with_reducible rfl)
  simp only [List.setIfInBounds_toArray, List.set_cons_zero, List.set_cons_succ]
  refine call_at (i := 3) (F := 7) (ofU32 s _) rfl rfl (by kernel_rfl) (by rfl) (by first | rfl | (go_simp <;> rfl)) ?_
  rintro e w' ⟨rfl, rfl⟩
  refine ⟨_, rfl, hHeld, ?_⟩
  simp only [List.setIfInBounds_toArray, List.set_cons_zero, List.set_cons_succ]
  refine call_at (i := 4) (F := 6) (consumer32_yes C _ _ hr) rfl rfl (by kernel_rfl) (by rfl) (by first | rfl | (go_simp <;> rfl)) ?_
  rintro e u3 ⟨bx, rfl, H3, hb3, X3⟩
  replace hb3 := Nat.le_trans hHeld.size hb3
  replace hHeld := hHeld.trans X3
  refine ⟨_, rfl, hHeld, ?_⟩
  simp only [List.setIfInBounds_toArray, List.set_cons_zero, List.set_cons_succ]
  refine call_at (i := 8) (F := 8) (consumer64_yes C _ _ hr) rfl rfl (by kernel_rfl) (by rfl) (by first | rfl | (go_simp <;> rfl)) ?_
  rintro e u4 ⟨b2, rfl, H4, hb4, X4⟩
  have n34 : bx < b2 := Nat.lt_of_lt_of_le H3.lt hb4
  replace H3 := H3.ext X4
  replace hHeld := hHeld.trans X4
  refine ⟨_, rfl, hHeld, ?_⟩
  simp only [List.setIfInBounds_toArray, List.set_cons_zero, List.set_cons_succ]
  refine take_at (i := 9) (v := ?_) rfl rfl (by kernel_rfl) (by kernel_rfl) (by kernel_rfl) (fun _ _ _ h => h) (Or.inl ⟨by rfl, ?hy⟩) (by assumption) ?_
  case hy => (intro wz hSw; (try dsimp only at hSw); go_simp <;> with_reducible rfl)
  simp only [List.setIfInBounds_toArray, List.set_cons_zero, List.set_cons_succ]
  refine take_at (i := 10) (v := ?_) rfl rfl (by kernel_rfl) (by kernel_rfl) (by kernel_rfl) (fun _ _ _ h => h) (Or.inl ⟨by rfl, ?hy⟩) (by assumption) ?_
  case hy => (intro wz hSw; (try dsimp only at hSw); go_simp <;> with_reducible rfl)
  simp only [List.setIfInBounds_toArray, List.set_cons_zero, List.set_cons_succ]
  have K3 := Lib.hid H3
  have K4 := Lib.hid H4
  clear H3 H4 X3 X4
  refine wpAnyH_done (by kernel_rfl) ?_ _
  replace qm_0 := hHeld.cell qm_0
  replace qm_1 := hHeld.cell qm_1
  clear lm_0
  go_wp2_with fail
  refine (CR.out _).mono ?_
  rintro e w' ⟨rfl, rfl⟩
  have HE := Lib.hid hHeld
  have HMW := Lib.hid (HM0.out.ext hHeld)
  have dist : wA.heap.size ≤ bx ∧ bx < b2 := ⟨hb3, n34⟩
  clear hHeld qm_0 qm_1 HM0
  go_wp2
  go_loopw [10] (fun i wr => ∃ k : Nat, k ≤ len ∧ i = .int .i64 k ∧ ∃ x y r, HD .u32 wr bx x ∧ HD .u64 wr b2 y ∧ Rel s x y r k ∧ MB wr (w.heap.size + 1) r ∧ Ext w wr) (fun i _ => len - (intOf i).toNat)
  case atStart => exact ⟨0, Nat.zero_le _, rfl, _, _, _, K3.out, K4.out, HR0.out, HMW.out, EA.trans HE.out⟩
  case round =>
    obtain ⟨k, hk, rfl, x, y, r, hX, hY, hR, hM, hx⟩ := hrel
    obtain ⟨dx0, dxy⟩ := dist
    have ne1 : ¬ bx = w.heap.size + 1 := by omega
    have ne2 : ¬ b2 = w.heap.size + 1 := by omega
    have ne3 : ¬ b2 = bx := by omega
    have ne4 : ¬ bx = b2 := by omega
    have ne5 : ¬ w.heap.size + 1 = bx := by omega
    have ne6 : ¬ w.heap.size + 1 = b2 := by omega
    have ge1 : w.heap.size ≤ bx := by omega
    have ge2 : w.heap.size ≤ b2 := by omega
    have NE := Lib.hid (And.intro ne1 (And.intro ne2 (And.intro ne3 (And.intro ne4 (And.intro ne5 (And.intro ne6 (And.intro ge1 ge2)))))))
    clear ne1 ne2 ne3 ne4 ne5 ne6 ge1 ge2 dx0 dxy sA
    by_cases hlt : k < len
    case neg =>
      obtain rfl : k = len := by omega
      have CAL := Lib.hid (alike_ok bx b2 x y r s k wr hX hY hR (by omega))
      have HX := Lib.hid hx
      have qm_0 := hM.q0
      have qm_1 := hM.q1
      have qm_2 := hM.q2
      have qm_3 := hM.q3
      have qm_4 := hM.q4
      have qm_5 := hM.q5
      have qm_6 := hM.q6
      clear hX hY hR hM hx
      go_wp2_with fail
      refine CAL.out.mono ?_
      rintro e v1 ⟨rfl, X1⟩
      go_wp2_with fail
      refine (CV.out _).mono ?_
      rintro e v2 ⟨rfl, X2⟩
      go_wp2
      go_ret
      exact ⟨rfl, (HX.out.trans (X1.trans X2)).below⟩
    have hkl : (k : Int) < (len : Int) := by omega
    have hkd : k < ds.length := by rw [HDL.out]; exact hlt
    obtain ⟨db, doff, ea, hcell⟩ := HDR.out k hkd
    subst ea
    obtain ⟨_, wn, wp, _, _, wl⟩ := HDO.out _ (List.getElem_mem hkd)
    obtain ⟨p0, p1⟩ := wf_u64 wp
    have hc0 := hcell 0 _ rfl
    have hc1 := hcell 1 _ rfl
    have hc2 := hcell 2 _ rfl
    have hc3 := hcell 3 _ rfl
    have hc4 := hcell 4 _ rfl
    have hc5 := hcell 5 _ rfl
    clear hcell
    generalize ds[k] = d at *
    have hll : d.len ≤ 9223372036854775807 := by unfold maxLen at wl; omega
    rw [show doff + (k * 6 + 0) = doff + k * 6 by omega] at hc0
    rw [show doff + (k * 6 + 1) = doff + k * 6 + 1 by omega] at hc1
    rw [show doff + (k * 6 + 2) = doff + k * 6 + 2 by omega] at hc2
    rw [show doff + (k * 6 + 3) = doff + k * 6 + 3 by omega] at hc3
    rw [show doff + (k * 6 + 4) = doff + k * 6 + 4 by omega] at hc4
    rw [show doff + (k * 6 + 5) = doff + k * 6 + 5 by omega] at hc5
    have HC := Lib.hid (fun w' (h : Ext w w') => And.intro (h.cell hc0) (And.intro (h.cell hc1) (And.intro (h.cell hc2) (And.intro (h.cell hc3) (And.intro (h.cell hc4) (h.cell hc5))))))
    clear hc0 hc1 hc2 hc3 hc4 hc5 wn wp wl hkd
    obtain ⟨qd_0, qd_1, qd_2, qd_3, qd_4, qd_5⟩ := HC.out _ hx
    have CF := Lib.hid (fun w => far_ok d.k d.n d.p d.op d.m (.slice d.a d.len d.cap) w)
    by_cases hdl : 100 < d.len
    · have dd : decide ((100 : Int) < (d.len : Int)) = true := by simp; omega
      have HX := Lib.hid hx
      clear hX hY hR hM hx
      go_wp2_with fail
      refine (CV.out _).mono ?_
      rintro e v2 ⟨rfl, X2⟩
      go_wp2
      go_ret
      exact ⟨rfl, (HX.out.trans X2).below⟩
    have dd : decide ((100 : Int) < (d.len : Int)) = false := by simp; omega
    cases hf : farB d.k d.n
    case true =>
      rw [hf] at CF
      clear hX hY hR hM
      go_wp2_with fail
      refine (CF.out _).mono ?_
      rintro e w1 ⟨rfl, hb1⟩
      have hx1 : Ext wr w1 := by repeat (first | with_reducible exact Ext.refl _ | with_reducible assumption | with_reducible refine Ext.alloc ?_ _ | with_reducible refine Ext.drew ?_ | with_reducible refine Ext.drewN ?_ _ | with_reducible refine Ext.setCell ?_ (by simp <;> omega) _ | with_reducible refine Ext.trans ?_ (by assumption))
      replace qd_0 := hx1.cell qd_0
      replace qd_1 := hx1.cell qd_1
      replace qd_2 := hx1.cell qd_2
      replace qd_3 := hx1.cell qd_3
      replace qd_4 := hx1.cell qd_4
      replace qd_5 := hx1.cell qd_5
      clear hx1
      go_wp2_with fail
      refine (CV.out _).mono ?_
      rintro e w2 ⟨rfl, hb2⟩
      have hx2 : Ext w1 w2 := by repeat (first | with_reducible exact Ext.refl _ | with_reducible assumption | with_reducible refine Ext.alloc ?_ _ | with_reducible refine Ext.drew ?_ | with_reducible refine Ext.drewN ?_ _ | with_reducible refine Ext.setCell ?_ (by simp <;> omega) _ | with_reducible refine Ext.trans ?_ (by assumption))
      replace qd_0 := hx2.cell qd_0
      replace qd_1 := hx2.cell qd_1
      replace qd_2 := hx2.cell qd_2
      replace qd_3 := hx2.cell qd_3
      replace qd_4 := hx2.cell qd_4
      replace qd_5 := hx2.cell qd_5
      clear hx2
      go_wp2
      go_ret
      refine ⟨rfl, Ext.below ?_⟩
      repeat (first | with_reducible exact Ext.refl _ | with_reducible assumption | with_reducible refine Ext.alloc ?_ _ | with_reducible refine Ext.drew ?_ | with_reducible refine Ext.drewN ?_ _ | with_reducible refine Ext.setCell ?_ (by simp <;> omega) _ | with_reducible refine Ext.trans ?_ (by assumption))
    rw [hf] at CF
    have S := hR.sm (by omega)
    have hst := hR.step d.k d.n d.p hf p0 p1
    obtain ⟨RS2, e1, e2⟩ := hst
    have CMR := fun w => rMay r d.op d.m d.a d.len d.cap w hll S
    have CM1 := fun w' (h : Ext wr w') => may32_ok bx x d.op d.m d.a d.len d.cap w' hll (hX.ext h)
    have CM2 := fun w' (h : Ext wr w') => may64_ok b2 y d.op d.m d.a d.len d.cap w' hll (hY.ext h)
    rw [hR.may32] at CM1
    rw [hR.may64] at CM2
    generalize mayR r d.op d.m d.len = mm at CMR CM1 CM2
    have CMD := fun w => model_ok r d.k d.n d.p d.op d.m (.slice d.a d.len d.cap) w S p0 p1
    have CSM := fun w' (h : HD .u32 w' bx x) => small_ok bx x d.k d.n d.p d.op d.m (.slice d.a d.len d.cap) w' h p0 p1
    have CGR := fun w' (h : HD .u64 w' b2 y) => great_ok b2 y d.k d.n d.p d.op d.m (.slice d.a d.len d.cap) w' h p0 p1
    rw [e1] at CSM
    rw [e2] at CGR
    clear e1 e2
    generalize mstp r d.k d.n d.p = ms at *
    generalize gstp32 x d.k d.n d.p = sx at *
    generalize gstp64 y d.k d.n d.p = sy at *
    have CAL := Lib.hid (fun w' h1 h2 => alike_ok bx b2 sx.h sy.h ms.r s (k + 1) w' h1 h2 RS2 (by omega))
    have HCMR := Lib.hid CMR
    have HCM1 := Lib.hid CM1
    have HCM2 := Lib.hid CM2
    have HCMD := Lib.hid CMD
    have HCSM := Lib.hid CSM
    have HCGR := Lib.hid CGR
    have HHX := Lib.hid hX
    have HHY := Lib.hid hY
    have HHM := Lib.hid hM
    have HRS := Lib.hid RS2
    have qm_0 := hM.q0
    have qm_1 := hM.q1
    have qm_2 := hM.q2
    have qm_3 := hM.q3
    have qm_4 := hM.q4
    have qm_5 := hM.q5
    have qm_6 := hM.q6
    have zm_0 := hM.z0
    have zm_1 := hM.z1
    have zm_2 := hM.z2
    have zm_3 := hM.z3
    have zm_4 := hM.z4
    have zm_5 := hM.z5
    have zm_6 := hM.z6
    have HXT := Lib.hid hx
    clear CMR CM1 CM2 CMD CSM CGR hX hY hR hM hx RS2 S hf p0 p1
    go_wp2_with fail
    refine (CF.out _).mono ?_
    rintro e w3 ⟨rfl, hb3⟩
    have hx3 : Ext wr w3 := by repeat (first | with_reducible exact Ext.refl _ | with_reducible assumption | with_reducible refine Ext.alloc ?_ _ | with_reducible refine Ext.drew ?_ | with_reducible refine Ext.drewN ?_ _ | with_reducible refine Ext.setCell ?_ (by simp <;> omega) _ | with_reducible refine Ext.trans ?_ (by assumption))
    replace qd_0 := hx3.cell qd_0
    replace qd_1 := hx3.cell qd_1
    replace qd_2 := hx3.cell qd_2
    replace qd_3 := hx3.cell qd_3
    replace qd_4 := hx3.cell qd_4
    replace qd_5 := hx3.cell qd_5
    replace zm_0 := hx3.frozen qm_0 zm_0
    replace qm_0 := hx3.cell qm_0
    replace zm_1 := hx3.frozen qm_1 zm_1
    replace qm_1 := hx3.cell qm_1
    replace zm_2 := hx3.frozen qm_2 zm_2
    replace qm_2 := hx3.cell qm_2
    replace zm_3 := hx3.frozen qm_3 zm_3
    replace qm_3 := hx3.cell qm_3
    replace zm_4 := hx3.frozen qm_4 zm_4
    replace qm_4 := hx3.cell qm_4
    replace zm_5 := hx3.frozen qm_5 zm_5
    replace qm_5 := hx3.cell qm_5
    replace zm_6 := hx3.frozen qm_6 zm_6
    replace qm_6 := hx3.cell qm_6
    clear hx3
    go_upto_region 14 with (fail)
    refine wp_region_later (by kernel_rfl) (by kernel_rfl) ?_
    have ld_0 := fun (g : Later w3) => g.ok.cell qd_0
    have ld_1 := fun (g : Later w3) => g.ok.cell qd_1
    have ld_2 := fun (g : Later w3) => g.ok.cell qd_2
    have ld_3 := fun (g : Later w3) => g.ok.cell qd_3
    have ld_4 := fun (g : Later w3) => g.ok.cell qd_4
    have ld_5 := fun (g : Later w3) => g.ok.cell qd_5
    have lm_0 := fun (g : Later w3) => g.ok.cell qm_0
    have lm_1 := fun (g : Later w3) => g.ok.cell qm_1
    have lm_2 := fun (g : Later w3) => g.ok.cell qm_2
    have lm_3 := fun (g : Later w3) => g.ok.cell qm_3
    have lm_4 := fun (g : Later w3) => g.ok.cell qm_4
    have lm_5 := fun (g : Later w3) => g.ok.cell qm_5
    have lm_6 := fun (g : Later w3) => g.ok.cell qm_6
    repeat (go_big_quiet_step ((fail)))
    go_big_quiet_step ((go_at_call 14; exact laterC (HCMR.out _)))
    repeat (go_big_quiet_step ((fail)))
    refine wpQuiet_nil ?_
    intro w4 hl4
    have hb4 := laters_ext hl4
    clear hl4 ld_0 ld_1 ld_2 ld_3 ld_4 ld_5 lm_0 lm_1 lm_2 lm_3 lm_4 lm_5 lm_6
    have hx4 : Ext w3 w4 := by repeat (first | with_reducible exact Ext.refl _ | with_reducible assumption | with_reducible refine Ext.alloc ?_ _ | with_reducible refine Ext.drew ?_ | with_reducible refine Ext.drewN ?_ _ | with_reducible refine Ext.setCell ?_ (by simp <;> omega) _ | with_reducible refine Ext.trans ?_ (by assumption))
    replace qd_0 := hx4.cell qd_0
    replace qd_1 := hx4.cell qd_1
    replace qd_2 := hx4.cell qd_2
    replace qd_3 := hx4.cell qd_3
    replace qd_4 := hx4.cell qd_4
    replace qd_5 := hx4.cell qd_5
    replace zm_0 := hx4.frozen qm_0 zm_0
    replace qm_0 := hx4.cell qm_0
    replace zm_1 := hx4.frozen qm_1 zm_1
    replace qm_1 := hx4.cell qm_1
    replace zm_2 := hx4.frozen qm_2 zm_2
    replace qm_2 := hx4.cell qm_2
    replace zm_3 := hx4.frozen qm_3 zm_3
    replace qm_3 := hx4.cell qm_3
    replace zm_4 := hx4.frozen qm_4 zm_4
    replace qm_4 := hx4.cell qm_4
    replace zm_5 := hx4.frozen qm_5 zm_5
    replace qm_5 := hx4.cell qm_5
    replace zm_6 := hx4.frozen qm_6 zm_6
    replace qm_6 := hx4.cell qm_6
    clear hx4
    go_wp2_with fail
    refine (HCM1.out _ (by repeat (first | with_reducible exact Ext.refl _ | with_reducible assumption | with_reducible refine Ext.alloc ?_ _ | with_reducible refine Ext.drew ?_ | with_reducible refine Ext.drewN ?_ _ | with_reducible refine Ext.setCell ?_ (by simp <;> omega) _ | with_reducible refine Ext.trans ?_ (by assumption)))).mono ?_
    rintro e w5 ⟨rfl, hb5⟩
    have hx5 : Ext w4 w5 := by repeat (first | with_reducible exact Ext.refl _ | with_reducible assumption | with_reducible refine Ext.alloc ?_ _ | with_reducible refine Ext.drew ?_ | with_reducible refine Ext.drewN ?_ _ | with_reducible refine Ext.setCell ?_ (by simp <;> omega) _ | with_reducible refine Ext.trans ?_ (by assumption))
    replace qd_0 := hx5.cell qd_0
    replace qd_1 := hx5.cell qd_1
    replace qd_2 := hx5.cell qd_2
    replace qd_3 := hx5.cell qd_3
    replace qd_4 := hx5.cell qd_4
    replace qd_5 := hx5.cell qd_5
    replace zm_0 := hx5.frozen qm_0 zm_0
    replace qm_0 := hx5.cell qm_0
    replace zm_1 := hx5.frozen qm_1 zm_1
    replace qm_1 := hx5.cell qm_1
    replace zm_2 := hx5.frozen qm_2 zm_2
    replace qm_2 := hx5.cell qm_2
    replace zm_3 := hx5.frozen qm_3 zm_3
    replace qm_3 := hx5.cell qm_3
    replace zm_4 := hx5.frozen qm_4 zm_4
    replace qm_4 := hx5.cell qm_4
    replace zm_5 := hx5.frozen qm_5 zm_5
    replace qm_5 := hx5.cell qm_5
    replace zm_6 := hx5.frozen qm_6 zm_6
    replace qm_6 := hx5.cell qm_6
    clear hx5
    go_wp2_with fail
    refine (HCM2.out _ (by repeat (first | with_reducible exact Ext.refl _ | with_reducible assumption | with_reducible refine Ext.alloc ?_ _ | with_reducible refine Ext.drew ?_ | with_reducible refine Ext.drewN ?_ _ | with_reducible refine Ext.setCell ?_ (by simp <;> omega) _ | with_reducible refine Ext.trans ?_ (by assumption)))).mono ?_
    rintro e w6 ⟨rfl, hb6⟩
    have hx6 : Ext w5 w6 := by repeat (first | with_reducible exact Ext.refl _ | with_reducible assumption | with_reducible refine Ext.alloc ?_ _ | with_reducible refine Ext.drew ?_ | with_reducible refine Ext.drewN ?_ _ | with_reducible refine Ext.setCell ?_ (by simp <;> omega) _ | with_reducible refine Ext.trans ?_ (by assumption))
    replace qd_0 := hx6.cell qd_0
    replace qd_1 := hx6.cell qd_1
    replace qd_2 := hx6.cell qd_2
    replace qd_3 := hx6.cell qd_3
    replace qd_4 := hx6.cell qd_4
    replace qd_5 := hx6.cell qd_5
    replace zm_0 := hx6.frozen qm_0 zm_0
    replace qm_0 := hx6.cell qm_0
    replace zm_1 := hx6.frozen qm_1 zm_1
    replace qm_1 := hx6.cell qm_1
    replace zm_2 := hx6.frozen qm_2 zm_2
    replace qm_2 := hx6.cell qm_2
    replace zm_3 := hx6.frozen qm_3 zm_3
    replace qm_3 := hx6.cell qm_3
    replace zm_4 := hx6.frozen qm_4 zm_4
    replace qm_4 := hx6.cell qm_4
    replace zm_5 := hx6.frozen qm_5 zm_5
    replace qm_5 := hx6.cell qm_5
    replace zm_6 := hx6.frozen qm_6 zm_6
    replace qm_6 := hx6.cell qm_6
    clear hx6
    go_upto_region 17 with (fail)
    refine wp_freeE [.quiet, .quiet, .quiet, .quiet, .quiet, .quiet, .quiet, .quiet, .quiet, .new (.cells #[.int .i64 0, .bool false, .bool false, .int .u64 0, .int .i64 0, .int .i64 0, .int .i64 0] 24), .set 9 (.cells #[.int .i64 ms.r.C, .bool ms.r.P, .bool ms.r.H, .int .u64 ms.r.F, .int .i64 ms.r.N, .int .i64 ms.r.G, .int .i64 ms.r.U] 24), .quiet] [(9, 12)] 162 (by kernel_rfl) (by kernel_rfl) (by kernel_rfl) rfl ?hnew2 ?_
    case hnew2 =>
      intro i o op hr ho ρ w
      match i, hr, ho with
      | 0, hr, ho => exact absurd hr (by intro h; cases h)
      | 1, hr, ho => exact absurd hr (by intro h; cases h)
      | 2, hr, ho => exact absurd hr (by intro h; cases h)
      | 3, hr, ho => exact absurd hr (by intro h; cases h)
      | 4, hr, ho => exact absurd hr (by intro h; cases h)
      | 5, hr, ho => exact absurd hr (by intro h; cases h)
      | 6, hr, ho => exact absurd hr (by intro h; cases h)
      | 7, hr, ho => exact absurd hr (by intro h; cases h)
      | 8, hr, ho => exact absurd hr (by intro h; cases h)
      | 9, hr, ho => cases hr; cases ho; simp [go_sem]
      | 10, hr, ho => exact absurd hr (by intro h; cases h)
      | 11, hr, ho => exact absurd hr (by intro h; cases h)
      | i + 12, hr, ho => exact absurd hr (by intro h; cases h)
    apply Exists.intro
    refine ⟨?hwalk2, ?hset2, ?_⟩
    case hwalk2 =>
      intro F hF g0
      have hconst : ∀ p : Prop, (LaterF _ F → p) ↔ p := fun p => ⟨fun h => h g0, fun h _ => h⟩
      have ld_0 := fun (g : LaterF w6 F) => g.ok.cell qd_0
      have ld_1 := fun (g : LaterF w6 F) => g.ok.cell qd_1
      have ld_2 := fun (g : LaterF w6 F) => g.ok.cell qd_2
      have ld_3 := fun (g : LaterF w6 F) => g.ok.cell qd_3
      have ld_4 := fun (g : LaterF w6 F) => g.ok.cell qd_4
      have ld_5 := fun (g : LaterF w6 F) => g.ok.cell qd_5
      have lm_0 := fun (g : LaterF w6 F) => g.ok.cell qm_0
      have lm_1 := fun (g : LaterF w6 F) => g.ok.cell qm_1
      have lm_2 := fun (g : LaterF w6 F) => g.ok.cell qm_2
      have lm_3 := fun (g : LaterF w6 F) => g.ok.cell qm_3
      have lm_4 := fun (g : LaterF w6 F) => g.ok.cell qm_4
      have lm_5 := fun (g : LaterF w6 F) => g.ok.cell qm_5
      have lm_6 := fun (g : LaterF w6 F) => g.ok.cell qm_6
      simp only [keepQ]
      repeat (go_big_quiet_step ((fail)))
      go_big_quiet_step ((go_at_call 17; exact laterFC hF (HCMD.out _)))
      repeat (go_big_quiet_step ((fail)))
      exact wpQuiet_nil rfl
    case hset2 =>
      intro B i s o' op hr ho o hz w hw
      match i, hr, ho with
      | 0, hr, ho => exact absurd hr (by intro h; cases h)
      | 1, hr, ho => exact absurd hr (by intro h; cases h)
      | 2, hr, ho => exact absurd hr (by intro h; cases h)
      | 3, hr, ho => exact absurd hr (by intro h; cases h)
      | 4, hr, ho => exact absurd hr (by intro h; cases h)
      | 5, hr, ho => exact absurd hr (by intro h; cases h)
      | 6, hr, ho => exact absurd hr (by intro h; cases h)
      | 7, hr, ho => exact absurd hr (by intro h; cases h)
      | 8, hr, ho => exact absurd hr (by intro h; cases h)
      | 9, hr, ho => exact absurd hr (by intro h; cases h)
      | 10, hr, ho => cases hr; cases ho; cases hz; obtain ⟨⟨c0, c1, c2, c3, c4, c5, c6⟩, ⟨z0, z1, z2, z3, z4, z5, z6⟩, hh, hbut⟩ := store7 (.int .i64 ms.r.C) (.bool ms.r.P) (.bool ms.r.H) (.int .u64 ms.r.F) (.int .i64 ms.r.N) (.int .i64 ms.r.G) (.int .i64 ms.r.U) hw; exact ⟨.skip, _, by simp [go_sem, withNews, Act.put, c0, c1, c2, c3, c4, c5, c6, z0, z1, z2, z3, z4, z5, z6], .inl rfl, hh, hbut⟩
      | 11, hr, ho => exact absurd hr (by intro h; cases h)
      | i + 12, hr, ho => exact absurd hr (by intro h; cases h)
    intro B w7 hb7 hN2
    have hhv : w7.heap[B 9]? = some (.cells #[.int .i64 ms.r.C, .bool ms.r.P, .bool ms.r.H, .int .u64 ms.r.F, .int .i64 ms.r.N, .int .i64 ms.r.G, .int .i64 ms.r.U] 24) := hN2.holds 9 _ rfl rfl
    have hyv : w6.heap.size ≤ B 9 := hN2.beyond 9 _ rfl rfl
    clear hN2
    simp only [withNews, List.foldl_cons, List.foldl_nil, Act.put, List.setIfInBounds_toArray, List.set_cons_succ, List.set_cons_zero]
    generalize B 9 = bkv at *
    have hx7 : Ext w6 w7 := by repeat (first | with_reducible exact Ext.refl _ | with_reducible assumption | with_reducible refine Ext.alloc ?_ _ | with_reducible refine Ext.drew ?_ | with_reducible refine Ext.drewN ?_ _ | with_reducible refine Ext.setCell ?_ (by simp <;> omega) _ | with_reducible refine Ext.trans ?_ (by assumption))
    replace qd_0 := hx7.cell qd_0
    replace qd_1 := hx7.cell qd_1
    replace qd_2 := hx7.cell qd_2
    replace qd_3 := hx7.cell qd_3
    replace qd_4 := hx7.cell qd_4
    replace qd_5 := hx7.cell qd_5
    replace zm_0 := hx7.frozen qm_0 zm_0
    replace qm_0 := hx7.cell qm_0
    replace zm_1 := hx7.frozen qm_1 zm_1
    replace qm_1 := hx7.cell qm_1
    replace zm_2 := hx7.frozen qm_2 zm_2
    replace qm_2 := hx7.cell qm_2
    replace zm_3 := hx7.frozen qm_3 zm_3
    replace qm_3 := hx7.cell qm_3
    replace zm_4 := hx7.frozen qm_4 zm_4
    replace qm_4 := hx7.cell qm_4
    replace zm_5 := hx7.frozen qm_5 zm_5
    replace qm_5 := hx7.cell qm_5
    replace zm_6 := hx7.frozen qm_6 zm_6
    replace qm_6 := hx7.cell qm_6
    clear hx7
    have qv_0 := (cell_of_heap (j := 0) (v := .int .i64 ms.r.C) hhv rfl).1
    have qv_1 := (cell_of_heap (j := 1) (v := .bool ms.r.P) hhv rfl).1
    have qv_2 := (cell_of_heap (j := 2) (v := .bool ms.r.H) hhv rfl).1
    have qv_3 := (cell_of_heap (j := 3) (v := .int .u64 ms.r.F) hhv rfl).1
    have qv_4 := (cell_of_heap (j := 4) (v := .int .i64 ms.r.N) hhv rfl).1
    have qv_5 := (cell_of_heap (j := 5) (v := .int .i64 ms.r.G) hhv rfl).1
    have qv_6 := (cell_of_heap (j := 6) (v := .int .i64 ms.r.U) hhv rfl).1
    have pv := World.block_lt_of_cell? _ ⟨bkv, 0, none⟩ qv_0
    have rv := Nat.lt_succ_of_lt pv
    clear hhv hyv
    have E8 : Ext wr w7 := by repeat (first | with_reducible exact Ext.refl _ | with_reducible assumption | with_reducible refine Ext.alloc ?_ _ | with_reducible refine Ext.drew ?_ | with_reducible refine Ext.drewN ?_ _ | with_reducible refine Ext.setCell ?_ (by simp <;> omega) _ | with_reducible refine Ext.trans ?_ (by assumption))
    have E8w := HXT.out.trans E8
    have HX8 := Lib.hid (HHX.out.ext E8)
    have HY8 := Lib.hid (HHY.out.ext E8)
    have HM8 := Lib.hid (HHM.out.ext E8)
    go_upto_region 19 with (fail)
    refine settle_wp ?_
    intro vT hT
    have B7 := ((but_set7 w7 (w.heap.size + 1) (.int .i64 ms.r.C) (.bool ms.r.P) (.bool ms.r.H) (.int .u64 ms.r.F) (.int .i64 ms.r.N) (.int .i64 ms.r.G) (.int .i64 ms.r.U))).trans (hT.but _)
    have KXT := Lib.hid (HX8.out.but B7 NE.out.1)
    have KYT := Lib.hid (HY8.out.but B7 NE.out.2.1)
    have KMT := Lib.hid ((HM8.out.set ms.r).ext hT)
    have ET : Ext w vT := But.ext E8w B7 (fun i hi => by rw [hi]; exact Nat.le_succ _)
    have KET := Lib.hid ET
    clear hT B7 qd_0 qd_1 qd_2 qd_3 qd_4 qd_5 qm_0 qm_1 qm_2 qm_3 qm_4 qm_5 qm_6 zm_0 zm_1 zm_2 zm_3 zm_4 zm_5 zm_6 qv_0 qv_1 qv_2 qv_3 qv_4 qv_5 qv_6 E8 E8w
    obtain ⟨j0, j1, j2, j3, j4, j5⟩ := HC.out _ ET
    clear ET
    go_wp2_with fail
    refine (HCSM.out _ KXT.out).mono ?_
    rintro e vS ⟨rfl, HS, TS⟩
    have HMS := KMT.out.but TS NE.out.2.2.2.2.1
    have HYS := KYT.out.but TS NE.out.2.2.1
    have ES : Ext w vS := But.ext KET.out TS (fun i hi => by rw [hi]; exact NE.out.2.2.2.2.2.2.1)
    clear j0 j1 j2 j3 j4 j5
    obtain ⟨k0, k1, k2, k3, k4, k5⟩ := HC.out _ ES
    have KMS := Lib.hid HMS
    have KYS := Lib.hid HYS
    have KS := Lib.hid HS
    have KES := Lib.hid ES
    clear HMS HYS HS ES TS
    go_wp2_with fail
    refine (HCGR.out _ KYS.out).mono ?_
    rintro e vG ⟨rfl, HG, TG⟩
    have HMG := KMS.out.but TG NE.out.2.2.2.2.2.1
    have HXG := KS.out.but TG NE.out.2.2.2.1
    have EG : Ext w vG := But.ext KES.out TG (fun i hi => by rw [hi]; exact NE.out.2.2.2.2.2.2.2)
    have g0 := HMG.q0
    have g1 := HMG.q1
    have g2 := HMG.q2
    have g3 := HMG.q3
    have g4 := HMG.q4
    have g5 := HMG.q5
    have g6 := HMG.q6
    have KMG := Lib.hid HMG
    have KXG := Lib.hid HXG
    have KG := Lib.hid HG
    have KEG := Lib.hid EG
    clear HMG HXG HG EG TG k0 k1 k2 k3 k4 k5
    go_wp2_with fail
    refine (CAL.out _ KXG.out KG.out).mono ?_
    rintro e vL ⟨rfl, XL⟩
    have HXL := Lib.hid XL
    clear XL g0 g1 g2 g3 g4 g5 g6
    go_wp2
    exact ⟨⟨k + 1, by omega, by go_num, _, _, _, KXG.out.ext HXL.out, KG.out.ext HXL.out, HRS.out, KMG.out.ext HXL.out, KEG.out.trans HXL.out⟩, by simp [intOf]; omega⟩
theorem guardPlays_walk (C : Int) (pr hd : Bool) (f0 n0 g0 t0 s : Int) (a : Option Addr) (len cap : Nat) (ds : List GDo) (w : World) (wC : (Lit.int .i64 C).wf = true) (ws : (Lit.int .u64 s).wf = true) (hD : IsGDos w a len cap ds) :
    Calls Try.prog 3 #[.agg #[.int .i64 C, .bool pr, .bool hd, .int .u64 f0, .int .i64 n0, .int .i64 g0, .int .i64 t0], .int .u64 s, .slice a len cap] w fun e w' => e = .returned (.bool true) ∧ Below w.heap.size w w' := by
  obtain ⟨s0, s1⟩ := wf_u64 ws
  cases pr
  · cases hr : rightB C
    · exact plays_false_none C s hd f0 n0 g0 t0 a len cap ds w s0 s1 hD hr
    · by_cases h100 : 100 < len
      · exact plays_false_long C s hd f0 n0 g0 t0 a len cap ds w s0 s1 hD hr h100
      · exact plays_false C s hd f0 n0 g0 t0 a len cap ds w s0 s1 hD hr h100
  · cases hr : rightB C
    · exact plays_true_none C s hd f0 n0 g0 t0 a len cap ds w s0 s1 hD hr
    · by_cases h100 : 100 < len
      · exact plays_true_long C s hd f0 n0 g0 t0 a len cap ds w s0 s1 hD hr h100
      · exact plays_true C s hd f0 n0 g0 t0 a len cap ds w s0 s1 hD hr h100
end Go.Proofs.Ytoaifbengichbab

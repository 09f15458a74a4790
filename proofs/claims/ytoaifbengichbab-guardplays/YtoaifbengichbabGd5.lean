/- The document's handle: what it is told. -/
import Derived.Test.YtoaifbengichbabGd4
namespace Go.Proofs.Ytoaifbengichbab
open Go.RowKit
set_option linter.unusedVariables false
set_option linter.unusedSimpArgs false
set_option maxHeartbeats 2000000
attribute [local go_sem] later_cell later_frozen later_const
theorem rClaimed_P (C F N G U f n : Int) (P H : Bool) (w : World) (d0 : 0 ≤ U - G) (d1 : U - G ≤ 1073741824) (g0 : 0 ≤ G) (g1 : G ≤ 1099511627776) (hP : P = false) : Calls Try.prog 36 #[(.agg #[.int .i64 C, .bool P, .bool H, .int .u64 F, .int .i64 N, .int .i64 G, .int .i64 U]), .int .u64 f, .int .i64 n] w fun e w' => e = .returned (.tuple #[(.agg #[.int .i64 C, .bool false, .bool H, .int .u64 F, .int .i64 N, .int .i64 G, .int .i64 U]), .bool false]) ∧ Ext w w' := by
  subst hP
  go_enter Try.func36, Try.ntmps36
  go_wp2
  refine bodyPost_ret (v := .tuple #[(.agg #[.int .i64 C, .bool false, .bool H, .int .u64 F, .int .i64 N, .int .i64 G, .int .i64 U]), .bool false]) (by simp [results, Try.results36, go_sem]) rfl ⟨rfl, ?_⟩
  repeat (first | with_reducible exact Ext.refl _ | with_reducible assumption | with_reducible refine Ext.alloc ?_ _ | with_reducible refine Ext.drew ?_ | with_reducible refine Ext.drewN ?_ _ | with_reducible refine Ext.setCell ?_ (by simp <;> omega) _ | with_reducible refine Ext.trans ?_ (by assumption))
theorem rClaimed_H (C F N G U f n : Int) (P H : Bool) (w : World) (d0 : 0 ≤ U - G) (d1 : U - G ≤ 1073741824) (g0 : 0 ≤ G) (g1 : G ≤ 1099511627776) (hP : P = true) (hH : H = true) : Calls Try.prog 36 #[(.agg #[.int .i64 C, .bool P, .bool H, .int .u64 F, .int .i64 N, .int .i64 G, .int .i64 U]), .int .u64 f, .int .i64 n] w fun e w' => e = .returned (.tuple #[(.agg #[.int .i64 C, .bool true, .bool true, .int .u64 F, .int .i64 N, .int .i64 G, .int .i64 U]), .bool false]) ∧ Ext w w' := by
  subst hP hH
  go_enter Try.func36, Try.ntmps36
  go_wp2
  refine bodyPost_ret (v := .tuple #[(.agg #[.int .i64 C, .bool true, .bool true, .int .u64 F, .int .i64 N, .int .i64 G, .int .i64 U]), .bool false]) (by simp [results, Try.results36, go_sem]) rfl ⟨rfl, ?_⟩
  repeat (first | with_reducible exact Ext.refl _ | with_reducible assumption | with_reducible refine Ext.alloc ?_ _ | with_reducible refine Ext.drew ?_ | with_reducible refine Ext.drewN ?_ _ | with_reducible refine Ext.setCell ?_ (by simp <;> omega) _ | with_reducible refine Ext.trans ?_ (by assumption))
theorem rClaimed_lo (C F N G U f n : Int) (P H : Bool) (w : World) (d0 : 0 ≤ U - G) (d1 : U - G ≤ 1073741824) (g0 : 0 ≤ G) (g1 : G ≤ 1099511627776) (hP : P = true) (hH : H = false) (h : n < 1) : Calls Try.prog 36 #[(.agg #[.int .i64 C, .bool P, .bool H, .int .u64 F, .int .i64 N, .int .i64 G, .int .i64 U]), .int .u64 f, .int .i64 n] w fun e w' => e = .returned (.tuple #[(.agg #[.int .i64 C, .bool true, .bool false, .int .u64 F, .int .i64 N, .int .i64 G, .int .i64 U]), .bool false]) ∧ Ext w w' := by
  subst hP hH
  have d : decide (n < 1) = true := by simpa using h
  go_enter Try.func36, Try.ntmps36
  go_wp2
  refine bodyPost_ret (v := .tuple #[(.agg #[.int .i64 C, .bool true, .bool false, .int .u64 F, .int .i64 N, .int .i64 G, .int .i64 U]), .bool false]) (by simp [results, Try.results36, go_sem]) rfl ⟨rfl, ?_⟩
  repeat (first | with_reducible exact Ext.refl _ | with_reducible assumption | with_reducible refine Ext.alloc ?_ _ | with_reducible refine Ext.drew ?_ | with_reducible refine Ext.drewN ?_ _ | with_reducible refine Ext.setCell ?_ (by simp <;> omega) _ | with_reducible refine Ext.trans ?_ (by assumption))
theorem rClaimed_hi (C F N G U f n : Int) (P H : Bool) (w : World) (d0 : 0 ≤ U - G) (d1 : U - G ≤ 1073741824) (g0 : 0 ≤ G) (g1 : G ≤ 1099511627776) (hP : P = true) (hH : H = false) (h : ¬ n < 1) (h2 : C < n) : Calls Try.prog 36 #[(.agg #[.int .i64 C, .bool P, .bool H, .int .u64 F, .int .i64 N, .int .i64 G, .int .i64 U]), .int .u64 f, .int .i64 n] w fun e w' => e = .returned (.tuple #[(.agg #[.int .i64 C, .bool true, .bool false, .int .u64 F, .int .i64 N, .int .i64 G, .int .i64 U]), .bool false]) ∧ Ext w w' := by
  subst hP hH
  have d : decide (n < 1) = false := by simpa using h
  have d2 : decide (C < n) = true := by simpa using h2
  go_enter Try.func36, Try.ntmps36
  go_wp2
  refine bodyPost_ret (v := .tuple #[(.agg #[.int .i64 C, .bool true, .bool false, .int .u64 F, .int .i64 N, .int .i64 G, .int .i64 U]), .bool false]) (by simp [results, Try.results36, go_sem]) rfl ⟨rfl, ?_⟩
  repeat (first | with_reducible exact Ext.refl _ | with_reducible assumption | with_reducible refine Ext.alloc ?_ _ | with_reducible refine Ext.drew ?_ | with_reducible refine Ext.drewN ?_ _ | with_reducible refine Ext.setCell ?_ (by simp <;> omega) _ | with_reducible refine Ext.trans ?_ (by assumption))
theorem rClaimed_ok (C F N G U f n : Int) (P H : Bool) (w : World) (d0 : 0 ≤ U - G) (d1 : U - G ≤ 1073741824) (g0 : 0 ≤ G) (g1 : G ≤ 1099511627776) (hP : P = true) (hH : H = false) (h : ¬ n < 1) (h2 : ¬ C < n) : Calls Try.prog 36 #[(.agg #[.int .i64 C, .bool P, .bool H, .int .u64 F, .int .i64 N, .int .i64 G, .int .i64 U]), .int .u64 f, .int .i64 n] w fun e w' => e = .returned (.tuple #[(.agg #[.int .i64 C, .bool true, .bool true, .int .u64 f, .int .i64 n, .int .i64 G, .int .i64 U]), .bool true]) ∧ Ext w w' := by
  subst hP hH
  have d : decide (n < 1) = false := by simpa using h
  have d2 : decide (C < n) = false := by simpa using h2
  go_enter Try.func36, Try.ntmps36
  go_wp2
  refine bodyPost_ret (v := .tuple #[(.agg #[.int .i64 C, .bool true, .bool true, .int .u64 f, .int .i64 n, .int .i64 G, .int .i64 U]), .bool true]) (by simp [results, Try.results36, go_sem]) rfl ⟨rfl, ?_⟩
  repeat (first | with_reducible exact Ext.refl _ | with_reducible assumption | with_reducible refine Ext.alloc ?_ _ | with_reducible refine Ext.drew ?_ | with_reducible refine Ext.drewN ?_ _ | with_reducible refine Ext.setCell ?_ (by simp <;> omega) _ | with_reducible refine Ext.trans ?_ (by assumption))
theorem rPublished_no (C F N G U zz : Int) (P H : Bool) (w : World) (d0 : 0 ≤ U - G) (d1 : U - G ≤ 1073741824) (g0 : 0 ≤ G) (g1 : G ≤ 1099511627776) (hH : H = false) : Calls Try.prog 37 #[(.agg #[.int .i64 C, .bool P, .bool H, .int .u64 F, .int .i64 N, .int .i64 G, .int .i64 U])] w fun e w' => e = .returned (.tuple #[(.agg #[.int .i64 C, .bool P, .bool false, .int .u64 F, .int .i64 N, .int .i64 G, .int .i64 U]), .bool false]) ∧ Ext w w' := by
  subst hH
  go_enter Try.func37, Try.ntmps37
  go_wp2
  refine bodyPost_ret (v := .tuple #[(.agg #[.int .i64 C, .bool P, .bool false, .int .u64 F, .int .i64 N, .int .i64 G, .int .i64 U]), .bool false]) (by simp [results, Try.results37, go_sem]) rfl ⟨rfl, ?_⟩
  repeat (first | with_reducible exact Ext.refl _ | with_reducible assumption | with_reducible refine Ext.alloc ?_ _ | with_reducible refine Ext.drew ?_ | with_reducible refine Ext.drewN ?_ _ | with_reducible refine Ext.setCell ?_ (by simp <;> omega) _ | with_reducible refine Ext.trans ?_ (by assumption))
theorem rPublished_ok (C F N G U zz : Int) (P H : Bool) (w : World) (d0 : 0 ≤ U - G) (d1 : U - G ≤ 1073741824) (g0 : 0 ≤ G) (g1 : G ≤ 1099511627776) (hH : H = true) : Calls Try.prog 37 #[(.agg #[.int .i64 C, .bool P, .bool H, .int .u64 F, .int .i64 N, .int .i64 G, .int .i64 U])] w fun e w' => e = .returned (.tuple #[(.agg #[.int .i64 C, .bool P, .bool false, .int .u64 0, .int .i64 0, .int .i64 G, .int .i64 U]), .bool true]) ∧ Ext w w' := by
  subst hH
  go_enter Try.func37, Try.ntmps37
  go_wp2
  refine bodyPost_ret (v := .tuple #[(.agg #[.int .i64 C, .bool P, .bool false, .int .u64 0, .int .i64 0, .int .i64 G, .int .i64 U]), .bool true]) (by simp [results, Try.results37, go_sem]) rfl ⟨rfl, ?_⟩
  repeat (first | with_reducible exact Ext.refl _ | with_reducible assumption | with_reducible refine Ext.alloc ?_ _ | with_reducible refine Ext.drew ?_ | with_reducible refine Ext.drewN ?_ _ | with_reducible refine Ext.setCell ?_ (by simp <;> omega) _ | with_reducible refine Ext.trans ?_ (by assumption))
theorem rSaw_P (C F N G U n : Int) (P H : Bool) (w : World) (d0 : 0 ≤ U - G) (d1 : U - G ≤ 1073741824) (g0 : 0 ≤ G) (g1 : G ≤ 1099511627776) (hP : P = true) : Calls Try.prog 38 #[(.agg #[.int .i64 C, .bool P, .bool H, .int .u64 F, .int .i64 N, .int .i64 G, .int .i64 U]), .int .i64 n] w fun e w' => e = .returned (.tuple #[(.agg #[.int .i64 C, .bool true, .bool H, .int .u64 F, .int .i64 N, .int .i64 G, .int .i64 U]), .bool false]) ∧ Ext w w' := by
  subst hP
  go_enter Try.func38, Try.ntmps38
  go_wp2
  refine bodyPost_ret (v := .tuple #[(.agg #[.int .i64 C, .bool true, .bool H, .int .u64 F, .int .i64 N, .int .i64 G, .int .i64 U]), .bool false]) (by simp [results, Try.results38, go_sem]) rfl ⟨rfl, ?_⟩
  repeat (first | with_reducible exact Ext.refl _ | with_reducible assumption | with_reducible refine Ext.alloc ?_ _ | with_reducible refine Ext.drew ?_ | with_reducible refine Ext.drewN ?_ _ | with_reducible refine Ext.setCell ?_ (by simp <;> omega) _ | with_reducible refine Ext.trans ?_ (by assumption))
theorem rSaw_lo (C F N G U n : Int) (P H : Bool) (w : World) (d0 : 0 ≤ U - G) (d1 : U - G ≤ 1073741824) (g0 : 0 ≤ G) (g1 : G ≤ 1099511627776) (hP : P = false) (h : n < U - G) : Calls Try.prog 38 #[(.agg #[.int .i64 C, .bool P, .bool H, .int .u64 F, .int .i64 N, .int .i64 G, .int .i64 U]), .int .i64 n] w fun e w' => e = .returned (.tuple #[(.agg #[.int .i64 C, .bool false, .bool H, .int .u64 F, .int .i64 N, .int .i64 G, .int .i64 U]), .bool false]) ∧ Ext w w' := by
  subst hP
  have d : decide (n < U - G) = true := by simpa using h
  go_enter Try.func38, Try.ntmps38
  go_wp2
  refine bodyPost_ret (v := .tuple #[(.agg #[.int .i64 C, .bool false, .bool H, .int .u64 F, .int .i64 N, .int .i64 G, .int .i64 U]), .bool false]) (by simp [results, Try.results38, go_sem]) rfl ⟨rfl, ?_⟩
  repeat (first | with_reducible exact Ext.refl _ | with_reducible assumption | with_reducible refine Ext.alloc ?_ _ | with_reducible refine Ext.drew ?_ | with_reducible refine Ext.drewN ?_ _ | with_reducible refine Ext.setCell ?_ (by simp <;> omega) _ | with_reducible refine Ext.trans ?_ (by assumption))
theorem rSaw_hi (C F N G U n : Int) (P H : Bool) (w : World) (d0 : 0 ≤ U - G) (d1 : U - G ≤ 1073741824) (g0 : 0 ≤ G) (g1 : G ≤ 1099511627776) (hP : P = false) (h : ¬ n < U - G) (h2 : C < n) : Calls Try.prog 38 #[(.agg #[.int .i64 C, .bool P, .bool H, .int .u64 F, .int .i64 N, .int .i64 G, .int .i64 U]), .int .i64 n] w fun e w' => e = .returned (.tuple #[(.agg #[.int .i64 C, .bool false, .bool H, .int .u64 F, .int .i64 N, .int .i64 G, .int .i64 U]), .bool false]) ∧ Ext w w' := by
  subst hP
  have d : decide (n < U - G) = false := by simpa using h
  have d2 : decide (C < n) = true := by simpa using h2
  go_enter Try.func38, Try.ntmps38
  go_wp2
  refine bodyPost_ret (v := .tuple #[(.agg #[.int .i64 C, .bool false, .bool H, .int .u64 F, .int .i64 N, .int .i64 G, .int .i64 U]), .bool false]) (by simp [results, Try.results38, go_sem]) rfl ⟨rfl, ?_⟩
  repeat (first | with_reducible exact Ext.refl _ | with_reducible assumption | with_reducible refine Ext.alloc ?_ _ | with_reducible refine Ext.drew ?_ | with_reducible refine Ext.drewN ?_ _ | with_reducible refine Ext.setCell ?_ (by simp <;> omega) _ | with_reducible refine Ext.trans ?_ (by assumption))
theorem rSaw_ok (C F N G U n : Int) (P H : Bool) (w : World) (d0 : 0 ≤ U - G) (d1 : U - G ≤ 1073741824) (g0 : 0 ≤ G) (g1 : G ≤ 1099511627776) (hP : P = false) (hC : C ≤ 1073741824) (h : ¬ n < U - G) (h2 : ¬ C < n) : Calls Try.prog 38 #[(.agg #[.int .i64 C, .bool P, .bool H, .int .u64 F, .int .i64 N, .int .i64 G, .int .i64 U]), .int .i64 n] w fun e w' => e = .returned (.tuple #[(.agg #[.int .i64 C, .bool false, .bool H, .int .u64 F, .int .i64 N, .int .i64 G, .int .i64 (G + n)]), .bool true]) ∧ Ext w w' := by
  subst hP
  have d : decide (n < U - G) = false := by simpa using h
  have d2 : decide (C < n) = false := by simpa using h2
  go_enter Try.func38, Try.ntmps38
  go_wp2
  refine bodyPost_ret (v := .tuple #[(.agg #[.int .i64 C, .bool false, .bool H, .int .u64 F, .int .i64 N, .int .i64 G, .int .i64 (G + n)]), .bool true]) (by simp [results, Try.results38, go_sem]) rfl ⟨rfl, ?_⟩
  repeat (first | with_reducible exact Ext.refl _ | with_reducible assumption | with_reducible refine Ext.alloc ?_ _ | with_reducible refine Ext.drew ?_ | with_reducible refine Ext.drewN ?_ _ | with_reducible refine Ext.setCell ?_ (by simp <;> omega) _ | with_reducible refine Ext.trans ?_ (by assumption))
theorem rReleased_lo (C F N G U n : Int) (P H : Bool) (w : World) (d0 : 0 ≤ U - G) (d1 : U - G ≤ 1073741824) (g0 : 0 ≤ G) (g1 : G ≤ 1099511627776) (h : n < 1) : Calls Try.prog 39 #[(.agg #[.int .i64 C, .bool P, .bool H, .int .u64 F, .int .i64 N, .int .i64 G, .int .i64 U]), .int .i64 n] w fun e w' => e = .returned (.tuple #[(.agg #[.int .i64 C, .bool P, .bool H, .int .u64 F, .int .i64 N, .int .i64 G, .int .i64 U]), .bool false]) ∧ Ext w w' := by
  have d : decide (n < 1) = true := by simpa using h
  go_enter Try.func39, Try.ntmps39
  go_wp2
  refine bodyPost_ret (v := .tuple #[(.agg #[.int .i64 C, .bool P, .bool H, .int .u64 F, .int .i64 N, .int .i64 G, .int .i64 U]), .bool false]) (by simp [results, Try.results39, go_sem]) rfl ⟨rfl, ?_⟩
  repeat (first | with_reducible exact Ext.refl _ | with_reducible assumption | with_reducible refine Ext.alloc ?_ _ | with_reducible refine Ext.drew ?_ | with_reducible refine Ext.drewN ?_ _ | with_reducible refine Ext.setCell ?_ (by simp <;> omega) _ | with_reducible refine Ext.trans ?_ (by assumption))
theorem rReleased_hi (C F N G U n : Int) (P H : Bool) (w : World) (d0 : 0 ≤ U - G) (d1 : U - G ≤ 1073741824) (g0 : 0 ≤ G) (g1 : G ≤ 1099511627776) (h : ¬ n < 1) (h2 : U - G < n) : Calls Try.prog 39 #[(.agg #[.int .i64 C, .bool P, .bool H, .int .u64 F, .int .i64 N, .int .i64 G, .int .i64 U]), .int .i64 n] w fun e w' => e = .returned (.tuple #[(.agg #[.int .i64 C, .bool P, .bool H, .int .u64 F, .int .i64 N, .int .i64 G, .int .i64 U]), .bool false]) ∧ Ext w w' := by
  have d : decide (n < 1) = false := by simpa using h
  have d2 : decide (U - G < n) = true := by simpa using h2
  go_enter Try.func39, Try.ntmps39
  go_wp2
  refine bodyPost_ret (v := .tuple #[(.agg #[.int .i64 C, .bool P, .bool H, .int .u64 F, .int .i64 N, .int .i64 G, .int .i64 U]), .bool false]) (by simp [results, Try.results39, go_sem]) rfl ⟨rfl, ?_⟩
  repeat (first | with_reducible exact Ext.refl _ | with_reducible assumption | with_reducible refine Ext.alloc ?_ _ | with_reducible refine Ext.drew ?_ | with_reducible refine Ext.drewN ?_ _ | with_reducible refine Ext.setCell ?_ (by simp <;> omega) _ | with_reducible refine Ext.trans ?_ (by assumption))
theorem rReleased_ok (C F N G U n : Int) (P H : Bool) (w : World) (d0 : 0 ≤ U - G) (d1 : U - G ≤ 1073741824) (g0 : 0 ≤ G) (g1 : G ≤ 1099511627776) (h : ¬ n < 1) (h2 : ¬ U - G < n) : Calls Try.prog 39 #[(.agg #[.int .i64 C, .bool P, .bool H, .int .u64 F, .int .i64 N, .int .i64 G, .int .i64 U]), .int .i64 n] w fun e w' => e = .returned (.tuple #[(.agg #[.int .i64 C, .bool P, .bool H, .int .u64 F, .int .i64 N, .int .i64 (G + n), .int .i64 U]), .bool true]) ∧ Ext w w' := by
  have d : decide (n < 1) = false := by simpa using h
  have d2 : decide (U - G < n) = false := by simpa using h2
  go_enter Try.func39, Try.ntmps39
  go_wp2
  refine bodyPost_ret (v := .tuple #[(.agg #[.int .i64 C, .bool P, .bool H, .int .u64 F, .int .i64 N, .int .i64 (G + n), .int .i64 U]), .bool true]) (by simp [results, Try.results39, go_sem]) rfl ⟨rfl, ?_⟩
  repeat (first | with_reducible exact Ext.refl _ | with_reducible assumption | with_reducible refine Ext.alloc ?_ _ | with_reducible refine Ext.drew ?_ | with_reducible refine Ext.drewN ?_ _ | with_reducible refine Ext.setCell ?_ (by simp <;> omega) _ | with_reducible refine Ext.trans ?_ (by assumption))
theorem rClaimed (r : RH) (f n : Int) (w : World) (S : Sm r) : Calls Try.prog 36 #[(.agg #[.int .i64 r.C, .bool r.P, .bool r.H, .int .u64 r.F, .int .i64 r.N, .int .i64 r.G, .int .i64 r.U]), .int .u64 f, .int .i64 n] w fun e w' => e = .returned (.tuple #[(.agg #[.int .i64 (claimedR r f n).r.C, .bool (claimedR r f n).r.P, .bool (claimedR r f n).r.H, .int .u64 (claimedR r f n).r.F, .int .i64 (claimedR r f n).r.N, .int .i64 (claimedR r f n).r.G, .int .i64 (claimedR r f n).r.U]), .bool (claimedR r f n).ok]) ∧ Ext w w' := by
  unfold claimedR
  obtain ⟨C, P, H, F, N, G, U⟩ := r
  cases P
  case false => rw [if_pos (.inl rfl)]; exact rClaimed_P C F N G U f n _ _ w S.d0 (Int.le_trans S.d1 S.c1) S.g0 S.g1 rfl
  cases H
  case true => rw [if_pos (.inr (.inl rfl))]; exact rClaimed_H C F N G U f n _ _ w S.d0 (Int.le_trans S.d1 S.c1) S.g0 S.g1 rfl rfl
  by_cases h : n < 1
  · rw [if_pos (.inr (.inr (.inl h)))]; exact rClaimed_lo C F N G U f n _ _ w S.d0 (Int.le_trans S.d1 S.c1) S.g0 S.g1 rfl rfl h
  by_cases h2 : C < n
  · rw [if_pos (.inr (.inr (.inr h2)))]; exact rClaimed_hi C F N G U f n _ _ w S.d0 (Int.le_trans S.d1 S.c1) S.g0 S.g1 rfl rfl h h2
  rw [if_neg (by simp; omega)]
  exact rClaimed_ok C F N G U f n _ _ w S.d0 (Int.le_trans S.d1 S.c1) S.g0 S.g1 rfl rfl h h2
theorem rPublished (r : RH) (w : World) (S : Sm r) : Calls Try.prog 37 #[(.agg #[.int .i64 r.C, .bool r.P, .bool r.H, .int .u64 r.F, .int .i64 r.N, .int .i64 r.G, .int .i64 r.U])] w fun e w' => e = .returned (.tuple #[(.agg #[.int .i64 (publishedR r).r.C, .bool (publishedR r).r.P, .bool (publishedR r).r.H, .int .u64 (publishedR r).r.F, .int .i64 (publishedR r).r.N, .int .i64 (publishedR r).r.G, .int .i64 (publishedR r).r.U]), .bool (publishedR r).ok]) ∧ Ext w w' := by
  unfold publishedR
  obtain ⟨C, P, H, F, N, G, U⟩ := r
  cases H
  case false => rw [if_neg (by simp)]; exact rPublished_no C F N G U 0 _ _ w S.d0 (Int.le_trans S.d1 S.c1) S.g0 S.g1 rfl
  rw [if_pos rfl]
  exact rPublished_ok C F N G U 0 _ _ w S.d0 (Int.le_trans S.d1 S.c1) S.g0 S.g1 rfl
theorem rSaw (r : RH) (n : Int) (w : World) (S : Sm r) : Calls Try.prog 38 #[(.agg #[.int .i64 r.C, .bool r.P, .bool r.H, .int .u64 r.F, .int .i64 r.N, .int .i64 r.G, .int .i64 r.U]), .int .i64 n] w fun e w' => e = .returned (.tuple #[(.agg #[.int .i64 (sawR r n).r.C, .bool (sawR r n).r.P, .bool (sawR r n).r.H, .int .u64 (sawR r n).r.F, .int .i64 (sawR r n).r.N, .int .i64 (sawR r n).r.G, .int .i64 (sawR r n).r.U]), .bool (sawR r n).ok]) ∧ Ext w w' := by
  unfold sawR
  obtain ⟨C, P, H, F, N, G, U⟩ := r
  cases P
  case true => rw [if_pos (.inl rfl)]; exact rSaw_P C F N G U n _ _ w S.d0 (Int.le_trans S.d1 S.c1) S.g0 S.g1 rfl
  by_cases h : n < U - G
  · rw [if_pos (.inr (.inl h))]; exact rSaw_lo C F N G U n _ _ w S.d0 (Int.le_trans S.d1 S.c1) S.g0 S.g1 rfl h
  by_cases h2 : C < n
  · rw [if_pos (.inr (.inr h2))]; exact rSaw_hi C F N G U n _ _ w S.d0 (Int.le_trans S.d1 S.c1) S.g0 S.g1 rfl h h2
  rw [if_neg (by simp; omega)]
  exact rSaw_ok C F N G U n _ _ w S.d0 (Int.le_trans S.d1 S.c1) S.g0 S.g1 rfl S.c1 h h2
theorem rReleased (r : RH) (n : Int) (w : World) (S : Sm r) : Calls Try.prog 39 #[(.agg #[.int .i64 r.C, .bool r.P, .bool r.H, .int .u64 r.F, .int .i64 r.N, .int .i64 r.G, .int .i64 r.U]), .int .i64 n] w fun e w' => e = .returned (.tuple #[(.agg #[.int .i64 (releasedR r n).r.C, .bool (releasedR r n).r.P, .bool (releasedR r n).r.H, .int .u64 (releasedR r n).r.F, .int .i64 (releasedR r n).r.N, .int .i64 (releasedR r n).r.G, .int .i64 (releasedR r n).r.U]), .bool (releasedR r n).ok]) ∧ Ext w w' := by
  unfold releasedR
  obtain ⟨C, P, H, F, N, G, U⟩ := r
  by_cases h : n < 1
  · rw [if_pos (.inl h)]; exact rReleased_lo C F N G U n _ _ w S.d0 (Int.le_trans S.d1 S.c1) S.g0 S.g1 h
  by_cases h2 : U - G < n
  · rw [if_pos (.inr h2)]; exact rReleased_hi C F N G U n _ _ w S.d0 (Int.le_trans S.d1 S.c1) S.g0 S.g1 h h2
  rw [if_neg (by simp; omega)]
  exact rReleased_ok C F N G U n _ _ w S.d0 (Int.le_trans S.d1 S.c1) S.g0 S.g1 h h2
theorem model_ok (r : RH) (k n p op m : Int) (u : Value) (w : World) (S : Sm r) (p0 : 0 ≤ p) (p1 : p < 18446744073709551616) : Calls Try.prog 17 #[(.agg #[.int .i64 r.C, .bool r.P, .bool r.H, .int .u64 r.F, .int .i64 r.N, .int .i64 r.G, .int .i64 r.U]), .agg #[.int .i64 k, .int .i64 n, .int .u64 p, .int .i64 op, .int .i64 m, u]] w fun e w' => e = .returned (.tuple #[(.agg #[.int .i64 (mstp r k n p).r.C, .bool (mstp r k n p).r.P, .bool (mstp r k n p).r.H, .int .u64 (mstp r k n p).r.F, .int .i64 (mstp r k n p).r.N, .int .i64 (mstp r k n p).r.G, .int .i64 (mstp r k n p).r.U]), .bool (mstp r k n p).ok]) ∧ Ext w w' := by
  by_cases h1 : k = 1
  · subst h1
    rw [show mstp r 1 n p = claimedR r p n from rfl]
    have CC := Lib.hid (fun w => rClaimed r p n w S)
    generalize claimedR r p n = s at *
    go_enter Try.func17, Try.ntmps17
    go_wp2_with fail
    refine (CC.out _).mono ?_
    rintro e w1 ⟨rfl, hb1⟩
    obtain ⟨hc1, hf1⟩ := hb1.cells
    clear hc1 hf1
    have qr_0 : w1.cell? ⟨w.heap.size + 1 + 1, 0, none⟩ = some (.int .i64 0) := (hb1.cells.1 _ _ (by simp <;> omega)).trans (by simp [go_sem])
    have zr_0 : w1.frozen? ⟨w.heap.size + 1 + 1, 0, none⟩ = false := (hb1.cells.2 _ _ (by simp <;> omega)).trans (by simp [go_sem])
    have qr_1 : w1.cell? ⟨w.heap.size + 1 + 1, 1, none⟩ = some (.bool false) := (hb1.cells.1 _ _ (by simp <;> omega)).trans (by simp [go_sem])
    have zr_1 : w1.frozen? ⟨w.heap.size + 1 + 1, 1, none⟩ = false := (hb1.cells.2 _ _ (by simp <;> omega)).trans (by simp [go_sem])
    have qr_2 : w1.cell? ⟨w.heap.size + 1 + 1, 2, none⟩ = some (.bool false) := (hb1.cells.1 _ _ (by simp <;> omega)).trans (by simp [go_sem])
    have zr_2 : w1.frozen? ⟨w.heap.size + 1 + 1, 2, none⟩ = false := (hb1.cells.2 _ _ (by simp <;> omega)).trans (by simp [go_sem])
    have qr_3 : w1.cell? ⟨w.heap.size + 1 + 1, 3, none⟩ = some (.int .u64 0) := (hb1.cells.1 _ _ (by simp <;> omega)).trans (by simp [go_sem])
    have zr_3 : w1.frozen? ⟨w.heap.size + 1 + 1, 3, none⟩ = false := (hb1.cells.2 _ _ (by simp <;> omega)).trans (by simp [go_sem])
    have qr_4 : w1.cell? ⟨w.heap.size + 1 + 1, 4, none⟩ = some (.int .i64 0) := (hb1.cells.1 _ _ (by simp <;> omega)).trans (by simp [go_sem])
    have zr_4 : w1.frozen? ⟨w.heap.size + 1 + 1, 4, none⟩ = false := (hb1.cells.2 _ _ (by simp <;> omega)).trans (by simp [go_sem])
    have qr_5 : w1.cell? ⟨w.heap.size + 1 + 1, 5, none⟩ = some (.int .i64 0) := (hb1.cells.1 _ _ (by simp <;> omega)).trans (by simp [go_sem])
    have zr_5 : w1.frozen? ⟨w.heap.size + 1 + 1, 5, none⟩ = false := (hb1.cells.2 _ _ (by simp <;> omega)).trans (by simp [go_sem])
    have qr_6 : w1.cell? ⟨w.heap.size + 1 + 1, 6, none⟩ = some (.int .i64 0) := (hb1.cells.1 _ _ (by simp <;> omega)).trans (by simp [go_sem])
    have zr_6 : w1.frozen? ⟨w.heap.size + 1 + 1, 6, none⟩ = false := (hb1.cells.2 _ _ (by simp <;> omega)).trans (by simp [go_sem])
    have pr := World.block_lt_of_cell? _ ⟨w.heap.size + 1 + 1, 0, none⟩ qr_0
    have rr := Nat.lt_succ_of_lt pr
    go_wp2
    refine bodyPost_ret (v := (.tuple #[(.agg #[.int .i64 (s).r.C, .bool (s).r.P, .bool (s).r.H, .int .u64 (s).r.F, .int .i64 (s).r.N, .int .i64 (s).r.G, .int .i64 (s).r.U]), .bool (s).ok])) (by simp [results, Try.results17, go_sem, qr_0, qr_1, qr_2, qr_3, qr_4, qr_5, qr_6]) rfl ⟨rfl, ?_⟩
    repeat (first | with_reducible exact Ext.refl _ | with_reducible assumption | with_reducible refine Ext.alloc ?_ _ | with_reducible refine Ext.drew ?_ | with_reducible refine Ext.drewN ?_ _ | with_reducible refine Ext.setCell ?_ (by simp <;> omega) _ | with_reducible refine Ext.trans ?_ (by assumption))
  have e1 : (k == 1) = false := by simpa using h1
  by_cases h2 : k = 2
  · subst h2
    rw [show mstp r 2 n p = publishedR r from rfl]
    have CC := Lib.hid (fun w => rPublished r w S)
    generalize publishedR r = s at *
    go_enter Try.func17, Try.ntmps17
    go_wp2_with fail
    refine (CC.out _).mono ?_
    rintro e w2 ⟨rfl, hb2⟩
    obtain ⟨hc2, hf2⟩ := hb2.cells
    clear hc2 hf2
    have qr_0 : w2.cell? ⟨w.heap.size + 1 + 1, 0, none⟩ = some (.int .i64 0) := (hb2.cells.1 _ _ (by simp <;> omega)).trans (by simp [go_sem])
    have zr_0 : w2.frozen? ⟨w.heap.size + 1 + 1, 0, none⟩ = false := (hb2.cells.2 _ _ (by simp <;> omega)).trans (by simp [go_sem])
    have qr_1 : w2.cell? ⟨w.heap.size + 1 + 1, 1, none⟩ = some (.bool false) := (hb2.cells.1 _ _ (by simp <;> omega)).trans (by simp [go_sem])
    have zr_1 : w2.frozen? ⟨w.heap.size + 1 + 1, 1, none⟩ = false := (hb2.cells.2 _ _ (by simp <;> omega)).trans (by simp [go_sem])
    have qr_2 : w2.cell? ⟨w.heap.size + 1 + 1, 2, none⟩ = some (.bool false) := (hb2.cells.1 _ _ (by simp <;> omega)).trans (by simp [go_sem])
    have zr_2 : w2.frozen? ⟨w.heap.size + 1 + 1, 2, none⟩ = false := (hb2.cells.2 _ _ (by simp <;> omega)).trans (by simp [go_sem])
    have qr_3 : w2.cell? ⟨w.heap.size + 1 + 1, 3, none⟩ = some (.int .u64 0) := (hb2.cells.1 _ _ (by simp <;> omega)).trans (by simp [go_sem])
    have zr_3 : w2.frozen? ⟨w.heap.size + 1 + 1, 3, none⟩ = false := (hb2.cells.2 _ _ (by simp <;> omega)).trans (by simp [go_sem])
    have qr_4 : w2.cell? ⟨w.heap.size + 1 + 1, 4, none⟩ = some (.int .i64 0) := (hb2.cells.1 _ _ (by simp <;> omega)).trans (by simp [go_sem])
    have zr_4 : w2.frozen? ⟨w.heap.size + 1 + 1, 4, none⟩ = false := (hb2.cells.2 _ _ (by simp <;> omega)).trans (by simp [go_sem])
    have qr_5 : w2.cell? ⟨w.heap.size + 1 + 1, 5, none⟩ = some (.int .i64 0) := (hb2.cells.1 _ _ (by simp <;> omega)).trans (by simp [go_sem])
    have zr_5 : w2.frozen? ⟨w.heap.size + 1 + 1, 5, none⟩ = false := (hb2.cells.2 _ _ (by simp <;> omega)).trans (by simp [go_sem])
    have qr_6 : w2.cell? ⟨w.heap.size + 1 + 1, 6, none⟩ = some (.int .i64 0) := (hb2.cells.1 _ _ (by simp <;> omega)).trans (by simp [go_sem])
    have zr_6 : w2.frozen? ⟨w.heap.size + 1 + 1, 6, none⟩ = false := (hb2.cells.2 _ _ (by simp <;> omega)).trans (by simp [go_sem])
    have pr := World.block_lt_of_cell? _ ⟨w.heap.size + 1 + 1, 0, none⟩ qr_0
    have rr := Nat.lt_succ_of_lt pr
    go_wp2
    refine bodyPost_ret (v := (.tuple #[(.agg #[.int .i64 (s).r.C, .bool (s).r.P, .bool (s).r.H, .int .u64 (s).r.F, .int .i64 (s).r.N, .int .i64 (s).r.G, .int .i64 (s).r.U]), .bool (s).ok])) (by simp [results, Try.results17, go_sem, qr_0, qr_1, qr_2, qr_3, qr_4, qr_5, qr_6]) rfl ⟨rfl, ?_⟩
    repeat (first | with_reducible exact Ext.refl _ | with_reducible assumption | with_reducible refine Ext.alloc ?_ _ | with_reducible refine Ext.drew ?_ | with_reducible refine Ext.drewN ?_ _ | with_reducible refine Ext.setCell ?_ (by simp <;> omega) _ | with_reducible refine Ext.trans ?_ (by assumption))
  have e2 : (k == 2) = false := by simpa using h2
  by_cases h3 : k = 3
  · subst h3
    rw [show mstp r 3 n p = sawR r n from rfl]
    have CC := Lib.hid (fun w => rSaw r n w S)
    generalize sawR r n = s at *
    go_enter Try.func17, Try.ntmps17
    go_wp2_with fail
    refine (CC.out _).mono ?_
    rintro e w3 ⟨rfl, hb3⟩
    obtain ⟨hc3, hf3⟩ := hb3.cells
    clear hc3 hf3
    have qr_0 : w3.cell? ⟨w.heap.size + 1 + 1, 0, none⟩ = some (.int .i64 0) := (hb3.cells.1 _ _ (by simp <;> omega)).trans (by simp [go_sem])
    have zr_0 : w3.frozen? ⟨w.heap.size + 1 + 1, 0, none⟩ = false := (hb3.cells.2 _ _ (by simp <;> omega)).trans (by simp [go_sem])
    have qr_1 : w3.cell? ⟨w.heap.size + 1 + 1, 1, none⟩ = some (.bool false) := (hb3.cells.1 _ _ (by simp <;> omega)).trans (by simp [go_sem])
    have zr_1 : w3.frozen? ⟨w.heap.size + 1 + 1, 1, none⟩ = false := (hb3.cells.2 _ _ (by simp <;> omega)).trans (by simp [go_sem])
    have qr_2 : w3.cell? ⟨w.heap.size + 1 + 1, 2, none⟩ = some (.bool false) := (hb3.cells.1 _ _ (by simp <;> omega)).trans (by simp [go_sem])
    have zr_2 : w3.frozen? ⟨w.heap.size + 1 + 1, 2, none⟩ = false := (hb3.cells.2 _ _ (by simp <;> omega)).trans (by simp [go_sem])
    have qr_3 : w3.cell? ⟨w.heap.size + 1 + 1, 3, none⟩ = some (.int .u64 0) := (hb3.cells.1 _ _ (by simp <;> omega)).trans (by simp [go_sem])
    have zr_3 : w3.frozen? ⟨w.heap.size + 1 + 1, 3, none⟩ = false := (hb3.cells.2 _ _ (by simp <;> omega)).trans (by simp [go_sem])
    have qr_4 : w3.cell? ⟨w.heap.size + 1 + 1, 4, none⟩ = some (.int .i64 0) := (hb3.cells.1 _ _ (by simp <;> omega)).trans (by simp [go_sem])
    have zr_4 : w3.frozen? ⟨w.heap.size + 1 + 1, 4, none⟩ = false := (hb3.cells.2 _ _ (by simp <;> omega)).trans (by simp [go_sem])
    have qr_5 : w3.cell? ⟨w.heap.size + 1 + 1, 5, none⟩ = some (.int .i64 0) := (hb3.cells.1 _ _ (by simp <;> omega)).trans (by simp [go_sem])
    have zr_5 : w3.frozen? ⟨w.heap.size + 1 + 1, 5, none⟩ = false := (hb3.cells.2 _ _ (by simp <;> omega)).trans (by simp [go_sem])
    have qr_6 : w3.cell? ⟨w.heap.size + 1 + 1, 6, none⟩ = some (.int .i64 0) := (hb3.cells.1 _ _ (by simp <;> omega)).trans (by simp [go_sem])
    have zr_6 : w3.frozen? ⟨w.heap.size + 1 + 1, 6, none⟩ = false := (hb3.cells.2 _ _ (by simp <;> omega)).trans (by simp [go_sem])
    have pr := World.block_lt_of_cell? _ ⟨w.heap.size + 1 + 1, 0, none⟩ qr_0
    have rr := Nat.lt_succ_of_lt pr
    go_wp2
    refine bodyPost_ret (v := (.tuple #[(.agg #[.int .i64 (s).r.C, .bool (s).r.P, .bool (s).r.H, .int .u64 (s).r.F, .int .i64 (s).r.N, .int .i64 (s).r.G, .int .i64 (s).r.U]), .bool (s).ok])) (by simp [results, Try.results17, go_sem, qr_0, qr_1, qr_2, qr_3, qr_4, qr_5, qr_6]) rfl ⟨rfl, ?_⟩
    repeat (first | with_reducible exact Ext.refl _ | with_reducible assumption | with_reducible refine Ext.alloc ?_ _ | with_reducible refine Ext.drew ?_ | with_reducible refine Ext.drewN ?_ _ | with_reducible refine Ext.setCell ?_ (by simp <;> omega) _ | with_reducible refine Ext.trans ?_ (by assumption))
  have e3 : (k == 3) = false := by simpa using h3
  by_cases h4 : k = 4
  · subst h4
    rw [show mstp r 4 n p = releasedR r n from rfl]
    have CC := Lib.hid (fun w => rReleased r n w S)
    generalize releasedR r n = s at *
    go_enter Try.func17, Try.ntmps17
    go_wp2_with fail
    refine (CC.out _).mono ?_
    rintro e w4 ⟨rfl, hb4⟩
    obtain ⟨hc4, hf4⟩ := hb4.cells
    clear hc4 hf4
    have qr_0 : w4.cell? ⟨w.heap.size + 1 + 1, 0, none⟩ = some (.int .i64 0) := (hb4.cells.1 _ _ (by simp <;> omega)).trans (by simp [go_sem])
    have zr_0 : w4.frozen? ⟨w.heap.size + 1 + 1, 0, none⟩ = false := (hb4.cells.2 _ _ (by simp <;> omega)).trans (by simp [go_sem])
    have qr_1 : w4.cell? ⟨w.heap.size + 1 + 1, 1, none⟩ = some (.bool false) := (hb4.cells.1 _ _ (by simp <;> omega)).trans (by simp [go_sem])
    have zr_1 : w4.frozen? ⟨w.heap.size + 1 + 1, 1, none⟩ = false := (hb4.cells.2 _ _ (by simp <;> omega)).trans (by simp [go_sem])
    have qr_2 : w4.cell? ⟨w.heap.size + 1 + 1, 2, none⟩ = some (.bool false) := (hb4.cells.1 _ _ (by simp <;> omega)).trans (by simp [go_sem])
    have zr_2 : w4.frozen? ⟨w.heap.size + 1 + 1, 2, none⟩ = false := (hb4.cells.2 _ _ (by simp <;> omega)).trans (by simp [go_sem])
    have qr_3 : w4.cell? ⟨w.heap.size + 1 + 1, 3, none⟩ = some (.int .u64 0) := (hb4.cells.1 _ _ (by simp <;> omega)).trans (by simp [go_sem])
    have zr_3 : w4.frozen? ⟨w.heap.size + 1 + 1, 3, none⟩ = false := (hb4.cells.2 _ _ (by simp <;> omega)).trans (by simp [go_sem])
    have qr_4 : w4.cell? ⟨w.heap.size + 1 + 1, 4, none⟩ = some (.int .i64 0) := (hb4.cells.1 _ _ (by simp <;> omega)).trans (by simp [go_sem])
    have zr_4 : w4.frozen? ⟨w.heap.size + 1 + 1, 4, none⟩ = false := (hb4.cells.2 _ _ (by simp <;> omega)).trans (by simp [go_sem])
    have qr_5 : w4.cell? ⟨w.heap.size + 1 + 1, 5, none⟩ = some (.int .i64 0) := (hb4.cells.1 _ _ (by simp <;> omega)).trans (by simp [go_sem])
    have zr_5 : w4.frozen? ⟨w.heap.size + 1 + 1, 5, none⟩ = false := (hb4.cells.2 _ _ (by simp <;> omega)).trans (by simp [go_sem])
    have qr_6 : w4.cell? ⟨w.heap.size + 1 + 1, 6, none⟩ = some (.int .i64 0) := (hb4.cells.1 _ _ (by simp <;> omega)).trans (by simp [go_sem])
    have zr_6 : w4.frozen? ⟨w.heap.size + 1 + 1, 6, none⟩ = false := (hb4.cells.2 _ _ (by simp <;> omega)).trans (by simp [go_sem])
    have pr := World.block_lt_of_cell? _ ⟨w.heap.size + 1 + 1, 0, none⟩ qr_0
    have rr := Nat.lt_succ_of_lt pr
    go_wp2
    refine bodyPost_ret (v := (.tuple #[(.agg #[.int .i64 (s).r.C, .bool (s).r.P, .bool (s).r.H, .int .u64 (s).r.F, .int .i64 (s).r.N, .int .i64 (s).r.G, .int .i64 (s).r.U]), .bool (s).ok])) (by simp [results, Try.results17, go_sem, qr_0, qr_1, qr_2, qr_3, qr_4, qr_5, qr_6]) rfl ⟨rfl, ?_⟩
    repeat (first | with_reducible exact Ext.refl _ | with_reducible assumption | with_reducible refine Ext.alloc ?_ _ | with_reducible refine Ext.drew ?_ | with_reducible refine Ext.drewN ?_ _ | with_reducible refine Ext.setCell ?_ (by simp <;> omega) _ | with_reducible refine Ext.trans ?_ (by assumption))
  have e4 : (k == 4) = false := by simpa using h4
  rw [show mstp r k n p = ⟨r, false⟩ by unfold mstp; rw [if_neg h1, if_neg h2, if_neg h3, if_neg h4]]
  go_enter Try.func17, Try.ntmps17
  go_wp2
  refine bodyPost_ret (v := .tuple #[(.agg #[.int .i64 r.C, .bool r.P, .bool r.H, .int .u64 r.F, .int .i64 r.N, .int .i64 r.G, .int .i64 r.U]), .bool false]) (by simp [results, Try.results17, go_sem]) rfl ⟨rfl, ?_⟩
  repeat (first | with_reducible exact Ext.refl _ | with_reducible assumption | with_reducible refine Ext.alloc ?_ _ | with_reducible refine Ext.drew ?_ | with_reducible refine Ext.drewN ?_ _ | with_reducible refine Ext.setCell ?_ (by simp <;> omega) _ | with_reducible refine Ext.trans ?_ (by assumption))
def farB (k n : Int) : Bool := decide (k = 3) && (decide (1073741824 < n) || decide (n < -1073741824))
theorem far_ok (k n p op m : Int) (u : Value) (w : World) : Calls Try.prog 13 #[.agg #[.int .i64 k, .int .i64 n, .int .u64 p, .int .i64 op, .int .i64 m, u]] w fun e w' => e = .returned (.bool (farB k n)) ∧ Ext w w' := by
  unfold farB
  by_cases h3 : k = 3
  · subst h3
    by_cases h : 1073741824 < n
    · have d : decide (1073741824 < n) = true := by simpa using h
      rw [d, show (decide ((3 : Int) = 3) && (true || decide (n < -1073741824))) = true by simp]
      go_enter Try.func13, Try.ntmps13
      go_wp2
      go_ret
      exact ⟨rfl, by repeat (first | with_reducible exact Ext.refl _ | with_reducible assumption | with_reducible refine Ext.alloc ?_ _ | with_reducible refine Ext.drew ?_ | with_reducible refine Ext.drewN ?_ _ | with_reducible refine Ext.setCell ?_ (by simp <;> omega) _ | with_reducible refine Ext.trans ?_ (by assumption))⟩
    have d : decide (1073741824 < n) = false := by simpa using h
    by_cases h2 : n < -1073741824
    · have d2 : decide (n < -1073741824) = true := by simpa using h2
      rw [d, d2, show (decide ((3 : Int) = 3) && (false || true)) = true by decide]
      go_enter Try.func13, Try.ntmps13
      go_wp2
      go_ret
      exact ⟨rfl, by repeat (first | with_reducible exact Ext.refl _ | with_reducible assumption | with_reducible refine Ext.alloc ?_ _ | with_reducible refine Ext.drew ?_ | with_reducible refine Ext.drewN ?_ _ | with_reducible refine Ext.setCell ?_ (by simp <;> omega) _ | with_reducible refine Ext.trans ?_ (by assumption))⟩
    have d2 : decide (n < -1073741824) = false := by simpa using h2
    rw [d, d2, show (decide ((3 : Int) = 3) && (false || false)) = false by decide]
    go_enter Try.func13, Try.ntmps13
    go_wp2
    go_ret
    exact ⟨rfl, by repeat (first | with_reducible exact Ext.refl _ | with_reducible assumption | with_reducible refine Ext.alloc ?_ _ | with_reducible refine Ext.drew ?_ | with_reducible refine Ext.drewN ?_ _ | with_reducible refine Ext.setCell ?_ (by simp <;> omega) _ | with_reducible refine Ext.trans ?_ (by assumption))⟩
  have e3 : (k == 3) = false := by simpa using h3
  rw [show decide (k = 3) = false by simpa using h3, Bool.false_and]
  go_enter Try.func13, Try.ntmps13
  go_wp2
  go_ret
  exact ⟨rfl, by repeat (first | with_reducible exact Ext.refl _ | with_reducible assumption | with_reducible refine Ext.alloc ?_ _ | with_reducible refine Ext.drew ?_ | with_reducible refine Ext.drewN ?_ _ | with_reducible refine Ext.setCell ?_ (by simp <;> omega) _ | with_reducible refine Ext.trans ?_ (by assumption))⟩
end Go.Proofs.Ytoaifbengichbab

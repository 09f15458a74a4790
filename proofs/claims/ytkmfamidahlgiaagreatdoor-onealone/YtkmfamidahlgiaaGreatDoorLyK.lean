/- layout: Kind, First. -/
import Derived.Test.YtkmfamidahlgiaaGreatDoorLyA
import Derived.Test.YtkmfamidahlgiaaGreatDoorLap
namespace Go.Proofs.YtkmfamidahlgiaaGreatDoor
open Go.RowKit
set_option linter.unusedVariables false
set_option linter.unusedSimpArgs false
set_option maxHeartbeats 2000000
attribute [local go_sem] later_cell later_frozen later_const
/-- the parts, as the package's variable has them -/
def pName (k : Nat) : ByteArray := [⟨#[]⟩, ⟨#[103, 97, 116, 101]⟩, ⟨#[99, 117, 114, 115, 111, 114]⟩, ⟨#[99, 108, 97, 105, 109]⟩, ⟨#[116, 105, 99, 107, 101, 116]⟩, ⟨#[115, 101, 114, 118, 105, 110, 103]⟩, ⟨#[110, 101, 120, 116]⟩, ⟨#[109, 97, 114, 107]⟩, ⟨#[115, 116, 97, 109, 112]⟩, ⟨#[100, 111, 110, 101]⟩, ⟨#[115, 108, 111, 116]⟩].getD k ⟨#[]⟩
def pKind (k : Nat) : Int := [0, 1, 1, 1, 1, 1, 2, 1, 1, 2, 3].getD k 0
def pMany (k : Nat) : Bool := [false, true, false, false, false, false, false, true, true, true, true].getD k false
/-- the variable as it lies -/
def Parts (w : World) : Prop := ∀ k, k < 11 → w.cell? ⟨0, k * 3, none⟩ = some (.string (pName k)) ∧ w.cell? ⟨0, k * 3 + 1, none⟩ = some (.int .i64 (pKind k)) ∧ w.cell? ⟨0, k * 3 + 2, none⟩ = some (.bool (pMany k))
theorem Parts.ext {w w' : World} (h : Parts w) (hx : Ext w w') : Parts w' := fun k hk => ⟨hx.cell (h k hk).1, hx.cell (h k hk).2.1, hx.cell (h k hk).2.2⟩
theorem ahead_bound32 (x : Int) {C : Int} (h : rightB C = true) : 0 ≤ x % 4294967296 / C ∧ x % 4294967296 / C < 4294967296 := by
  have hr := right_range h
  refine ⟨Int.ediv_nonneg (by omega) (by omega), ?_⟩
  exact Int.lt_of_le_of_lt (Int.ediv_le_self _ (by omega)) (by omega)
theorem ahead_bound64 (x : Int) {C : Int} (h : rightB C = true) : 0 ≤ U64 x / C ∧ U64 x / C < 18446744073709551616 := by
  have hr := right_range h
  have := U64_range x
  refine ⟨Int.ediv_nonneg (by omega) (by omega), ?_⟩
  exact Int.lt_of_le_of_lt (Int.ediv_le_self _ (by omega)) (by omega)
theorem first_bound32 (x : Int) : 0 ≤ x % 4294967296 ∧ x % 4294967296 < 4294967296 := by omega
theorem first_bound64 (x : Int) : 0 ≤ U64 x ∧ U64 x < 18446744073709551616 := U64_range x
theorem use_le (V n Cu Cl Ti Se Ne Ma Sl Ce c : Int) : 0 ≤ (useL V n Cu Cl Ti Se Ne Ma Sl Ce c).1 ∧ (useL V n Cu Cl Ti Se Ne Ma Sl Ce c).1 ≤ 10 := by
  unfold useL mrk
  repeat (first | (split <;> try (simp only []; omega)))
  all_goals (simp only []; (repeat split); all_goals omega)
set_option maxRecDepth 100000 in
theorem lKind (V W C P S : Int) (a : Option Addr) (n cap : Nat) (Cu Cl Ti Se Ne Ma Sl Ce c : Int) (w : World) (h0 : 0 ≤ Sl) (hM0 : -1 ≤ Ma) (hM1 : Ma ≤ 1000) (hCe : Ce ≤ 1000) (E : Parts w) :
    Calls Tryz.prog 73 #[(.agg #[.int .i64 V, .int .i64 W, .int .i64 C, .int .i64 P, .int .u64 S, .slice a n cap, .int .i64 Cu, .int .i64 Cl, .int .i64 Ti, .int .i64 Se, .int .i64 Ne, .int .i64 Ma, .int .i64 Sl, .int .i64 Ce]), .int .i64 c] w fun e w' => e = .returned (.int .i64 (pKind (useL V n Cu Cl Ti Se Ne Ma Sl Ce c).1.toNat)) ∧ Ext w w' := by
  have CU := fun w => lUse V W C P S a n cap Cu Cl Ti Se Ne Ma Sl Ce c w h0 hM0 hM1 hCe
  obtain ⟨b0, b1⟩ := use_le V n Cu Cl Ti Se Ne Ma Sl Ce c
  obtain ⟨⟨k', i⟩, hk⟩ : ∃ p, p = useL V n Cu Cl Ti Se Ne Ma Sl Ce c := ⟨_, rfl⟩
  rw [← hk] at b0 b1 CU ⊢
  simp only [] at b0 b1 CU ⊢
  obtain ⟨k, rfl⟩ : ∃ k : Nat, k' = k := ⟨k'.toNat, by omega⟩
  have hk10 : k < 11 := by omega
  rw [show ((k : Int)).toNat = k by omega]
  have e1 := (E k hk10).2.1
  have hkI : (k : Int) < 11 := by omega
  generalize pKind k = z at *
  have CU := Lib.hid CU
  clear hk b0 b1 E h0 hM0 hM1 hCe
  go_enter Tryz.func73, Tryz.ntmps73
  go_wp2_with fail
  refine (CU.out _).mono ?_
  rintro e w1 ⟨rfl, hb1⟩
  obtain ⟨hc1, hf1⟩ := hb1.cells
  have e2 := (Ext.trans (show Ext w _ by repeat (first | with_reducible exact Ext.refl _ | with_reducible assumption | with_reducible refine Ext.alloc ?_ _ | with_reducible refine Ext.drew ?_ | with_reducible refine Ext.drewN ?_ _ | with_reducible refine Ext.setCell ?_ (by simp <;> omega) _ | with_reducible refine Ext.trans ?_ (by assumption))) hb1).cell e1
  clear e1 hc1 hf1
  go_wp2
  go_ret
  refine ⟨rfl, ?_⟩
  repeat (first | with_reducible exact Ext.refl _ | with_reducible assumption | with_reducible refine Ext.alloc ?_ _ | with_reducible refine Ext.drew ?_ | with_reducible refine Ext.drewN ?_ _ | with_reducible refine Ext.setCell ?_ (by simp <;> omega) _ | with_reducible refine Ext.trans ?_ (by assumption))
/-! what a cell has at first -/
def aheadR (W C i p : Int) : Int := if W = 32 then (p + (i - p) % C - C) % 4294967296 / C else U64 (p + (i - p) % C - C) / C
def firstR (W C i p : Int) : Int := if W = 32 then (p + (i - p) % C) % 4294967296 else U64 (p + (i - p) % C)
def fst (W C S k i : Int) : Int :=
  if k = 1 ∨ k = 2 ∨ k = 3 ∨ k = 6 then cutS W S else if k = 7 ∨ k = 9 then aheadR W C i (cutS W S) else if k = 8 then firstR W C i (cutS W S) else 0
theorem first32_1 (V C P S i : Int) (u : Value) (ups : List (List Int)) (w : World) (hL : ListsV w u ups) (hll : ∀ l ∈ ups, l.length ≤ 1000000) (hn : ups.length ≤ 1000000) (hg : ckC V 32 C P ups = 0) (hS0 : 0 ≤ S) (hS1 : S < 18446744073709551616) :
    Calls Tryz.prog 121 #[(.agg #[.int .i64 V, .int .i64 32, .int .i64 C, .int .i64 P, .int .u64 (S), u]), .int .i64 1, .int .i64 i] w fun e w' => e = .returned (.int .u64 (cutS 32 S)) ∧ Ext w w' := by
  obtain ⟨a, cap, e, -⟩ := id hL
  subst e
  have CS := Lib.hid (fun w' (hx : Ext w w') => cStart_ok V 32 C P S _ ups w' (hL.ext hx) hll hn hg hS0 hS1)
  clear hL hll hg
  generalize ups.length = n at *
  have hc : 0 ≤ cutS 32 S ∧ cutS 32 S < 4294967296 := by unfold cutS; simp only [reduceIte, Int.reduceEq]; omega
  obtain ⟨hc0, hc1⟩ := hc
  generalize cutS 32 S = p at *
  go_enter Tryz.func121, Tryz.ntmps121
  go_wp2_with fail
  refine (CS.out _ (by repeat (first | with_reducible exact Ext.refl _ | with_reducible assumption | with_reducible refine Ext.alloc ?_ _ | with_reducible refine Ext.drew ?_ | with_reducible refine Ext.drewN ?_ _ | with_reducible refine Ext.setCell ?_ (by simp <;> omega) _ | with_reducible refine Ext.trans ?_ (by assumption)))).mono ?_
  rintro e w1 ⟨rfl, hb1⟩
  obtain ⟨hc1, hf1⟩ := hb1.cells
  go_wp2
  go_ret
  refine ⟨rfl, ?_⟩
  repeat (first | with_reducible exact Ext.refl _ | with_reducible assumption | with_reducible refine Ext.alloc ?_ _ | with_reducible refine Ext.drew ?_ | with_reducible refine Ext.drewN ?_ _ | with_reducible refine Ext.setCell ?_ (by simp <;> omega) _ | with_reducible refine Ext.trans ?_ (by assumption))
theorem first32_2 (V C P S i : Int) (u : Value) (ups : List (List Int)) (w : World) (hL : ListsV w u ups) (hll : ∀ l ∈ ups, l.length ≤ 1000000) (hn : ups.length ≤ 1000000) (hg : ckC V 32 C P ups = 0) (hS0 : 0 ≤ S) (hS1 : S < 18446744073709551616) :
    Calls Tryz.prog 121 #[(.agg #[.int .i64 V, .int .i64 32, .int .i64 C, .int .i64 P, .int .u64 (S), u]), .int .i64 2, .int .i64 i] w fun e w' => e = .returned (.int .u64 (cutS 32 S)) ∧ Ext w w' := by
  obtain ⟨a, cap, e, -⟩ := id hL
  subst e
  have CS := Lib.hid (fun w' (hx : Ext w w') => cStart_ok V 32 C P S _ ups w' (hL.ext hx) hll hn hg hS0 hS1)
  clear hL hll hg
  generalize ups.length = n at *
  have hc : 0 ≤ cutS 32 S ∧ cutS 32 S < 4294967296 := by unfold cutS; simp only [reduceIte, Int.reduceEq]; omega
  obtain ⟨hc0, hc1⟩ := hc
  generalize cutS 32 S = p at *
  go_enter Tryz.func121, Tryz.ntmps121
  go_wp2_with fail
  refine (CS.out _ (by repeat (first | with_reducible exact Ext.refl _ | with_reducible assumption | with_reducible refine Ext.alloc ?_ _ | with_reducible refine Ext.drew ?_ | with_reducible refine Ext.drewN ?_ _ | with_reducible refine Ext.setCell ?_ (by simp <;> omega) _ | with_reducible refine Ext.trans ?_ (by assumption)))).mono ?_
  rintro e w1 ⟨rfl, hb1⟩
  obtain ⟨hc1, hf1⟩ := hb1.cells
  go_wp2
  go_ret
  refine ⟨rfl, ?_⟩
  repeat (first | with_reducible exact Ext.refl _ | with_reducible assumption | with_reducible refine Ext.alloc ?_ _ | with_reducible refine Ext.drew ?_ | with_reducible refine Ext.drewN ?_ _ | with_reducible refine Ext.setCell ?_ (by simp <;> omega) _ | with_reducible refine Ext.trans ?_ (by assumption))
theorem first32_3 (V C P S i : Int) (u : Value) (ups : List (List Int)) (w : World) (hL : ListsV w u ups) (hll : ∀ l ∈ ups, l.length ≤ 1000000) (hn : ups.length ≤ 1000000) (hg : ckC V 32 C P ups = 0) (hS0 : 0 ≤ S) (hS1 : S < 18446744073709551616) :
    Calls Tryz.prog 121 #[(.agg #[.int .i64 V, .int .i64 32, .int .i64 C, .int .i64 P, .int .u64 (S), u]), .int .i64 3, .int .i64 i] w fun e w' => e = .returned (.int .u64 (cutS 32 S)) ∧ Ext w w' := by
  obtain ⟨a, cap, e, -⟩ := id hL
  subst e
  have CS := Lib.hid (fun w' (hx : Ext w w') => cStart_ok V 32 C P S _ ups w' (hL.ext hx) hll hn hg hS0 hS1)
  clear hL hll hg
  generalize ups.length = n at *
  have hc : 0 ≤ cutS 32 S ∧ cutS 32 S < 4294967296 := by unfold cutS; simp only [reduceIte, Int.reduceEq]; omega
  obtain ⟨hc0, hc1⟩ := hc
  generalize cutS 32 S = p at *
  go_enter Tryz.func121, Tryz.ntmps121
  go_wp2_with fail
  refine (CS.out _ (by repeat (first | with_reducible exact Ext.refl _ | with_reducible assumption | with_reducible refine Ext.alloc ?_ _ | with_reducible refine Ext.drew ?_ | with_reducible refine Ext.drewN ?_ _ | with_reducible refine Ext.setCell ?_ (by simp <;> omega) _ | with_reducible refine Ext.trans ?_ (by assumption)))).mono ?_
  rintro e w1 ⟨rfl, hb1⟩
  obtain ⟨hc1, hf1⟩ := hb1.cells
  go_wp2
  go_ret
  refine ⟨rfl, ?_⟩
  repeat (first | with_reducible exact Ext.refl _ | with_reducible assumption | with_reducible refine Ext.alloc ?_ _ | with_reducible refine Ext.drew ?_ | with_reducible refine Ext.drewN ?_ _ | with_reducible refine Ext.setCell ?_ (by simp <;> omega) _ | with_reducible refine Ext.trans ?_ (by assumption))
theorem first32_6 (V C P S i : Int) (u : Value) (ups : List (List Int)) (w : World) (hL : ListsV w u ups) (hll : ∀ l ∈ ups, l.length ≤ 1000000) (hn : ups.length ≤ 1000000) (hg : ckC V 32 C P ups = 0) (hS0 : 0 ≤ S) (hS1 : S < 18446744073709551616) :
    Calls Tryz.prog 121 #[(.agg #[.int .i64 V, .int .i64 32, .int .i64 C, .int .i64 P, .int .u64 (S), u]), .int .i64 6, .int .i64 i] w fun e w' => e = .returned (.int .u64 (cutS 32 S)) ∧ Ext w w' := by
  obtain ⟨a, cap, e, -⟩ := id hL
  subst e
  have CS := Lib.hid (fun w' (hx : Ext w w') => cStart_ok V 32 C P S _ ups w' (hL.ext hx) hll hn hg hS0 hS1)
  clear hL hll hg
  generalize ups.length = n at *
  have hc : 0 ≤ cutS 32 S ∧ cutS 32 S < 4294967296 := by unfold cutS; simp only [reduceIte, Int.reduceEq]; omega
  obtain ⟨hc0, hc1⟩ := hc
  generalize cutS 32 S = p at *
  go_enter Tryz.func121, Tryz.ntmps121
  go_wp2_with fail
  refine (CS.out _ (by repeat (first | with_reducible exact Ext.refl _ | with_reducible assumption | with_reducible refine Ext.alloc ?_ _ | with_reducible refine Ext.drew ?_ | with_reducible refine Ext.drewN ?_ _ | with_reducible refine Ext.setCell ?_ (by simp <;> omega) _ | with_reducible refine Ext.trans ?_ (by assumption)))).mono ?_
  rintro e w1 ⟨rfl, hb1⟩
  obtain ⟨hc1, hf1⟩ := hb1.cells
  go_wp2
  go_ret
  refine ⟨rfl, ?_⟩
  repeat (first | with_reducible exact Ext.refl _ | with_reducible assumption | with_reducible refine Ext.alloc ?_ _ | with_reducible refine Ext.drew ?_ | with_reducible refine Ext.drewN ?_ _ | with_reducible refine Ext.setCell ?_ (by simp <;> omega) _ | with_reducible refine Ext.trans ?_ (by assumption))
theorem first32_0 (V C P S i : Int) (u : Value) (ups : List (List Int)) (w : World) (hL : ListsV w u ups) (hll : ∀ l ∈ ups, l.length ≤ 1000000) (hn : ups.length ≤ 1000000) (hg : ckC V 32 C P ups = 0) (hS0 : 0 ≤ S) (hS1 : S < 18446744073709551616) :
    Calls Tryz.prog 121 #[(.agg #[.int .i64 V, .int .i64 32, .int .i64 C, .int .i64 P, .int .u64 (S), u]), .int .i64 0, .int .i64 i] w fun e w' => e = .returned (.int .u64 0) ∧ Ext w w' := by
  obtain ⟨a, cap, e, -⟩ := id hL
  subst e
  have CS := Lib.hid (fun w' (hx : Ext w w') => cStart_ok V 32 C P S _ ups w' (hL.ext hx) hll hn hg hS0 hS1)
  clear hL hll hg
  generalize ups.length = n at *
  have hc : 0 ≤ cutS 32 S ∧ cutS 32 S < 4294967296 := by unfold cutS; simp only [reduceIte, Int.reduceEq]; omega
  obtain ⟨hc0, hc1⟩ := hc
  generalize cutS 32 S = p at *
  go_enter Tryz.func121, Tryz.ntmps121
  go_wp2_with fail
  refine (CS.out _ (by repeat (first | with_reducible exact Ext.refl _ | with_reducible assumption | with_reducible refine Ext.alloc ?_ _ | with_reducible refine Ext.drew ?_ | with_reducible refine Ext.drewN ?_ _ | with_reducible refine Ext.setCell ?_ (by simp <;> omega) _ | with_reducible refine Ext.trans ?_ (by assumption)))).mono ?_
  rintro e w1 ⟨rfl, hb1⟩
  obtain ⟨hc1, hf1⟩ := hb1.cells
  go_wp2
  go_ret
  refine ⟨rfl, ?_⟩
  repeat (first | with_reducible exact Ext.refl _ | with_reducible assumption | with_reducible refine Ext.alloc ?_ _ | with_reducible refine Ext.drew ?_ | with_reducible refine Ext.drewN ?_ _ | with_reducible refine Ext.setCell ?_ (by simp <;> omega) _ | with_reducible refine Ext.trans ?_ (by assumption))
theorem first32_4 (V C P S i : Int) (u : Value) (ups : List (List Int)) (w : World) (hL : ListsV w u ups) (hll : ∀ l ∈ ups, l.length ≤ 1000000) (hn : ups.length ≤ 1000000) (hg : ckC V 32 C P ups = 0) (hS0 : 0 ≤ S) (hS1 : S < 18446744073709551616) :
    Calls Tryz.prog 121 #[(.agg #[.int .i64 V, .int .i64 32, .int .i64 C, .int .i64 P, .int .u64 (S), u]), .int .i64 4, .int .i64 i] w fun e w' => e = .returned (.int .u64 0) ∧ Ext w w' := by
  obtain ⟨a, cap, e, -⟩ := id hL
  subst e
  have CS := Lib.hid (fun w' (hx : Ext w w') => cStart_ok V 32 C P S _ ups w' (hL.ext hx) hll hn hg hS0 hS1)
  clear hL hll hg
  generalize ups.length = n at *
  have hc : 0 ≤ cutS 32 S ∧ cutS 32 S < 4294967296 := by unfold cutS; simp only [reduceIte, Int.reduceEq]; omega
  obtain ⟨hc0, hc1⟩ := hc
  generalize cutS 32 S = p at *
  go_enter Tryz.func121, Tryz.ntmps121
  go_wp2_with fail
  refine (CS.out _ (by repeat (first | with_reducible exact Ext.refl _ | with_reducible assumption | with_reducible refine Ext.alloc ?_ _ | with_reducible refine Ext.drew ?_ | with_reducible refine Ext.drewN ?_ _ | with_reducible refine Ext.setCell ?_ (by simp <;> omega) _ | with_reducible refine Ext.trans ?_ (by assumption)))).mono ?_
  rintro e w1 ⟨rfl, hb1⟩
  obtain ⟨hc1, hf1⟩ := hb1.cells
  go_wp2
  go_ret
  refine ⟨rfl, ?_⟩
  repeat (first | with_reducible exact Ext.refl _ | with_reducible assumption | with_reducible refine Ext.alloc ?_ _ | with_reducible refine Ext.drew ?_ | with_reducible refine Ext.drewN ?_ _ | with_reducible refine Ext.setCell ?_ (by simp <;> omega) _ | with_reducible refine Ext.trans ?_ (by assumption))
theorem first32_5 (V C P S i : Int) (u : Value) (ups : List (List Int)) (w : World) (hL : ListsV w u ups) (hll : ∀ l ∈ ups, l.length ≤ 1000000) (hn : ups.length ≤ 1000000) (hg : ckC V 32 C P ups = 0) (hS0 : 0 ≤ S) (hS1 : S < 18446744073709551616) :
    Calls Tryz.prog 121 #[(.agg #[.int .i64 V, .int .i64 32, .int .i64 C, .int .i64 P, .int .u64 (S), u]), .int .i64 5, .int .i64 i] w fun e w' => e = .returned (.int .u64 0) ∧ Ext w w' := by
  obtain ⟨a, cap, e, -⟩ := id hL
  subst e
  have CS := Lib.hid (fun w' (hx : Ext w w') => cStart_ok V 32 C P S _ ups w' (hL.ext hx) hll hn hg hS0 hS1)
  clear hL hll hg
  generalize ups.length = n at *
  have hc : 0 ≤ cutS 32 S ∧ cutS 32 S < 4294967296 := by unfold cutS; simp only [reduceIte, Int.reduceEq]; omega
  obtain ⟨hc0, hc1⟩ := hc
  generalize cutS 32 S = p at *
  go_enter Tryz.func121, Tryz.ntmps121
  go_wp2_with fail
  refine (CS.out _ (by repeat (first | with_reducible exact Ext.refl _ | with_reducible assumption | with_reducible refine Ext.alloc ?_ _ | with_reducible refine Ext.drew ?_ | with_reducible refine Ext.drewN ?_ _ | with_reducible refine Ext.setCell ?_ (by simp <;> omega) _ | with_reducible refine Ext.trans ?_ (by assumption)))).mono ?_
  rintro e w1 ⟨rfl, hb1⟩
  obtain ⟨hc1, hf1⟩ := hb1.cells
  go_wp2
  go_ret
  refine ⟨rfl, ?_⟩
  repeat (first | with_reducible exact Ext.refl _ | with_reducible assumption | with_reducible refine Ext.alloc ?_ _ | with_reducible refine Ext.drew ?_ | with_reducible refine Ext.drewN ?_ _ | with_reducible refine Ext.setCell ?_ (by simp <;> omega) _ | with_reducible refine Ext.trans ?_ (by assumption))
theorem first32_10 (V C P S i : Int) (u : Value) (ups : List (List Int)) (w : World) (hL : ListsV w u ups) (hll : ∀ l ∈ ups, l.length ≤ 1000000) (hn : ups.length ≤ 1000000) (hg : ckC V 32 C P ups = 0) (hS0 : 0 ≤ S) (hS1 : S < 18446744073709551616) :
    Calls Tryz.prog 121 #[(.agg #[.int .i64 V, .int .i64 32, .int .i64 C, .int .i64 P, .int .u64 (S), u]), .int .i64 10, .int .i64 i] w fun e w' => e = .returned (.int .u64 0) ∧ Ext w w' := by
  obtain ⟨a, cap, e, -⟩ := id hL
  subst e
  have CS := Lib.hid (fun w' (hx : Ext w w') => cStart_ok V 32 C P S _ ups w' (hL.ext hx) hll hn hg hS0 hS1)
  clear hL hll hg
  generalize ups.length = n at *
  have hc : 0 ≤ cutS 32 S ∧ cutS 32 S < 4294967296 := by unfold cutS; simp only [reduceIte, Int.reduceEq]; omega
  obtain ⟨hc0, hc1⟩ := hc
  generalize cutS 32 S = p at *
  go_enter Tryz.func121, Tryz.ntmps121
  go_wp2_with fail
  refine (CS.out _ (by repeat (first | with_reducible exact Ext.refl _ | with_reducible assumption | with_reducible refine Ext.alloc ?_ _ | with_reducible refine Ext.drew ?_ | with_reducible refine Ext.drewN ?_ _ | with_reducible refine Ext.setCell ?_ (by simp <;> omega) _ | with_reducible refine Ext.trans ?_ (by assumption)))).mono ?_
  rintro e w1 ⟨rfl, hb1⟩
  obtain ⟨hc1, hf1⟩ := hb1.cells
  go_wp2
  go_ret
  refine ⟨rfl, ?_⟩
  repeat (first | with_reducible exact Ext.refl _ | with_reducible assumption | with_reducible refine Ext.alloc ?_ _ | with_reducible refine Ext.drew ?_ | with_reducible refine Ext.drewN ?_ _ | with_reducible refine Ext.setCell ?_ (by simp <;> omega) _ | with_reducible refine Ext.trans ?_ (by assumption))
theorem first32_7 (V C P S i : Int) (u : Value) (ups : List (List Int)) (w : World) (hL : ListsV w u ups) (hll : ∀ l ∈ ups, l.length ≤ 1000000) (hn : ups.length ≤ 1000000) (hg : ckC V 32 C P ups = 0) (hS0 : 0 ≤ S) (hS1 : S < 18446744073709551616) (hi0 : 0 ≤ i) (hi1 : i < C) :
    Calls Tryz.prog 121 #[(.agg #[.int .i64 V, .int .i64 32, .int .i64 C, .int .i64 P, .int .u64 (S), u]), .int .i64 7, .int .i64 i] w fun e w' => e = .returned (.int .u64 (aheadR 32 C i (cutS 32 S))) ∧ Ext w w' := by
  obtain ⟨a, cap, e, -⟩ := id hL
  subst e
  have CS := Lib.hid (fun w' (hx : Ext w w') => cStart_ok V 32 C P S _ ups w' (hL.ext hx) hll hn hg hS0 hS1)
  have hrc := (ok_iff.1 hg).rc
  clear hL hll hg
  generalize ups.length = n at *
  have hc : 0 ≤ cutS 32 S ∧ cutS 32 S < 4294967296 := by unfold cutS; simp only [reduceIte, Int.reduceEq]; omega
  obtain ⟨hc0, hc1⟩ := hc
  generalize cutS 32 S = p at *
  have CA := fun w => aheadU32 C i p w hrc hi0 hi1 hc0 hc1
  rw [show aheadR 32 C i p = (p + (i - p) % C - C) % 4294967296 / C by simp [aheadR]]
  have hr := ahead_bound32 (p + (i - p) % C - C) hrc
  generalize (p + (i - p) % C - C) % 4294967296 / C = r at *
  obtain ⟨hr0, hr1⟩ := hr
  have HCA := Lib.hid CA
  clear CA
  go_enter Tryz.func121, Tryz.ntmps121
  go_wp2_with fail
  refine (CS.out _ (by repeat (first | with_reducible exact Ext.refl _ | with_reducible assumption | with_reducible refine Ext.alloc ?_ _ | with_reducible refine Ext.drew ?_ | with_reducible refine Ext.drewN ?_ _ | with_reducible refine Ext.setCell ?_ (by simp <;> omega) _ | with_reducible refine Ext.trans ?_ (by assumption)))).mono ?_
  rintro e w1 ⟨rfl, hb1⟩
  obtain ⟨hc1, hf1⟩ := hb1.cells
  clear hc1 hf1
  have qc_0 : w1.cell? ⟨w.heap.size, 0, none⟩ = some (.int .i64 V) := (hb1.cells.1 _ _ (by simp <;> omega)).trans (by simp [go_sem])
  have qc_1 : w1.cell? ⟨w.heap.size, 1, none⟩ = some (.int .i64 32) := (hb1.cells.1 _ _ (by simp <;> omega)).trans (by simp [go_sem])
  have qc_2 : w1.cell? ⟨w.heap.size, 2, none⟩ = some (.int .i64 C) := (hb1.cells.1 _ _ (by simp <;> omega)).trans (by simp [go_sem])
  have qc_3 : w1.cell? ⟨w.heap.size, 3, none⟩ = some (.int .i64 P) := (hb1.cells.1 _ _ (by simp <;> omega)).trans (by simp [go_sem])
  have qc_4 : w1.cell? ⟨w.heap.size, 4, none⟩ = some (.int .u64 (S)) := (hb1.cells.1 _ _ (by simp <;> omega)).trans (by simp [go_sem])
  have qc_5 : w1.cell? ⟨w.heap.size, 5, none⟩ = some (.slice a n cap) := (hb1.cells.1 _ _ (by simp <;> omega)).trans (by simp [go_sem])
  have pc := World.block_lt_of_cell? _ ⟨w.heap.size, 0, none⟩ qc_0
  have rc := Nat.lt_succ_of_lt pc
  go_wp2_with fail
  refine (HCA.out _).mono ?_
  rintro e w' ⟨rfl, rfl⟩
  go_wp2
  go_ret
  refine ⟨rfl, ?_⟩
  repeat (first | with_reducible exact Ext.refl _ | with_reducible assumption | with_reducible refine Ext.alloc ?_ _ | with_reducible refine Ext.drew ?_ | with_reducible refine Ext.drewN ?_ _ | with_reducible refine Ext.setCell ?_ (by simp <;> omega) _ | with_reducible refine Ext.trans ?_ (by assumption))
theorem first32_9 (V C P S i : Int) (u : Value) (ups : List (List Int)) (w : World) (hL : ListsV w u ups) (hll : ∀ l ∈ ups, l.length ≤ 1000000) (hn : ups.length ≤ 1000000) (hg : ckC V 32 C P ups = 0) (hS0 : 0 ≤ S) (hS1 : S < 18446744073709551616) (hi0 : 0 ≤ i) (hi1 : i < C) :
    Calls Tryz.prog 121 #[(.agg #[.int .i64 V, .int .i64 32, .int .i64 C, .int .i64 P, .int .u64 (S), u]), .int .i64 9, .int .i64 i] w fun e w' => e = .returned (.int .u64 (aheadR 32 C i (cutS 32 S))) ∧ Ext w w' := by
  obtain ⟨a, cap, e, -⟩ := id hL
  subst e
  have CS := Lib.hid (fun w' (hx : Ext w w') => cStart_ok V 32 C P S _ ups w' (hL.ext hx) hll hn hg hS0 hS1)
  have hrc := (ok_iff.1 hg).rc
  clear hL hll hg
  generalize ups.length = n at *
  have hc : 0 ≤ cutS 32 S ∧ cutS 32 S < 4294967296 := by unfold cutS; simp only [reduceIte, Int.reduceEq]; omega
  obtain ⟨hc0, hc1⟩ := hc
  generalize cutS 32 S = p at *
  have CA := fun w => aheadU32 C i p w hrc hi0 hi1 hc0 hc1
  rw [show aheadR 32 C i p = (p + (i - p) % C - C) % 4294967296 / C by simp [aheadR]]
  have hr := ahead_bound32 (p + (i - p) % C - C) hrc
  generalize (p + (i - p) % C - C) % 4294967296 / C = r at *
  obtain ⟨hr0, hr1⟩ := hr
  have HCA := Lib.hid CA
  clear CA
  go_enter Tryz.func121, Tryz.ntmps121
  go_wp2_with fail
  refine (CS.out _ (by repeat (first | with_reducible exact Ext.refl _ | with_reducible assumption | with_reducible refine Ext.alloc ?_ _ | with_reducible refine Ext.drew ?_ | with_reducible refine Ext.drewN ?_ _ | with_reducible refine Ext.setCell ?_ (by simp <;> omega) _ | with_reducible refine Ext.trans ?_ (by assumption)))).mono ?_
  rintro e w1 ⟨rfl, hb1⟩
  obtain ⟨hc1, hf1⟩ := hb1.cells
  clear hc1 hf1
  have qc_0 : w1.cell? ⟨w.heap.size, 0, none⟩ = some (.int .i64 V) := (hb1.cells.1 _ _ (by simp <;> omega)).trans (by simp [go_sem])
  have qc_1 : w1.cell? ⟨w.heap.size, 1, none⟩ = some (.int .i64 32) := (hb1.cells.1 _ _ (by simp <;> omega)).trans (by simp [go_sem])
  have qc_2 : w1.cell? ⟨w.heap.size, 2, none⟩ = some (.int .i64 C) := (hb1.cells.1 _ _ (by simp <;> omega)).trans (by simp [go_sem])
  have qc_3 : w1.cell? ⟨w.heap.size, 3, none⟩ = some (.int .i64 P) := (hb1.cells.1 _ _ (by simp <;> omega)).trans (by simp [go_sem])
  have qc_4 : w1.cell? ⟨w.heap.size, 4, none⟩ = some (.int .u64 (S)) := (hb1.cells.1 _ _ (by simp <;> omega)).trans (by simp [go_sem])
  have qc_5 : w1.cell? ⟨w.heap.size, 5, none⟩ = some (.slice a n cap) := (hb1.cells.1 _ _ (by simp <;> omega)).trans (by simp [go_sem])
  have pc := World.block_lt_of_cell? _ ⟨w.heap.size, 0, none⟩ qc_0
  have rc := Nat.lt_succ_of_lt pc
  go_wp2_with fail
  refine (HCA.out _).mono ?_
  rintro e w' ⟨rfl, rfl⟩
  go_wp2
  go_ret
  refine ⟨rfl, ?_⟩
  repeat (first | with_reducible exact Ext.refl _ | with_reducible assumption | with_reducible refine Ext.alloc ?_ _ | with_reducible refine Ext.drew ?_ | with_reducible refine Ext.drewN ?_ _ | with_reducible refine Ext.setCell ?_ (by simp <;> omega) _ | with_reducible refine Ext.trans ?_ (by assumption))
theorem first32_8 (V C P S i : Int) (u : Value) (ups : List (List Int)) (w : World) (hL : ListsV w u ups) (hll : ∀ l ∈ ups, l.length ≤ 1000000) (hn : ups.length ≤ 1000000) (hg : ckC V 32 C P ups = 0) (hS0 : 0 ≤ S) (hS1 : S < 18446744073709551616) (hi0 : 0 ≤ i) (hi1 : i < C) :
    Calls Tryz.prog 121 #[(.agg #[.int .i64 V, .int .i64 32, .int .i64 C, .int .i64 P, .int .u64 (S), u]), .int .i64 8, .int .i64 i] w fun e w' => e = .returned (.int .u64 (firstR 32 C i (cutS 32 S))) ∧ Ext w w' := by
  obtain ⟨a, cap, e, -⟩ := id hL
  subst e
  have CS := Lib.hid (fun w' (hx : Ext w w') => cStart_ok V 32 C P S _ ups w' (hL.ext hx) hll hn hg hS0 hS1)
  have hrc := (ok_iff.1 hg).rc
  clear hL hll hg
  generalize ups.length = n at *
  have hc : 0 ≤ cutS 32 S ∧ cutS 32 S < 4294967296 := by unfold cutS; simp only [reduceIte, Int.reduceEq]; omega
  obtain ⟨hc0, hc1⟩ := hc
  generalize cutS 32 S = p at *
  have CA := fun w => firstU32 C i p w hrc hi0 hi1 hc0 hc1
  rw [show firstR 32 C i p = (p + (i - p) % C) % 4294967296 by simp [firstR]]
  have hr := first_bound32 (p + (i - p) % C)
  generalize (p + (i - p) % C) % 4294967296 = r at *
  obtain ⟨hr0, hr1⟩ := hr
  have HCA := Lib.hid CA
  clear CA
  go_enter Tryz.func121, Tryz.ntmps121
  go_wp2_with fail
  refine (CS.out _ (by repeat (first | with_reducible exact Ext.refl _ | with_reducible assumption | with_reducible refine Ext.alloc ?_ _ | with_reducible refine Ext.drew ?_ | with_reducible refine Ext.drewN ?_ _ | with_reducible refine Ext.setCell ?_ (by simp <;> omega) _ | with_reducible refine Ext.trans ?_ (by assumption)))).mono ?_
  rintro e w1 ⟨rfl, hb1⟩
  obtain ⟨hc1, hf1⟩ := hb1.cells
  clear hc1 hf1
  have qc_0 : w1.cell? ⟨w.heap.size, 0, none⟩ = some (.int .i64 V) := (hb1.cells.1 _ _ (by simp <;> omega)).trans (by simp [go_sem])
  have qc_1 : w1.cell? ⟨w.heap.size, 1, none⟩ = some (.int .i64 32) := (hb1.cells.1 _ _ (by simp <;> omega)).trans (by simp [go_sem])
  have qc_2 : w1.cell? ⟨w.heap.size, 2, none⟩ = some (.int .i64 C) := (hb1.cells.1 _ _ (by simp <;> omega)).trans (by simp [go_sem])
  have qc_3 : w1.cell? ⟨w.heap.size, 3, none⟩ = some (.int .i64 P) := (hb1.cells.1 _ _ (by simp <;> omega)).trans (by simp [go_sem])
  have qc_4 : w1.cell? ⟨w.heap.size, 4, none⟩ = some (.int .u64 (S)) := (hb1.cells.1 _ _ (by simp <;> omega)).trans (by simp [go_sem])
  have qc_5 : w1.cell? ⟨w.heap.size, 5, none⟩ = some (.slice a n cap) := (hb1.cells.1 _ _ (by simp <;> omega)).trans (by simp [go_sem])
  have pc := World.block_lt_of_cell? _ ⟨w.heap.size, 0, none⟩ qc_0
  have rc := Nat.lt_succ_of_lt pc
  go_wp2_with fail
  refine (HCA.out _).mono ?_
  rintro e w' ⟨rfl, rfl⟩
  go_wp2
  go_ret
  refine ⟨rfl, ?_⟩
  repeat (first | with_reducible exact Ext.refl _ | with_reducible assumption | with_reducible refine Ext.alloc ?_ _ | with_reducible refine Ext.drew ?_ | with_reducible refine Ext.drewN ?_ _ | with_reducible refine Ext.setCell ?_ (by simp <;> omega) _ | with_reducible refine Ext.trans ?_ (by assumption))
theorem firstAll32 (V C P S k i : Int) (u : Value) (ups : List (List Int)) (w : World) (hL : ListsV w u ups) (hll : ∀ l ∈ ups, l.length ≤ 1000000) (hn : ups.length ≤ 1000000) (hg : ckC V 32 C P ups = 0) (hS0 : 0 ≤ S) (hS1 : S < 18446744073709551616) (hk0 : 0 ≤ k) (hk1 : k ≤ 10) (hi : k = 7 ∨ k = 8 ∨ k = 9 → 0 ≤ i ∧ i < C) :
    Calls Tryz.prog 121 #[(.agg #[.int .i64 V, .int .i64 32, .int .i64 C, .int .i64 P, .int .u64 (S), u]), .int .i64 k, .int .i64 i] w fun e w' => e = .returned (.int .u64 (fst 32 C S k i)) ∧ Ext w w' := by
  have : k = 0 ∨ k = 1 ∨ k = 2 ∨ k = 3 ∨ k = 4 ∨ k = 5 ∨ k = 6 ∨ k = 7 ∨ k = 8 ∨ k = 9 ∨ k = 10 := by omega
  rcases this with rfl | rfl | rfl | rfl | rfl | rfl | rfl | rfl | rfl | rfl | rfl
  · exact first32_0 V C P S i u ups w hL hll hn hg hS0 hS1
  · exact first32_1 V C P S i u ups w hL hll hn hg hS0 hS1
  · exact first32_2 V C P S i u ups w hL hll hn hg hS0 hS1
  · exact first32_3 V C P S i u ups w hL hll hn hg hS0 hS1
  · exact first32_4 V C P S i u ups w hL hll hn hg hS0 hS1
  · exact first32_5 V C P S i u ups w hL hll hn hg hS0 hS1
  · exact first32_6 V C P S i u ups w hL hll hn hg hS0 hS1
  · exact first32_7 V C P S i u ups w hL hll hn hg hS0 hS1 (hi (by omega)).1 (hi (by omega)).2
  · exact first32_8 V C P S i u ups w hL hll hn hg hS0 hS1 (hi (by omega)).1 (hi (by omega)).2
  · exact first32_9 V C P S i u ups w hL hll hn hg hS0 hS1 (hi (by omega)).1 (hi (by omega)).2
  · exact first32_10 V C P S i u ups w hL hll hn hg hS0 hS1
set_option maxRecDepth 100000 in
theorem lFirst32 (V C P S : Int) (a : Option Addr) (cap : Nat) (ups : List (List Int)) (Cu Cl Ti Se Ne Ma Sl Ce c k i : Int) (w : World) (hL : ListsV w (.slice a ups.length cap) ups) (hll : ∀ l ∈ ups, l.length ≤ 1000000) (hn : ups.length ≤ 1000000) (hg : ckC V 32 C P ups = 0) (hS0 : 0 ≤ S) (hS1 : S < 18446744073709551616)
    (h0 : 0 ≤ Sl) (hM0 : -1 ≤ Ma) (hM1 : Ma ≤ 1000) (hCe : Ce ≤ 1000) (hu : useL V ups.length Cu Cl Ti Se Ne Ma Sl Ce c = (k, i)) (hi : k = 7 ∨ k = 8 ∨ k = 9 → 0 ≤ i ∧ i < C) :
    Calls Tryz.prog 69 #[(.agg #[.int .i64 V, .int .i64 32, .int .i64 C, .int .i64 P, .int .u64 S, .slice a ups.length cap, .int .i64 Cu, .int .i64 Cl, .int .i64 Ti, .int .i64 Se, .int .i64 Ne, .int .i64 Ma, .int .i64 Sl, .int .i64 Ce]), .int .i64 c] w fun e w' => e = .returned (.int .u64 (fst 32 C S k i)) ∧ Ext w w' := by
  have CU := fun w => lUse V 32 C P S a ups.length cap Cu Cl Ti Se Ne Ma Sl Ce c w h0 hM0 hM1 hCe
  have b := use_le V ups.length Cu Cl Ti Se Ne Ma Sl Ce c
  rw [hu] at CU b
  simp only [] at CU b
  have CF := Lib.hid (fun w' (hx : Ext w w') => firstAll32 V C P S k i _ ups w' (hL.ext hx) hll hn hg hS0 hS1 b.1 b.2 hi)
  have HCU := Lib.hid CU
  clear hL hll hg hu hi CU b h0 hM0 hM1 hCe
  generalize fst 32 C S k i = r at *
  generalize ups.length = n at *
  go_enter Tryz.func69, Tryz.ntmps69
  go_wp2_with fail
  refine (HCU.out _).mono ?_
  rintro e w1 ⟨rfl, hb1⟩
  obtain ⟨hc1, hf1⟩ := hb1.cells
  clear hc1 hf1
  have ql_0 : w1.cell? ⟨w.heap.size, 0, none⟩ = some (.int .i64 V) := (hb1.cells.1 _ _ (by simp <;> omega)).trans (by simp [go_sem])
  have ql_1 : w1.cell? ⟨w.heap.size, 1, none⟩ = some (.int .i64 32) := (hb1.cells.1 _ _ (by simp <;> omega)).trans (by simp [go_sem])
  have ql_2 : w1.cell? ⟨w.heap.size, 2, none⟩ = some (.int .i64 C) := (hb1.cells.1 _ _ (by simp <;> omega)).trans (by simp [go_sem])
  have ql_3 : w1.cell? ⟨w.heap.size, 3, none⟩ = some (.int .i64 P) := (hb1.cells.1 _ _ (by simp <;> omega)).trans (by simp [go_sem])
  have ql_4 : w1.cell? ⟨w.heap.size, 4, none⟩ = some (.int .u64 S) := (hb1.cells.1 _ _ (by simp <;> omega)).trans (by simp [go_sem])
  have ql_5 : w1.cell? ⟨w.heap.size, 5, none⟩ = some (.slice a n cap) := (hb1.cells.1 _ _ (by simp <;> omega)).trans (by simp [go_sem])
  have ql_6 : w1.cell? ⟨w.heap.size, 6, none⟩ = some (.int .i64 Cu) := (hb1.cells.1 _ _ (by simp <;> omega)).trans (by simp [go_sem])
  have ql_7 : w1.cell? ⟨w.heap.size, 7, none⟩ = some (.int .i64 Cl) := (hb1.cells.1 _ _ (by simp <;> omega)).trans (by simp [go_sem])
  have ql_8 : w1.cell? ⟨w.heap.size, 8, none⟩ = some (.int .i64 Ti) := (hb1.cells.1 _ _ (by simp <;> omega)).trans (by simp [go_sem])
  have ql_9 : w1.cell? ⟨w.heap.size, 9, none⟩ = some (.int .i64 Se) := (hb1.cells.1 _ _ (by simp <;> omega)).trans (by simp [go_sem])
  have ql_10 : w1.cell? ⟨w.heap.size, 10, none⟩ = some (.int .i64 Ne) := (hb1.cells.1 _ _ (by simp <;> omega)).trans (by simp [go_sem])
  have ql_11 : w1.cell? ⟨w.heap.size, 11, none⟩ = some (.int .i64 Ma) := (hb1.cells.1 _ _ (by simp <;> omega)).trans (by simp [go_sem])
  have ql_12 : w1.cell? ⟨w.heap.size, 12, none⟩ = some (.int .i64 Sl) := (hb1.cells.1 _ _ (by simp <;> omega)).trans (by simp [go_sem])
  have ql_13 : w1.cell? ⟨w.heap.size, 13, none⟩ = some (.int .i64 Ce) := (hb1.cells.1 _ _ (by simp <;> omega)).trans (by simp [go_sem])
  have pl := World.block_lt_of_cell? _ ⟨w.heap.size, 0, none⟩ ql_0
  have rl := Nat.lt_succ_of_lt pl
  go_wp2_with fail
  refine (CF.out _ (by repeat (first | with_reducible exact Ext.refl _ | with_reducible assumption | with_reducible refine Ext.alloc ?_ _ | with_reducible refine Ext.drew ?_ | with_reducible refine Ext.drewN ?_ _ | with_reducible refine Ext.setCell ?_ (by simp <;> omega) _ | with_reducible refine Ext.trans ?_ (by assumption)))).mono ?_
  rintro e w2 ⟨rfl, hb2⟩
  have hx2 : Ext w1 w2 := by repeat (first | with_reducible exact Ext.refl _ | with_reducible assumption | with_reducible refine Ext.alloc ?_ _ | with_reducible refine Ext.drew ?_ | with_reducible refine Ext.drewN ?_ _ | with_reducible refine Ext.setCell ?_ (by simp <;> omega) _ | with_reducible refine Ext.trans ?_ (by assumption))
  replace ql_0 := hx2.cell ql_0
  replace ql_1 := hx2.cell ql_1
  replace ql_2 := hx2.cell ql_2
  replace ql_3 := hx2.cell ql_3
  replace ql_4 := hx2.cell ql_4
  replace ql_5 := hx2.cell ql_5
  replace ql_6 := hx2.cell ql_6
  replace ql_7 := hx2.cell ql_7
  replace ql_8 := hx2.cell ql_8
  replace ql_9 := hx2.cell ql_9
  replace ql_10 := hx2.cell ql_10
  replace ql_11 := hx2.cell ql_11
  replace ql_12 := hx2.cell ql_12
  replace ql_13 := hx2.cell ql_13
  replace pl := Nat.lt_of_lt_of_le pl hx2.size
  replace rl := Nat.lt_succ_of_lt pl
  clear hx2
  go_wp2
  go_ret
  refine ⟨rfl, ?_⟩
  repeat (first | with_reducible exact Ext.refl _ | with_reducible assumption | with_reducible refine Ext.alloc ?_ _ | with_reducible refine Ext.drew ?_ | with_reducible refine Ext.drewN ?_ _ | with_reducible refine Ext.setCell ?_ (by simp <;> omega) _ | with_reducible refine Ext.trans ?_ (by assumption))
theorem first64_1 (V C P S i : Int) (u : Value) (ups : List (List Int)) (w : World) (hL : ListsV w u ups) (hll : ∀ l ∈ ups, l.length ≤ 1000000) (hn : ups.length ≤ 1000000) (hg : ckC V 64 C P ups = 0) (hS0 : 0 ≤ S) (hS1 : S < 18446744073709551616) :
    Calls Tryz.prog 122 #[(.agg #[.int .i64 V, .int .i64 64, .int .i64 C, .int .i64 P, .int .u64 (S), u]), .int .i64 1, .int .i64 i] w fun e w' => e = .returned (.int .u64 (cutS 64 S)) ∧ Ext w w' := by
  obtain ⟨a, cap, e, -⟩ := id hL
  subst e
  have CS := Lib.hid (fun w' (hx : Ext w w') => cStart_ok V 64 C P S _ ups w' (hL.ext hx) hll hn hg hS0 hS1)
  clear hL hll hg
  generalize ups.length = n at *
  have hc : 0 ≤ cutS 64 S ∧ cutS 64 S < 18446744073709551616 := by unfold cutS; simp only [reduceIte, Int.reduceEq]; omega
  obtain ⟨hc0, hc1⟩ := hc
  generalize cutS 64 S = p at *
  go_enter Tryz.func122, Tryz.ntmps122
  go_wp2_with fail
  refine (CS.out _ (by repeat (first | with_reducible exact Ext.refl _ | with_reducible assumption | with_reducible refine Ext.alloc ?_ _ | with_reducible refine Ext.drew ?_ | with_reducible refine Ext.drewN ?_ _ | with_reducible refine Ext.setCell ?_ (by simp <;> omega) _ | with_reducible refine Ext.trans ?_ (by assumption)))).mono ?_
  rintro e w1 ⟨rfl, hb1⟩
  obtain ⟨hc1, hf1⟩ := hb1.cells
  go_wp2
  go_ret
  refine ⟨rfl, ?_⟩
  repeat (first | with_reducible exact Ext.refl _ | with_reducible assumption | with_reducible refine Ext.alloc ?_ _ | with_reducible refine Ext.drew ?_ | with_reducible refine Ext.drewN ?_ _ | with_reducible refine Ext.setCell ?_ (by simp <;> omega) _ | with_reducible refine Ext.trans ?_ (by assumption))
theorem first64_2 (V C P S i : Int) (u : Value) (ups : List (List Int)) (w : World) (hL : ListsV w u ups) (hll : ∀ l ∈ ups, l.length ≤ 1000000) (hn : ups.length ≤ 1000000) (hg : ckC V 64 C P ups = 0) (hS0 : 0 ≤ S) (hS1 : S < 18446744073709551616) :
    Calls Tryz.prog 122 #[(.agg #[.int .i64 V, .int .i64 64, .int .i64 C, .int .i64 P, .int .u64 (S), u]), .int .i64 2, .int .i64 i] w fun e w' => e = .returned (.int .u64 (cutS 64 S)) ∧ Ext w w' := by
  obtain ⟨a, cap, e, -⟩ := id hL
  subst e
  have CS := Lib.hid (fun w' (hx : Ext w w') => cStart_ok V 64 C P S _ ups w' (hL.ext hx) hll hn hg hS0 hS1)
  clear hL hll hg
  generalize ups.length = n at *
  have hc : 0 ≤ cutS 64 S ∧ cutS 64 S < 18446744073709551616 := by unfold cutS; simp only [reduceIte, Int.reduceEq]; omega
  obtain ⟨hc0, hc1⟩ := hc
  generalize cutS 64 S = p at *
  go_enter Tryz.func122, Tryz.ntmps122
  go_wp2_with fail
  refine (CS.out _ (by repeat (first | with_reducible exact Ext.refl _ | with_reducible assumption | with_reducible refine Ext.alloc ?_ _ | with_reducible refine Ext.drew ?_ | with_reducible refine Ext.drewN ?_ _ | with_reducible refine Ext.setCell ?_ (by simp <;> omega) _ | with_reducible refine Ext.trans ?_ (by assumption)))).mono ?_
  rintro e w1 ⟨rfl, hb1⟩
  obtain ⟨hc1, hf1⟩ := hb1.cells
  go_wp2
  go_ret
  refine ⟨rfl, ?_⟩
  repeat (first | with_reducible exact Ext.refl _ | with_reducible assumption | with_reducible refine Ext.alloc ?_ _ | with_reducible refine Ext.drew ?_ | with_reducible refine Ext.drewN ?_ _ | with_reducible refine Ext.setCell ?_ (by simp <;> omega) _ | with_reducible refine Ext.trans ?_ (by assumption))
theorem first64_3 (V C P S i : Int) (u : Value) (ups : List (List Int)) (w : World) (hL : ListsV w u ups) (hll : ∀ l ∈ ups, l.length ≤ 1000000) (hn : ups.length ≤ 1000000) (hg : ckC V 64 C P ups = 0) (hS0 : 0 ≤ S) (hS1 : S < 18446744073709551616) :
    Calls Tryz.prog 122 #[(.agg #[.int .i64 V, .int .i64 64, .int .i64 C, .int .i64 P, .int .u64 (S), u]), .int .i64 3, .int .i64 i] w fun e w' => e = .returned (.int .u64 (cutS 64 S)) ∧ Ext w w' := by
  obtain ⟨a, cap, e, -⟩ := id hL
  subst e
  have CS := Lib.hid (fun w' (hx : Ext w w') => cStart_ok V 64 C P S _ ups w' (hL.ext hx) hll hn hg hS0 hS1)
  clear hL hll hg
  generalize ups.length = n at *
  have hc : 0 ≤ cutS 64 S ∧ cutS 64 S < 18446744073709551616 := by unfold cutS; simp only [reduceIte, Int.reduceEq]; omega
  obtain ⟨hc0, hc1⟩ := hc
  generalize cutS 64 S = p at *
  go_enter Tryz.func122, Tryz.ntmps122
  go_wp2_with fail
  refine (CS.out _ (by repeat (first | with_reducible exact Ext.refl _ | with_reducible assumption | with_reducible refine Ext.alloc ?_ _ | with_reducible refine Ext.drew ?_ | with_reducible refine Ext.drewN ?_ _ | with_reducible refine Ext.setCell ?_ (by simp <;> omega) _ | with_reducible refine Ext.trans ?_ (by assumption)))).mono ?_
  rintro e w1 ⟨rfl, hb1⟩
  obtain ⟨hc1, hf1⟩ := hb1.cells
  go_wp2
  go_ret
  refine ⟨rfl, ?_⟩
  repeat (first | with_reducible exact Ext.refl _ | with_reducible assumption | with_reducible refine Ext.alloc ?_ _ | with_reducible refine Ext.drew ?_ | with_reducible refine Ext.drewN ?_ _ | with_reducible refine Ext.setCell ?_ (by simp <;> omega) _ | with_reducible refine Ext.trans ?_ (by assumption))
theorem first64_6 (V C P S i : Int) (u : Value) (ups : List (List Int)) (w : World) (hL : ListsV w u ups) (hll : ∀ l ∈ ups, l.length ≤ 1000000) (hn : ups.length ≤ 1000000) (hg : ckC V 64 C P ups = 0) (hS0 : 0 ≤ S) (hS1 : S < 18446744073709551616) :
    Calls Tryz.prog 122 #[(.agg #[.int .i64 V, .int .i64 64, .int .i64 C, .int .i64 P, .int .u64 (S), u]), .int .i64 6, .int .i64 i] w fun e w' => e = .returned (.int .u64 (cutS 64 S)) ∧ Ext w w' := by
  obtain ⟨a, cap, e, -⟩ := id hL
  subst e
  have CS := Lib.hid (fun w' (hx : Ext w w') => cStart_ok V 64 C P S _ ups w' (hL.ext hx) hll hn hg hS0 hS1)
  clear hL hll hg
  generalize ups.length = n at *
  have hc : 0 ≤ cutS 64 S ∧ cutS 64 S < 18446744073709551616 := by unfold cutS; simp only [reduceIte, Int.reduceEq]; omega
  obtain ⟨hc0, hc1⟩ := hc
  generalize cutS 64 S = p at *
  go_enter Tryz.func122, Tryz.ntmps122
  go_wp2_with fail
  refine (CS.out _ (by repeat (first | with_reducible exact Ext.refl _ | with_reducible assumption | with_reducible refine Ext.alloc ?_ _ | with_reducible refine Ext.drew ?_ | with_reducible refine Ext.drewN ?_ _ | with_reducible refine Ext.setCell ?_ (by simp <;> omega) _ | with_reducible refine Ext.trans ?_ (by assumption)))).mono ?_
  rintro e w1 ⟨rfl, hb1⟩
  obtain ⟨hc1, hf1⟩ := hb1.cells
  go_wp2
  go_ret
  refine ⟨rfl, ?_⟩
  repeat (first | with_reducible exact Ext.refl _ | with_reducible assumption | with_reducible refine Ext.alloc ?_ _ | with_reducible refine Ext.drew ?_ | with_reducible refine Ext.drewN ?_ _ | with_reducible refine Ext.setCell ?_ (by simp <;> omega) _ | with_reducible refine Ext.trans ?_ (by assumption))
theorem first64_0 (V C P S i : Int) (u : Value) (ups : List (List Int)) (w : World) (hL : ListsV w u ups) (hll : ∀ l ∈ ups, l.length ≤ 1000000) (hn : ups.length ≤ 1000000) (hg : ckC V 64 C P ups = 0) (hS0 : 0 ≤ S) (hS1 : S < 18446744073709551616) :
    Calls Tryz.prog 122 #[(.agg #[.int .i64 V, .int .i64 64, .int .i64 C, .int .i64 P, .int .u64 (S), u]), .int .i64 0, .int .i64 i] w fun e w' => e = .returned (.int .u64 0) ∧ Ext w w' := by
  obtain ⟨a, cap, e, -⟩ := id hL
  subst e
  have CS := Lib.hid (fun w' (hx : Ext w w') => cStart_ok V 64 C P S _ ups w' (hL.ext hx) hll hn hg hS0 hS1)
  clear hL hll hg
  generalize ups.length = n at *
  have hc : 0 ≤ cutS 64 S ∧ cutS 64 S < 18446744073709551616 := by unfold cutS; simp only [reduceIte, Int.reduceEq]; omega
  obtain ⟨hc0, hc1⟩ := hc
  generalize cutS 64 S = p at *
  go_enter Tryz.func122, Tryz.ntmps122
  go_wp2_with fail
  refine (CS.out _ (by repeat (first | with_reducible exact Ext.refl _ | with_reducible assumption | with_reducible refine Ext.alloc ?_ _ | with_reducible refine Ext.drew ?_ | with_reducible refine Ext.drewN ?_ _ | with_reducible refine Ext.setCell ?_ (by simp <;> omega) _ | with_reducible refine Ext.trans ?_ (by assumption)))).mono ?_
  rintro e w1 ⟨rfl, hb1⟩
  obtain ⟨hc1, hf1⟩ := hb1.cells
  go_wp2
  go_ret
  refine ⟨rfl, ?_⟩
  repeat (first | with_reducible exact Ext.refl _ | with_reducible assumption | with_reducible refine Ext.alloc ?_ _ | with_reducible refine Ext.drew ?_ | with_reducible refine Ext.drewN ?_ _ | with_reducible refine Ext.setCell ?_ (by simp <;> omega) _ | with_reducible refine Ext.trans ?_ (by assumption))
theorem first64_4 (V C P S i : Int) (u : Value) (ups : List (List Int)) (w : World) (hL : ListsV w u ups) (hll : ∀ l ∈ ups, l.length ≤ 1000000) (hn : ups.length ≤ 1000000) (hg : ckC V 64 C P ups = 0) (hS0 : 0 ≤ S) (hS1 : S < 18446744073709551616) :
    Calls Tryz.prog 122 #[(.agg #[.int .i64 V, .int .i64 64, .int .i64 C, .int .i64 P, .int .u64 (S), u]), .int .i64 4, .int .i64 i] w fun e w' => e = .returned (.int .u64 0) ∧ Ext w w' := by
  obtain ⟨a, cap, e, -⟩ := id hL
  subst e
  have CS := Lib.hid (fun w' (hx : Ext w w') => cStart_ok V 64 C P S _ ups w' (hL.ext hx) hll hn hg hS0 hS1)
  clear hL hll hg
  generalize ups.length = n at *
  have hc : 0 ≤ cutS 64 S ∧ cutS 64 S < 18446744073709551616 := by unfold cutS; simp only [reduceIte, Int.reduceEq]; omega
  obtain ⟨hc0, hc1⟩ := hc
  generalize cutS 64 S = p at *
  go_enter Tryz.func122, Tryz.ntmps122
  go_wp2_with fail
  refine (CS.out _ (by repeat (first | with_reducible exact Ext.refl _ | with_reducible assumption | with_reducible refine Ext.alloc ?_ _ | with_reducible refine Ext.drew ?_ | with_reducible refine Ext.drewN ?_ _ | with_reducible refine Ext.setCell ?_ (by simp <;> omega) _ | with_reducible refine Ext.trans ?_ (by assumption)))).mono ?_
  rintro e w1 ⟨rfl, hb1⟩
  obtain ⟨hc1, hf1⟩ := hb1.cells
  go_wp2
  go_ret
  refine ⟨rfl, ?_⟩
  repeat (first | with_reducible exact Ext.refl _ | with_reducible assumption | with_reducible refine Ext.alloc ?_ _ | with_reducible refine Ext.drew ?_ | with_reducible refine Ext.drewN ?_ _ | with_reducible refine Ext.setCell ?_ (by simp <;> omega) _ | with_reducible refine Ext.trans ?_ (by assumption))
theorem first64_5 (V C P S i : Int) (u : Value) (ups : List (List Int)) (w : World) (hL : ListsV w u ups) (hll : ∀ l ∈ ups, l.length ≤ 1000000) (hn : ups.length ≤ 1000000) (hg : ckC V 64 C P ups = 0) (hS0 : 0 ≤ S) (hS1 : S < 18446744073709551616) :
    Calls Tryz.prog 122 #[(.agg #[.int .i64 V, .int .i64 64, .int .i64 C, .int .i64 P, .int .u64 (S), u]), .int .i64 5, .int .i64 i] w fun e w' => e = .returned (.int .u64 0) ∧ Ext w w' := by
  obtain ⟨a, cap, e, -⟩ := id hL
  subst e
  have CS := Lib.hid (fun w' (hx : Ext w w') => cStart_ok V 64 C P S _ ups w' (hL.ext hx) hll hn hg hS0 hS1)
  clear hL hll hg
  generalize ups.length = n at *
  have hc : 0 ≤ cutS 64 S ∧ cutS 64 S < 18446744073709551616 := by unfold cutS; simp only [reduceIte, Int.reduceEq]; omega
  obtain ⟨hc0, hc1⟩ := hc
  generalize cutS 64 S = p at *
  go_enter Tryz.func122, Tryz.ntmps122
  go_wp2_with fail
  refine (CS.out _ (by repeat (first | with_reducible exact Ext.refl _ | with_reducible assumption | with_reducible refine Ext.alloc ?_ _ | with_reducible refine Ext.drew ?_ | with_reducible refine Ext.drewN ?_ _ | with_reducible refine Ext.setCell ?_ (by simp <;> omega) _ | with_reducible refine Ext.trans ?_ (by assumption)))).mono ?_
  rintro e w1 ⟨rfl, hb1⟩
  obtain ⟨hc1, hf1⟩ := hb1.cells
  go_wp2
  go_ret
  refine ⟨rfl, ?_⟩
  repeat (first | with_reducible exact Ext.refl _ | with_reducible assumption | with_reducible refine Ext.alloc ?_ _ | with_reducible refine Ext.drew ?_ | with_reducible refine Ext.drewN ?_ _ | with_reducible refine Ext.setCell ?_ (by simp <;> omega) _ | with_reducible refine Ext.trans ?_ (by assumption))
theorem first64_10 (V C P S i : Int) (u : Value) (ups : List (List Int)) (w : World) (hL : ListsV w u ups) (hll : ∀ l ∈ ups, l.length ≤ 1000000) (hn : ups.length ≤ 1000000) (hg : ckC V 64 C P ups = 0) (hS0 : 0 ≤ S) (hS1 : S < 18446744073709551616) :
    Calls Tryz.prog 122 #[(.agg #[.int .i64 V, .int .i64 64, .int .i64 C, .int .i64 P, .int .u64 (S), u]), .int .i64 10, .int .i64 i] w fun e w' => e = .returned (.int .u64 0) ∧ Ext w w' := by
  obtain ⟨a, cap, e, -⟩ := id hL
  subst e
  have CS := Lib.hid (fun w' (hx : Ext w w') => cStart_ok V 64 C P S _ ups w' (hL.ext hx) hll hn hg hS0 hS1)
  clear hL hll hg
  generalize ups.length = n at *
  have hc : 0 ≤ cutS 64 S ∧ cutS 64 S < 18446744073709551616 := by unfold cutS; simp only [reduceIte, Int.reduceEq]; omega
  obtain ⟨hc0, hc1⟩ := hc
  generalize cutS 64 S = p at *
  go_enter Tryz.func122, Tryz.ntmps122
  go_wp2_with fail
  refine (CS.out _ (by repeat (first | with_reducible exact Ext.refl _ | with_reducible assumption | with_reducible refine Ext.alloc ?_ _ | with_reducible refine Ext.drew ?_ | with_reducible refine Ext.drewN ?_ _ | with_reducible refine Ext.setCell ?_ (by simp <;> omega) _ | with_reducible refine Ext.trans ?_ (by assumption)))).mono ?_
  rintro e w1 ⟨rfl, hb1⟩
  obtain ⟨hc1, hf1⟩ := hb1.cells
  go_wp2
  go_ret
  refine ⟨rfl, ?_⟩
  repeat (first | with_reducible exact Ext.refl _ | with_reducible assumption | with_reducible refine Ext.alloc ?_ _ | with_reducible refine Ext.drew ?_ | with_reducible refine Ext.drewN ?_ _ | with_reducible refine Ext.setCell ?_ (by simp <;> omega) _ | with_reducible refine Ext.trans ?_ (by assumption))
theorem first64_7 (V C P S i : Int) (u : Value) (ups : List (List Int)) (w : World) (hL : ListsV w u ups) (hll : ∀ l ∈ ups, l.length ≤ 1000000) (hn : ups.length ≤ 1000000) (hg : ckC V 64 C P ups = 0) (hS0 : 0 ≤ S) (hS1 : S < 18446744073709551616) (hi0 : 0 ≤ i) (hi1 : i < C) :
    Calls Tryz.prog 122 #[(.agg #[.int .i64 V, .int .i64 64, .int .i64 C, .int .i64 P, .int .u64 (S), u]), .int .i64 7, .int .i64 i] w fun e w' => e = .returned (.int .u64 (aheadR 64 C i (cutS 64 S))) ∧ Ext w w' := by
  obtain ⟨a, cap, e, -⟩ := id hL
  subst e
  have CS := Lib.hid (fun w' (hx : Ext w w') => cStart_ok V 64 C P S _ ups w' (hL.ext hx) hll hn hg hS0 hS1)
  have hrc := (ok_iff.1 hg).rc
  clear hL hll hg
  generalize ups.length = n at *
  have hc : 0 ≤ cutS 64 S ∧ cutS 64 S < 18446744073709551616 := by unfold cutS; simp only [reduceIte, Int.reduceEq]; omega
  obtain ⟨hc0, hc1⟩ := hc
  generalize cutS 64 S = p at *
  have CA := fun w => aheadU64 C i p w hrc hi0 hi1 hc0 hc1
  rw [show aheadR 64 C i p = U64 (p + (i - p) % C - C) / C by simp [aheadR]]
  have hr := ahead_bound64 (p + (i - p) % C - C) hrc
  generalize U64 (p + (i - p) % C - C) / C = r at *
  obtain ⟨hr0, hr1⟩ := hr
  have HCA := Lib.hid CA
  clear CA
  go_enter Tryz.func122, Tryz.ntmps122
  go_wp2_with fail
  refine (CS.out _ (by repeat (first | with_reducible exact Ext.refl _ | with_reducible assumption | with_reducible refine Ext.alloc ?_ _ | with_reducible refine Ext.drew ?_ | with_reducible refine Ext.drewN ?_ _ | with_reducible refine Ext.setCell ?_ (by simp <;> omega) _ | with_reducible refine Ext.trans ?_ (by assumption)))).mono ?_
  rintro e w1 ⟨rfl, hb1⟩
  obtain ⟨hc1, hf1⟩ := hb1.cells
  clear hc1 hf1
  have qc_0 : w1.cell? ⟨w.heap.size, 0, none⟩ = some (.int .i64 V) := (hb1.cells.1 _ _ (by simp <;> omega)).trans (by simp [go_sem])
  have qc_1 : w1.cell? ⟨w.heap.size, 1, none⟩ = some (.int .i64 64) := (hb1.cells.1 _ _ (by simp <;> omega)).trans (by simp [go_sem])
  have qc_2 : w1.cell? ⟨w.heap.size, 2, none⟩ = some (.int .i64 C) := (hb1.cells.1 _ _ (by simp <;> omega)).trans (by simp [go_sem])
  have qc_3 : w1.cell? ⟨w.heap.size, 3, none⟩ = some (.int .i64 P) := (hb1.cells.1 _ _ (by simp <;> omega)).trans (by simp [go_sem])
  have qc_4 : w1.cell? ⟨w.heap.size, 4, none⟩ = some (.int .u64 (S)) := (hb1.cells.1 _ _ (by simp <;> omega)).trans (by simp [go_sem])
  have qc_5 : w1.cell? ⟨w.heap.size, 5, none⟩ = some (.slice a n cap) := (hb1.cells.1 _ _ (by simp <;> omega)).trans (by simp [go_sem])
  have pc := World.block_lt_of_cell? _ ⟨w.heap.size, 0, none⟩ qc_0
  have rc := Nat.lt_succ_of_lt pc
  go_wp2_with fail
  refine (HCA.out _).mono ?_
  rintro e w' ⟨rfl, rfl⟩
  go_wp2
  go_ret
  refine ⟨rfl, ?_⟩
  repeat (first | with_reducible exact Ext.refl _ | with_reducible assumption | with_reducible refine Ext.alloc ?_ _ | with_reducible refine Ext.drew ?_ | with_reducible refine Ext.drewN ?_ _ | with_reducible refine Ext.setCell ?_ (by simp <;> omega) _ | with_reducible refine Ext.trans ?_ (by assumption))
theorem first64_9 (V C P S i : Int) (u : Value) (ups : List (List Int)) (w : World) (hL : ListsV w u ups) (hll : ∀ l ∈ ups, l.length ≤ 1000000) (hn : ups.length ≤ 1000000) (hg : ckC V 64 C P ups = 0) (hS0 : 0 ≤ S) (hS1 : S < 18446744073709551616) (hi0 : 0 ≤ i) (hi1 : i < C) :
    Calls Tryz.prog 122 #[(.agg #[.int .i64 V, .int .i64 64, .int .i64 C, .int .i64 P, .int .u64 (S), u]), .int .i64 9, .int .i64 i] w fun e w' => e = .returned (.int .u64 (aheadR 64 C i (cutS 64 S))) ∧ Ext w w' := by
  obtain ⟨a, cap, e, -⟩ := id hL
  subst e
  have CS := Lib.hid (fun w' (hx : Ext w w') => cStart_ok V 64 C P S _ ups w' (hL.ext hx) hll hn hg hS0 hS1)
  have hrc := (ok_iff.1 hg).rc
  clear hL hll hg
  generalize ups.length = n at *
  have hc : 0 ≤ cutS 64 S ∧ cutS 64 S < 18446744073709551616 := by unfold cutS; simp only [reduceIte, Int.reduceEq]; omega
  obtain ⟨hc0, hc1⟩ := hc
  generalize cutS 64 S = p at *
  have CA := fun w => aheadU64 C i p w hrc hi0 hi1 hc0 hc1
  rw [show aheadR 64 C i p = U64 (p + (i - p) % C - C) / C by simp [aheadR]]
  have hr := ahead_bound64 (p + (i - p) % C - C) hrc
  generalize U64 (p + (i - p) % C - C) / C = r at *
  obtain ⟨hr0, hr1⟩ := hr
  have HCA := Lib.hid CA
  clear CA
  go_enter Tryz.func122, Tryz.ntmps122
  go_wp2_with fail
  refine (CS.out _ (by repeat (first | with_reducible exact Ext.refl _ | with_reducible assumption | with_reducible refine Ext.alloc ?_ _ | with_reducible refine Ext.drew ?_ | with_reducible refine Ext.drewN ?_ _ | with_reducible refine Ext.setCell ?_ (by simp <;> omega) _ | with_reducible refine Ext.trans ?_ (by assumption)))).mono ?_
  rintro e w1 ⟨rfl, hb1⟩
  obtain ⟨hc1, hf1⟩ := hb1.cells
  clear hc1 hf1
  have qc_0 : w1.cell? ⟨w.heap.size, 0, none⟩ = some (.int .i64 V) := (hb1.cells.1 _ _ (by simp <;> omega)).trans (by simp [go_sem])
  have qc_1 : w1.cell? ⟨w.heap.size, 1, none⟩ = some (.int .i64 64) := (hb1.cells.1 _ _ (by simp <;> omega)).trans (by simp [go_sem])
  have qc_2 : w1.cell? ⟨w.heap.size, 2, none⟩ = some (.int .i64 C) := (hb1.cells.1 _ _ (by simp <;> omega)).trans (by simp [go_sem])
  have qc_3 : w1.cell? ⟨w.heap.size, 3, none⟩ = some (.int .i64 P) := (hb1.cells.1 _ _ (by simp <;> omega)).trans (by simp [go_sem])
  have qc_4 : w1.cell? ⟨w.heap.size, 4, none⟩ = some (.int .u64 (S)) := (hb1.cells.1 _ _ (by simp <;> omega)).trans (by simp [go_sem])
  have qc_5 : w1.cell? ⟨w.heap.size, 5, none⟩ = some (.slice a n cap) := (hb1.cells.1 _ _ (by simp <;> omega)).trans (by simp [go_sem])
  have pc := World.block_lt_of_cell? _ ⟨w.heap.size, 0, none⟩ qc_0
  have rc := Nat.lt_succ_of_lt pc
  go_wp2_with fail
  refine (HCA.out _).mono ?_
  rintro e w' ⟨rfl, rfl⟩
  go_wp2
  go_ret
  refine ⟨rfl, ?_⟩
  repeat (first | with_reducible exact Ext.refl _ | with_reducible assumption | with_reducible refine Ext.alloc ?_ _ | with_reducible refine Ext.drew ?_ | with_reducible refine Ext.drewN ?_ _ | with_reducible refine Ext.setCell ?_ (by simp <;> omega) _ | with_reducible refine Ext.trans ?_ (by assumption))
theorem first64_8 (V C P S i : Int) (u : Value) (ups : List (List Int)) (w : World) (hL : ListsV w u ups) (hll : ∀ l ∈ ups, l.length ≤ 1000000) (hn : ups.length ≤ 1000000) (hg : ckC V 64 C P ups = 0) (hS0 : 0 ≤ S) (hS1 : S < 18446744073709551616) (hi0 : 0 ≤ i) (hi1 : i < C) :
    Calls Tryz.prog 122 #[(.agg #[.int .i64 V, .int .i64 64, .int .i64 C, .int .i64 P, .int .u64 (S), u]), .int .i64 8, .int .i64 i] w fun e w' => e = .returned (.int .u64 (firstR 64 C i (cutS 64 S))) ∧ Ext w w' := by
  obtain ⟨a, cap, e, -⟩ := id hL
  subst e
  have CS := Lib.hid (fun w' (hx : Ext w w') => cStart_ok V 64 C P S _ ups w' (hL.ext hx) hll hn hg hS0 hS1)
  have hrc := (ok_iff.1 hg).rc
  clear hL hll hg
  generalize ups.length = n at *
  have hc : 0 ≤ cutS 64 S ∧ cutS 64 S < 18446744073709551616 := by unfold cutS; simp only [reduceIte, Int.reduceEq]; omega
  obtain ⟨hc0, hc1⟩ := hc
  generalize cutS 64 S = p at *
  have CA := fun w => firstU64 C i p w hrc hi0 hi1 hc0 hc1
  rw [show firstR 64 C i p = U64 (p + (i - p) % C) by simp [firstR]]
  have hr := first_bound64 (p + (i - p) % C)
  generalize U64 (p + (i - p) % C) = r at *
  obtain ⟨hr0, hr1⟩ := hr
  have HCA := Lib.hid CA
  clear CA
  go_enter Tryz.func122, Tryz.ntmps122
  go_wp2_with fail
  refine (CS.out _ (by repeat (first | with_reducible exact Ext.refl _ | with_reducible assumption | with_reducible refine Ext.alloc ?_ _ | with_reducible refine Ext.drew ?_ | with_reducible refine Ext.drewN ?_ _ | with_reducible refine Ext.setCell ?_ (by simp <;> omega) _ | with_reducible refine Ext.trans ?_ (by assumption)))).mono ?_
  rintro e w1 ⟨rfl, hb1⟩
  obtain ⟨hc1, hf1⟩ := hb1.cells
  clear hc1 hf1
  have qc_0 : w1.cell? ⟨w.heap.size, 0, none⟩ = some (.int .i64 V) := (hb1.cells.1 _ _ (by simp <;> omega)).trans (by simp [go_sem])
  have qc_1 : w1.cell? ⟨w.heap.size, 1, none⟩ = some (.int .i64 64) := (hb1.cells.1 _ _ (by simp <;> omega)).trans (by simp [go_sem])
  have qc_2 : w1.cell? ⟨w.heap.size, 2, none⟩ = some (.int .i64 C) := (hb1.cells.1 _ _ (by simp <;> omega)).trans (by simp [go_sem])
  have qc_3 : w1.cell? ⟨w.heap.size, 3, none⟩ = some (.int .i64 P) := (hb1.cells.1 _ _ (by simp <;> omega)).trans (by simp [go_sem])
  have qc_4 : w1.cell? ⟨w.heap.size, 4, none⟩ = some (.int .u64 (S)) := (hb1.cells.1 _ _ (by simp <;> omega)).trans (by simp [go_sem])
  have qc_5 : w1.cell? ⟨w.heap.size, 5, none⟩ = some (.slice a n cap) := (hb1.cells.1 _ _ (by simp <;> omega)).trans (by simp [go_sem])
  have pc := World.block_lt_of_cell? _ ⟨w.heap.size, 0, none⟩ qc_0
  have rc := Nat.lt_succ_of_lt pc
  go_wp2_with fail
  refine (HCA.out _).mono ?_
  rintro e w' ⟨rfl, rfl⟩
  go_wp2
  go_ret
  refine ⟨rfl, ?_⟩
  repeat (first | with_reducible exact Ext.refl _ | with_reducible assumption | with_reducible refine Ext.alloc ?_ _ | with_reducible refine Ext.drew ?_ | with_reducible refine Ext.drewN ?_ _ | with_reducible refine Ext.setCell ?_ (by simp <;> omega) _ | with_reducible refine Ext.trans ?_ (by assumption))
theorem firstAll64 (V C P S k i : Int) (u : Value) (ups : List (List Int)) (w : World) (hL : ListsV w u ups) (hll : ∀ l ∈ ups, l.length ≤ 1000000) (hn : ups.length ≤ 1000000) (hg : ckC V 64 C P ups = 0) (hS0 : 0 ≤ S) (hS1 : S < 18446744073709551616) (hk0 : 0 ≤ k) (hk1 : k ≤ 10) (hi : k = 7 ∨ k = 8 ∨ k = 9 → 0 ≤ i ∧ i < C) :
    Calls Tryz.prog 122 #[(.agg #[.int .i64 V, .int .i64 64, .int .i64 C, .int .i64 P, .int .u64 (S), u]), .int .i64 k, .int .i64 i] w fun e w' => e = .returned (.int .u64 (fst 64 C S k i)) ∧ Ext w w' := by
  have : k = 0 ∨ k = 1 ∨ k = 2 ∨ k = 3 ∨ k = 4 ∨ k = 5 ∨ k = 6 ∨ k = 7 ∨ k = 8 ∨ k = 9 ∨ k = 10 := by omega
  rcases this with rfl | rfl | rfl | rfl | rfl | rfl | rfl | rfl | rfl | rfl | rfl
  · exact first64_0 V C P S i u ups w hL hll hn hg hS0 hS1
  · exact first64_1 V C P S i u ups w hL hll hn hg hS0 hS1
  · exact first64_2 V C P S i u ups w hL hll hn hg hS0 hS1
  · exact first64_3 V C P S i u ups w hL hll hn hg hS0 hS1
  · exact first64_4 V C P S i u ups w hL hll hn hg hS0 hS1
  · exact first64_5 V C P S i u ups w hL hll hn hg hS0 hS1
  · exact first64_6 V C P S i u ups w hL hll hn hg hS0 hS1
  · exact first64_7 V C P S i u ups w hL hll hn hg hS0 hS1 (hi (by omega)).1 (hi (by omega)).2
  · exact first64_8 V C P S i u ups w hL hll hn hg hS0 hS1 (hi (by omega)).1 (hi (by omega)).2
  · exact first64_9 V C P S i u ups w hL hll hn hg hS0 hS1 (hi (by omega)).1 (hi (by omega)).2
  · exact first64_10 V C P S i u ups w hL hll hn hg hS0 hS1
set_option maxRecDepth 100000 in
theorem lFirst64 (V C P S : Int) (a : Option Addr) (cap : Nat) (ups : List (List Int)) (Cu Cl Ti Se Ne Ma Sl Ce c k i : Int) (w : World) (hL : ListsV w (.slice a ups.length cap) ups) (hll : ∀ l ∈ ups, l.length ≤ 1000000) (hn : ups.length ≤ 1000000) (hg : ckC V 64 C P ups = 0) (hS0 : 0 ≤ S) (hS1 : S < 18446744073709551616)
    (h0 : 0 ≤ Sl) (hM0 : -1 ≤ Ma) (hM1 : Ma ≤ 1000) (hCe : Ce ≤ 1000) (hu : useL V ups.length Cu Cl Ti Se Ne Ma Sl Ce c = (k, i)) (hi : k = 7 ∨ k = 8 ∨ k = 9 → 0 ≤ i ∧ i < C) :
    Calls Tryz.prog 69 #[(.agg #[.int .i64 V, .int .i64 64, .int .i64 C, .int .i64 P, .int .u64 S, .slice a ups.length cap, .int .i64 Cu, .int .i64 Cl, .int .i64 Ti, .int .i64 Se, .int .i64 Ne, .int .i64 Ma, .int .i64 Sl, .int .i64 Ce]), .int .i64 c] w fun e w' => e = .returned (.int .u64 (fst 64 C S k i)) ∧ Ext w w' := by
  have CU := fun w => lUse V 64 C P S a ups.length cap Cu Cl Ti Se Ne Ma Sl Ce c w h0 hM0 hM1 hCe
  have b := use_le V ups.length Cu Cl Ti Se Ne Ma Sl Ce c
  rw [hu] at CU b
  simp only [] at CU b
  have CF := Lib.hid (fun w' (hx : Ext w w') => firstAll64 V C P S k i _ ups w' (hL.ext hx) hll hn hg hS0 hS1 b.1 b.2 hi)
  have HCU := Lib.hid CU
  clear hL hll hg hu hi CU b h0 hM0 hM1 hCe
  generalize fst 64 C S k i = r at *
  generalize ups.length = n at *
  go_enter Tryz.func69, Tryz.ntmps69
  go_wp2_with fail
  refine (HCU.out _).mono ?_
  rintro e w1 ⟨rfl, hb1⟩
  obtain ⟨hc1, hf1⟩ := hb1.cells
  clear hc1 hf1
  have ql_0 : w1.cell? ⟨w.heap.size, 0, none⟩ = some (.int .i64 V) := (hb1.cells.1 _ _ (by simp <;> omega)).trans (by simp [go_sem])
  have ql_1 : w1.cell? ⟨w.heap.size, 1, none⟩ = some (.int .i64 64) := (hb1.cells.1 _ _ (by simp <;> omega)).trans (by simp [go_sem])
  have ql_2 : w1.cell? ⟨w.heap.size, 2, none⟩ = some (.int .i64 C) := (hb1.cells.1 _ _ (by simp <;> omega)).trans (by simp [go_sem])
  have ql_3 : w1.cell? ⟨w.heap.size, 3, none⟩ = some (.int .i64 P) := (hb1.cells.1 _ _ (by simp <;> omega)).trans (by simp [go_sem])
  have ql_4 : w1.cell? ⟨w.heap.size, 4, none⟩ = some (.int .u64 S) := (hb1.cells.1 _ _ (by simp <;> omega)).trans (by simp [go_sem])
  have ql_5 : w1.cell? ⟨w.heap.size, 5, none⟩ = some (.slice a n cap) := (hb1.cells.1 _ _ (by simp <;> omega)).trans (by simp [go_sem])
  have ql_6 : w1.cell? ⟨w.heap.size, 6, none⟩ = some (.int .i64 Cu) := (hb1.cells.1 _ _ (by simp <;> omega)).trans (by simp [go_sem])
  have ql_7 : w1.cell? ⟨w.heap.size, 7, none⟩ = some (.int .i64 Cl) := (hb1.cells.1 _ _ (by simp <;> omega)).trans (by simp [go_sem])
  have ql_8 : w1.cell? ⟨w.heap.size, 8, none⟩ = some (.int .i64 Ti) := (hb1.cells.1 _ _ (by simp <;> omega)).trans (by simp [go_sem])
  have ql_9 : w1.cell? ⟨w.heap.size, 9, none⟩ = some (.int .i64 Se) := (hb1.cells.1 _ _ (by simp <;> omega)).trans (by simp [go_sem])
  have ql_10 : w1.cell? ⟨w.heap.size, 10, none⟩ = some (.int .i64 Ne) := (hb1.cells.1 _ _ (by simp <;> omega)).trans (by simp [go_sem])
  have ql_11 : w1.cell? ⟨w.heap.size, 11, none⟩ = some (.int .i64 Ma) := (hb1.cells.1 _ _ (by simp <;> omega)).trans (by simp [go_sem])
  have ql_12 : w1.cell? ⟨w.heap.size, 12, none⟩ = some (.int .i64 Sl) := (hb1.cells.1 _ _ (by simp <;> omega)).trans (by simp [go_sem])
  have ql_13 : w1.cell? ⟨w.heap.size, 13, none⟩ = some (.int .i64 Ce) := (hb1.cells.1 _ _ (by simp <;> omega)).trans (by simp [go_sem])
  have pl := World.block_lt_of_cell? _ ⟨w.heap.size, 0, none⟩ ql_0
  have rl := Nat.lt_succ_of_lt pl
  go_wp2_with fail
  refine (CF.out _ (by repeat (first | with_reducible exact Ext.refl _ | with_reducible assumption | with_reducible refine Ext.alloc ?_ _ | with_reducible refine Ext.drew ?_ | with_reducible refine Ext.drewN ?_ _ | with_reducible refine Ext.setCell ?_ (by simp <;> omega) _ | with_reducible refine Ext.trans ?_ (by assumption)))).mono ?_
  rintro e w2 ⟨rfl, hb2⟩
  have hx2 : Ext w1 w2 := by repeat (first | with_reducible exact Ext.refl _ | with_reducible assumption | with_reducible refine Ext.alloc ?_ _ | with_reducible refine Ext.drew ?_ | with_reducible refine Ext.drewN ?_ _ | with_reducible refine Ext.setCell ?_ (by simp <;> omega) _ | with_reducible refine Ext.trans ?_ (by assumption))
  replace ql_0 := hx2.cell ql_0
  replace ql_1 := hx2.cell ql_1
  replace ql_2 := hx2.cell ql_2
  replace ql_3 := hx2.cell ql_3
  replace ql_4 := hx2.cell ql_4
  replace ql_5 := hx2.cell ql_5
  replace ql_6 := hx2.cell ql_6
  replace ql_7 := hx2.cell ql_7
  replace ql_8 := hx2.cell ql_8
  replace ql_9 := hx2.cell ql_9
  replace ql_10 := hx2.cell ql_10
  replace ql_11 := hx2.cell ql_11
  replace ql_12 := hx2.cell ql_12
  replace ql_13 := hx2.cell ql_13
  replace pl := Nat.lt_of_lt_of_le pl hx2.size
  replace rl := Nat.lt_succ_of_lt pl
  clear hx2
  go_wp2
  go_ret
  refine ⟨rfl, ?_⟩
  repeat (first | with_reducible exact Ext.refl _ | with_reducible assumption | with_reducible refine Ext.alloc ?_ _ | with_reducible refine Ext.drew ?_ | with_reducible refine Ext.drewN ?_ _ | with_reducible refine Ext.setCell ?_ (by simp <;> omega) _ | with_reducible refine Ext.trans ?_ (by assumption))
end Go.Proofs.YtkmfamidahlgiaaGreatDoor

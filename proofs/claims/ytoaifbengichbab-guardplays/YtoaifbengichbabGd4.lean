/- The document's handle. -/
import Derived.Test.YtoaifbengichbabGd3
namespace Go.Proofs.Ytoaifbengichbab
open Go.RowKit
set_option linter.unusedVariables false
set_option linter.unusedSimpArgs false
set_option maxHeartbeats 2000000
attribute [local go_sem] later_cell later_frozen later_const
/-- the document's handle -/
structure RH where
  C : Int
  P : Bool
  H : Bool
  F : Int
  N : Int
  G : Int
  U : Int
def sizeR (r : RH) (n : Int) : Int := if n < 1 ∨ r.C < n then 13 else if r.H then 14 else 0
def mayR (r : RH) (op n len : Int) : Int := if r.P then (if op = 5 then sizeR r len else if op = 1 then sizeR r n else if op = 2 then (if r.H then 0 else 14) else 12)
  else (if op = 4 then sizeC n (r.U - r.G) else if op = 6 then sizeC n r.C else if op = 3 then 0 else 12)
/-- what is told, and how it stands -/
structure RS where
  r : RH
  ok : Bool
def claimedR (r : RH) (f n : Int) : RS := if r.P = false ∨ r.H = true ∨ n < 1 ∨ r.C < n then ⟨r, false⟩ else ⟨{ r with H := true, F := f, N := n }, true⟩
def publishedR (r : RH) : RS := if r.H then ⟨{ r with H := false, F := 0, N := 0 }, true⟩ else ⟨r, false⟩
def sawR (r : RH) (l : Int) : RS := if r.P = true ∨ l < r.U - r.G ∨ r.C < l then ⟨r, false⟩ else ⟨{ r with U := r.G + l }, true⟩
def releasedR (r : RH) (n : Int) : RS := if n < 1 ∨ r.U - r.G < n then ⟨r, false⟩ else ⟨{ r with G := r.G + n }, true⟩
def mstp (r : RH) (k n p : Int) : RS := if k = 1 then claimedR r p n else if k = 2 then publishedR r else if k = 3 then sawR r n else if k = 4 then releasedR r n else ⟨r, false⟩
/-- its numbers are small -/
structure Sm (r : RH) : Prop where
  c1 : r.C ≤ 1073741824
  g0 : 0 ≤ r.G
  g1 : r.G ≤ 1099511627776
  d0 : 0 ≤ r.U - r.G
  d1 : r.U - r.G ≤ r.C
theorem rMay_p_op (C F N G U n : Int) (P H : Bool) (op : Int) (a : Option Addr) (len cap : Nat) (w : World) (hl : len ≤ 9223372036854775807) (d0 : 0 ≤ U - G) (d1 : U - G ≤ 1073741824) (g0 : 0 ≤ G) (g1 : G ≤ 1099511627776) (hP : P = true) (h1 : op ≠ 1) (h2 : op ≠ 2) (h5 : op ≠ 5) : Calls Try.prog 14 #[(.agg #[.int .i64 C, .bool P, .bool H, .int .u64 F, .int .i64 N, .int .i64 G, .int .i64 U]), .agg #[.int .i64 op, .int .i64 n, .slice a len cap]] w fun e w' => e = .returned (.int .i64 12) ∧ Ext w w' := by
  subst hP
  have e1 : (op == 1) = false := by simpa using h1
  have n1 : (op != 1) = true := by simpa using h1
  have e2 : (op == 2) = false := by simpa using h2
  have n2 : (op != 2) = true := by simpa using h2
  have e5 : (op == 5) = false := by simpa using h5
  have n5 : (op != 5) = true := by simpa using h5
  go_enter Try.func14, Try.ntmps14
  go_wp2
  go_ret
  exact ⟨rfl, by repeat (first | with_reducible exact Ext.refl _ | with_reducible assumption | with_reducible refine Ext.alloc ?_ _ | with_reducible refine Ext.drew ?_ | with_reducible refine Ext.drewN ?_ _ | with_reducible refine Ext.setCell ?_ (by simp <;> omega) _ | with_reducible refine Ext.trans ?_ (by assumption))⟩
theorem rMay_c_op (C F N G U n : Int) (P H : Bool) (op : Int) (a : Option Addr) (len cap : Nat) (w : World) (hl : len ≤ 9223372036854775807) (d0 : 0 ≤ U - G) (d1 : U - G ≤ 1073741824) (g0 : 0 ≤ G) (g1 : G ≤ 1099511627776) (hP : P = false) (h3 : op ≠ 3) (h4 : op ≠ 4) (h6 : op ≠ 6) : Calls Try.prog 14 #[(.agg #[.int .i64 C, .bool P, .bool H, .int .u64 F, .int .i64 N, .int .i64 G, .int .i64 U]), .agg #[.int .i64 op, .int .i64 n, .slice a len cap]] w fun e w' => e = .returned (.int .i64 12) ∧ Ext w w' := by
  subst hP
  have e3 : (op == 3) = false := by simpa using h3
  have n3 : (op != 3) = true := by simpa using h3
  have e4 : (op == 4) = false := by simpa using h4
  have n4 : (op != 4) = true := by simpa using h4
  have e6 : (op == 6) = false := by simpa using h6
  have n6 : (op != 6) = true := by simpa using h6
  go_enter Try.func14, Try.ntmps14
  go_wp2
  go_ret
  exact ⟨rfl, by repeat (first | with_reducible exact Ext.refl _ | with_reducible assumption | with_reducible refine Ext.alloc ?_ _ | with_reducible refine Ext.drew ?_ | with_reducible refine Ext.drewN ?_ _ | with_reducible refine Ext.setCell ?_ (by simp <;> omega) _ | with_reducible refine Ext.trans ?_ (by assumption))⟩
theorem rMay_p1_lo (C F N G U n : Int) (P H : Bool) (op : Int) (a : Option Addr) (len cap : Nat) (w : World) (hl : len ≤ 9223372036854775807) (d0 : 0 ≤ U - G) (d1 : U - G ≤ 1073741824) (g0 : 0 ≤ G) (g1 : G ≤ 1099511627776) (hP : P = true) (ho : op = 1) (h : n < 1) : Calls Try.prog 14 #[(.agg #[.int .i64 C, .bool P, .bool H, .int .u64 F, .int .i64 N, .int .i64 G, .int .i64 U]), .agg #[.int .i64 op, .int .i64 n, .slice a len cap]] w fun e w' => e = .returned (.int .i64 13) ∧ Ext w w' := by
  subst hP ho
  have d : decide (n < 1) = true := by simpa using h
  go_enter Try.func14, Try.ntmps14
  go_wp2
  go_ret
  exact ⟨rfl, by repeat (first | with_reducible exact Ext.refl _ | with_reducible assumption | with_reducible refine Ext.alloc ?_ _ | with_reducible refine Ext.drew ?_ | with_reducible refine Ext.drewN ?_ _ | with_reducible refine Ext.setCell ?_ (by simp <;> omega) _ | with_reducible refine Ext.trans ?_ (by assumption))⟩
theorem rMay_p1_hi (C F N G U n : Int) (P H : Bool) (op : Int) (a : Option Addr) (len cap : Nat) (w : World) (hl : len ≤ 9223372036854775807) (d0 : 0 ≤ U - G) (d1 : U - G ≤ 1073741824) (g0 : 0 ≤ G) (g1 : G ≤ 1099511627776) (hP : P = true) (ho : op = 1) (h : ¬ n < 1) (h2 : C < n) : Calls Try.prog 14 #[(.agg #[.int .i64 C, .bool P, .bool H, .int .u64 F, .int .i64 N, .int .i64 G, .int .i64 U]), .agg #[.int .i64 op, .int .i64 n, .slice a len cap]] w fun e w' => e = .returned (.int .i64 13) ∧ Ext w w' := by
  subst hP ho
  have d : decide (n < 1) = false := by simpa using h
  have d2 : decide (C < n) = true := by simpa using h2
  go_enter Try.func14, Try.ntmps14
  go_wp2
  go_ret
  exact ⟨rfl, by repeat (first | with_reducible exact Ext.refl _ | with_reducible assumption | with_reducible refine Ext.alloc ?_ _ | with_reducible refine Ext.drew ?_ | with_reducible refine Ext.drewN ?_ _ | with_reducible refine Ext.setCell ?_ (by simp <;> omega) _ | with_reducible refine Ext.trans ?_ (by assumption))⟩
theorem rMay_p1_true (C F N G U n : Int) (P H : Bool) (op : Int) (a : Option Addr) (len cap : Nat) (w : World) (hl : len ≤ 9223372036854775807) (d0 : 0 ≤ U - G) (d1 : U - G ≤ 1073741824) (g0 : 0 ≤ G) (g1 : G ≤ 1099511627776) (hP : P = true) (ho : op = 1) (h : ¬ n < 1) (h2 : ¬ C < n) (hH : H = true) : Calls Try.prog 14 #[(.agg #[.int .i64 C, .bool P, .bool H, .int .u64 F, .int .i64 N, .int .i64 G, .int .i64 U]), .agg #[.int .i64 op, .int .i64 n, .slice a len cap]] w fun e w' => e = .returned (.int .i64 14) ∧ Ext w w' := by
  subst hP ho hH
  have d : decide (n < 1) = false := by simpa using h
  have d2 : decide (C < n) = false := by simpa using h2
  go_enter Try.func14, Try.ntmps14
  go_wp2
  go_ret
  exact ⟨rfl, by repeat (first | with_reducible exact Ext.refl _ | with_reducible assumption | with_reducible refine Ext.alloc ?_ _ | with_reducible refine Ext.drew ?_ | with_reducible refine Ext.drewN ?_ _ | with_reducible refine Ext.setCell ?_ (by simp <;> omega) _ | with_reducible refine Ext.trans ?_ (by assumption))⟩
theorem rMay_p1_false (C F N G U n : Int) (P H : Bool) (op : Int) (a : Option Addr) (len cap : Nat) (w : World) (hl : len ≤ 9223372036854775807) (d0 : 0 ≤ U - G) (d1 : U - G ≤ 1073741824) (g0 : 0 ≤ G) (g1 : G ≤ 1099511627776) (hP : P = true) (ho : op = 1) (h : ¬ n < 1) (h2 : ¬ C < n) (hH : H = false) : Calls Try.prog 14 #[(.agg #[.int .i64 C, .bool P, .bool H, .int .u64 F, .int .i64 N, .int .i64 G, .int .i64 U]), .agg #[.int .i64 op, .int .i64 n, .slice a len cap]] w fun e w' => e = .returned (.int .i64 0) ∧ Ext w w' := by
  subst hP ho hH
  have d : decide (n < 1) = false := by simpa using h
  have d2 : decide (C < n) = false := by simpa using h2
  go_enter Try.func14, Try.ntmps14
  go_wp2
  go_ret
  exact ⟨rfl, by repeat (first | with_reducible exact Ext.refl _ | with_reducible assumption | with_reducible refine Ext.alloc ?_ _ | with_reducible refine Ext.drew ?_ | with_reducible refine Ext.drewN ?_ _ | with_reducible refine Ext.setCell ?_ (by simp <;> omega) _ | with_reducible refine Ext.trans ?_ (by assumption))⟩
theorem rMay_p5_lo (C F N G U n : Int) (P H : Bool) (op : Int) (a : Option Addr) (len cap : Nat) (w : World) (hl : len ≤ 9223372036854775807) (d0 : 0 ≤ U - G) (d1 : U - G ≤ 1073741824) (g0 : 0 ≤ G) (g1 : G ≤ 1099511627776) (hP : P = true) (ho : op = 5) (h : (len : Int) < 1) : Calls Try.prog 14 #[(.agg #[.int .i64 C, .bool P, .bool H, .int .u64 F, .int .i64 N, .int .i64 G, .int .i64 U]), .agg #[.int .i64 op, .int .i64 n, .slice a len cap]] w fun e w' => e = .returned (.int .i64 13) ∧ Ext w w' := by
  subst hP ho
  have d : decide ((len : Int) < 1) = true := by simpa using h
  go_enter Try.func14, Try.ntmps14
  go_wp2
  go_ret
  exact ⟨rfl, by repeat (first | with_reducible exact Ext.refl _ | with_reducible assumption | with_reducible refine Ext.alloc ?_ _ | with_reducible refine Ext.drew ?_ | with_reducible refine Ext.drewN ?_ _ | with_reducible refine Ext.setCell ?_ (by simp <;> omega) _ | with_reducible refine Ext.trans ?_ (by assumption))⟩
theorem rMay_p5_hi (C F N G U n : Int) (P H : Bool) (op : Int) (a : Option Addr) (len cap : Nat) (w : World) (hl : len ≤ 9223372036854775807) (d0 : 0 ≤ U - G) (d1 : U - G ≤ 1073741824) (g0 : 0 ≤ G) (g1 : G ≤ 1099511627776) (hP : P = true) (ho : op = 5) (h : ¬ (len : Int) < 1) (h2 : C < (len : Int)) : Calls Try.prog 14 #[(.agg #[.int .i64 C, .bool P, .bool H, .int .u64 F, .int .i64 N, .int .i64 G, .int .i64 U]), .agg #[.int .i64 op, .int .i64 n, .slice a len cap]] w fun e w' => e = .returned (.int .i64 13) ∧ Ext w w' := by
  subst hP ho
  have d : decide ((len : Int) < 1) = false := by simpa using h
  have d2 : decide (C < (len : Int)) = true := by simpa using h2
  go_enter Try.func14, Try.ntmps14
  go_wp2
  go_ret
  exact ⟨rfl, by repeat (first | with_reducible exact Ext.refl _ | with_reducible assumption | with_reducible refine Ext.alloc ?_ _ | with_reducible refine Ext.drew ?_ | with_reducible refine Ext.drewN ?_ _ | with_reducible refine Ext.setCell ?_ (by simp <;> omega) _ | with_reducible refine Ext.trans ?_ (by assumption))⟩
theorem rMay_p5_true (C F N G U n : Int) (P H : Bool) (op : Int) (a : Option Addr) (len cap : Nat) (w : World) (hl : len ≤ 9223372036854775807) (d0 : 0 ≤ U - G) (d1 : U - G ≤ 1073741824) (g0 : 0 ≤ G) (g1 : G ≤ 1099511627776) (hP : P = true) (ho : op = 5) (h : ¬ (len : Int) < 1) (h2 : ¬ C < (len : Int)) (hH : H = true) : Calls Try.prog 14 #[(.agg #[.int .i64 C, .bool P, .bool H, .int .u64 F, .int .i64 N, .int .i64 G, .int .i64 U]), .agg #[.int .i64 op, .int .i64 n, .slice a len cap]] w fun e w' => e = .returned (.int .i64 14) ∧ Ext w w' := by
  subst hP ho hH
  have d : decide ((len : Int) < 1) = false := by simpa using h
  have d2 : decide (C < (len : Int)) = false := by simpa using h2
  go_enter Try.func14, Try.ntmps14
  go_wp2
  go_ret
  exact ⟨rfl, by repeat (first | with_reducible exact Ext.refl _ | with_reducible assumption | with_reducible refine Ext.alloc ?_ _ | with_reducible refine Ext.drew ?_ | with_reducible refine Ext.drewN ?_ _ | with_reducible refine Ext.setCell ?_ (by simp <;> omega) _ | with_reducible refine Ext.trans ?_ (by assumption))⟩
theorem rMay_p5_false (C F N G U n : Int) (P H : Bool) (op : Int) (a : Option Addr) (len cap : Nat) (w : World) (hl : len ≤ 9223372036854775807) (d0 : 0 ≤ U - G) (d1 : U - G ≤ 1073741824) (g0 : 0 ≤ G) (g1 : G ≤ 1099511627776) (hP : P = true) (ho : op = 5) (h : ¬ (len : Int) < 1) (h2 : ¬ C < (len : Int)) (hH : H = false) : Calls Try.prog 14 #[(.agg #[.int .i64 C, .bool P, .bool H, .int .u64 F, .int .i64 N, .int .i64 G, .int .i64 U]), .agg #[.int .i64 op, .int .i64 n, .slice a len cap]] w fun e w' => e = .returned (.int .i64 0) ∧ Ext w w' := by
  subst hP ho hH
  have d : decide ((len : Int) < 1) = false := by simpa using h
  have d2 : decide (C < (len : Int)) = false := by simpa using h2
  go_enter Try.func14, Try.ntmps14
  go_wp2
  go_ret
  exact ⟨rfl, by repeat (first | with_reducible exact Ext.refl _ | with_reducible assumption | with_reducible refine Ext.alloc ?_ _ | with_reducible refine Ext.drew ?_ | with_reducible refine Ext.drewN ?_ _ | with_reducible refine Ext.setCell ?_ (by simp <;> omega) _ | with_reducible refine Ext.trans ?_ (by assumption))⟩
theorem rMay_p2_true (C F N G U n : Int) (P H : Bool) (op : Int) (a : Option Addr) (len cap : Nat) (w : World) (hl : len ≤ 9223372036854775807) (d0 : 0 ≤ U - G) (d1 : U - G ≤ 1073741824) (g0 : 0 ≤ G) (g1 : G ≤ 1099511627776) (hP : P = true) (ho : op = 2) (hH : H = true) : Calls Try.prog 14 #[(.agg #[.int .i64 C, .bool P, .bool H, .int .u64 F, .int .i64 N, .int .i64 G, .int .i64 U]), .agg #[.int .i64 op, .int .i64 n, .slice a len cap]] w fun e w' => e = .returned (.int .i64 0) ∧ Ext w w' := by
  subst hP ho hH
  go_enter Try.func14, Try.ntmps14
  go_wp2
  go_ret
  exact ⟨rfl, by repeat (first | with_reducible exact Ext.refl _ | with_reducible assumption | with_reducible refine Ext.alloc ?_ _ | with_reducible refine Ext.drew ?_ | with_reducible refine Ext.drewN ?_ _ | with_reducible refine Ext.setCell ?_ (by simp <;> omega) _ | with_reducible refine Ext.trans ?_ (by assumption))⟩
theorem rMay_p2_false (C F N G U n : Int) (P H : Bool) (op : Int) (a : Option Addr) (len cap : Nat) (w : World) (hl : len ≤ 9223372036854775807) (d0 : 0 ≤ U - G) (d1 : U - G ≤ 1073741824) (g0 : 0 ≤ G) (g1 : G ≤ 1099511627776) (hP : P = true) (ho : op = 2) (hH : H = false) : Calls Try.prog 14 #[(.agg #[.int .i64 C, .bool P, .bool H, .int .u64 F, .int .i64 N, .int .i64 G, .int .i64 U]), .agg #[.int .i64 op, .int .i64 n, .slice a len cap]] w fun e w' => e = .returned (.int .i64 14) ∧ Ext w w' := by
  subst hP ho hH
  go_enter Try.func14, Try.ntmps14
  go_wp2
  go_ret
  exact ⟨rfl, by repeat (first | with_reducible exact Ext.refl _ | with_reducible assumption | with_reducible refine Ext.alloc ?_ _ | with_reducible refine Ext.drew ?_ | with_reducible refine Ext.drewN ?_ _ | with_reducible refine Ext.setCell ?_ (by simp <;> omega) _ | with_reducible refine Ext.trans ?_ (by assumption))⟩
theorem rMay_c3 (C F N G U n : Int) (P H : Bool) (op : Int) (a : Option Addr) (len cap : Nat) (w : World) (hl : len ≤ 9223372036854775807) (d0 : 0 ≤ U - G) (d1 : U - G ≤ 1073741824) (g0 : 0 ≤ G) (g1 : G ≤ 1099511627776) (hP : P = false) (ho : op = 3) : Calls Try.prog 14 #[(.agg #[.int .i64 C, .bool P, .bool H, .int .u64 F, .int .i64 N, .int .i64 G, .int .i64 U]), .agg #[.int .i64 op, .int .i64 n, .slice a len cap]] w fun e w' => e = .returned (.int .i64 0) ∧ Ext w w' := by
  subst hP ho
  go_enter Try.func14, Try.ntmps14
  go_wp2
  go_ret
  exact ⟨rfl, by repeat (first | with_reducible exact Ext.refl _ | with_reducible assumption | with_reducible refine Ext.alloc ?_ _ | with_reducible refine Ext.drew ?_ | with_reducible refine Ext.drewN ?_ _ | with_reducible refine Ext.setCell ?_ (by simp <;> omega) _ | with_reducible refine Ext.trans ?_ (by assumption))⟩
theorem rMay_c6_lo (C F N G U n : Int) (P H : Bool) (op : Int) (a : Option Addr) (len cap : Nat) (w : World) (hl : len ≤ 9223372036854775807) (d0 : 0 ≤ U - G) (d1 : U - G ≤ 1073741824) (g0 : 0 ≤ G) (g1 : G ≤ 1099511627776) (hP : P = false) (ho : op = 6) (h : n < 1) : Calls Try.prog 14 #[(.agg #[.int .i64 C, .bool P, .bool H, .int .u64 F, .int .i64 N, .int .i64 G, .int .i64 U]), .agg #[.int .i64 op, .int .i64 n, .slice a len cap]] w fun e w' => e = .returned (.int .i64 13) ∧ Ext w w' := by
  subst hP ho
  have d : decide (n < 1) = true := by simpa using h
  go_enter Try.func14, Try.ntmps14
  go_wp2
  go_ret
  exact ⟨rfl, by repeat (first | with_reducible exact Ext.refl _ | with_reducible assumption | with_reducible refine Ext.alloc ?_ _ | with_reducible refine Ext.drew ?_ | with_reducible refine Ext.drewN ?_ _ | with_reducible refine Ext.setCell ?_ (by simp <;> omega) _ | with_reducible refine Ext.trans ?_ (by assumption))⟩
theorem rMay_c6_hi (C F N G U n : Int) (P H : Bool) (op : Int) (a : Option Addr) (len cap : Nat) (w : World) (hl : len ≤ 9223372036854775807) (d0 : 0 ≤ U - G) (d1 : U - G ≤ 1073741824) (g0 : 0 ≤ G) (g1 : G ≤ 1099511627776) (hP : P = false) (ho : op = 6) (h : ¬ n < 1) (h2 : C < n) : Calls Try.prog 14 #[(.agg #[.int .i64 C, .bool P, .bool H, .int .u64 F, .int .i64 N, .int .i64 G, .int .i64 U]), .agg #[.int .i64 op, .int .i64 n, .slice a len cap]] w fun e w' => e = .returned (.int .i64 13) ∧ Ext w w' := by
  subst hP ho
  have d : decide (n < 1) = false := by simpa using h
  have d2 : decide (C < n) = true := by simpa using h2
  go_enter Try.func14, Try.ntmps14
  go_wp2
  go_ret
  exact ⟨rfl, by repeat (first | with_reducible exact Ext.refl _ | with_reducible assumption | with_reducible refine Ext.alloc ?_ _ | with_reducible refine Ext.drew ?_ | with_reducible refine Ext.drewN ?_ _ | with_reducible refine Ext.setCell ?_ (by simp <;> omega) _ | with_reducible refine Ext.trans ?_ (by assumption))⟩
theorem rMay_c6_ok (C F N G U n : Int) (P H : Bool) (op : Int) (a : Option Addr) (len cap : Nat) (w : World) (hl : len ≤ 9223372036854775807) (d0 : 0 ≤ U - G) (d1 : U - G ≤ 1073741824) (g0 : 0 ≤ G) (g1 : G ≤ 1099511627776) (hP : P = false) (ho : op = 6) (h : ¬ n < 1) (h2 : ¬ C < n) : Calls Try.prog 14 #[(.agg #[.int .i64 C, .bool P, .bool H, .int .u64 F, .int .i64 N, .int .i64 G, .int .i64 U]), .agg #[.int .i64 op, .int .i64 n, .slice a len cap]] w fun e w' => e = .returned (.int .i64 0) ∧ Ext w w' := by
  subst hP ho
  have d : decide (n < 1) = false := by simpa using h
  have d2 : decide (C < n) = false := by simpa using h2
  go_enter Try.func14, Try.ntmps14
  go_wp2
  go_ret
  exact ⟨rfl, by repeat (first | with_reducible exact Ext.refl _ | with_reducible assumption | with_reducible refine Ext.alloc ?_ _ | with_reducible refine Ext.drew ?_ | with_reducible refine Ext.drewN ?_ _ | with_reducible refine Ext.setCell ?_ (by simp <;> omega) _ | with_reducible refine Ext.trans ?_ (by assumption))⟩
theorem rMay_c4_lo (C F N G U n : Int) (P H : Bool) (op : Int) (a : Option Addr) (len cap : Nat) (w : World) (hl : len ≤ 9223372036854775807) (d0 : 0 ≤ U - G) (d1 : U - G ≤ 1073741824) (g0 : 0 ≤ G) (g1 : G ≤ 1099511627776) (hP : P = false) (ho : op = 4) (h : n < 1) : Calls Try.prog 14 #[(.agg #[.int .i64 C, .bool P, .bool H, .int .u64 F, .int .i64 N, .int .i64 G, .int .i64 U]), .agg #[.int .i64 op, .int .i64 n, .slice a len cap]] w fun e w' => e = .returned (.int .i64 13) ∧ Ext w w' := by
  subst hP ho
  have d : decide (n < 1) = true := by simpa using h
  go_enter Try.func14, Try.ntmps14
  go_wp2
  go_ret
  exact ⟨rfl, by repeat (first | with_reducible exact Ext.refl _ | with_reducible assumption | with_reducible refine Ext.alloc ?_ _ | with_reducible refine Ext.drew ?_ | with_reducible refine Ext.drewN ?_ _ | with_reducible refine Ext.setCell ?_ (by simp <;> omega) _ | with_reducible refine Ext.trans ?_ (by assumption))⟩
theorem rMay_c4_hi (C F N G U n : Int) (P H : Bool) (op : Int) (a : Option Addr) (len cap : Nat) (w : World) (hl : len ≤ 9223372036854775807) (d0 : 0 ≤ U - G) (d1 : U - G ≤ 1073741824) (g0 : 0 ≤ G) (g1 : G ≤ 1099511627776) (hP : P = false) (ho : op = 4) (h : ¬ n < 1) (h2 : U - G < n) : Calls Try.prog 14 #[(.agg #[.int .i64 C, .bool P, .bool H, .int .u64 F, .int .i64 N, .int .i64 G, .int .i64 U]), .agg #[.int .i64 op, .int .i64 n, .slice a len cap]] w fun e w' => e = .returned (.int .i64 13) ∧ Ext w w' := by
  subst hP ho
  have d : decide (n < 1) = false := by simpa using h
  have d2 : decide (U - G < n) = true := by simpa using h2
  go_enter Try.func14, Try.ntmps14
  go_wp2
  go_ret
  exact ⟨rfl, by repeat (first | with_reducible exact Ext.refl _ | with_reducible assumption | with_reducible refine Ext.alloc ?_ _ | with_reducible refine Ext.drew ?_ | with_reducible refine Ext.drewN ?_ _ | with_reducible refine Ext.setCell ?_ (by simp <;> omega) _ | with_reducible refine Ext.trans ?_ (by assumption))⟩
theorem rMay_c4_ok (C F N G U n : Int) (P H : Bool) (op : Int) (a : Option Addr) (len cap : Nat) (w : World) (hl : len ≤ 9223372036854775807) (d0 : 0 ≤ U - G) (d1 : U - G ≤ 1073741824) (g0 : 0 ≤ G) (g1 : G ≤ 1099511627776) (hP : P = false) (ho : op = 4) (h : ¬ n < 1) (h2 : ¬ U - G < n) : Calls Try.prog 14 #[(.agg #[.int .i64 C, .bool P, .bool H, .int .u64 F, .int .i64 N, .int .i64 G, .int .i64 U]), .agg #[.int .i64 op, .int .i64 n, .slice a len cap]] w fun e w' => e = .returned (.int .i64 0) ∧ Ext w w' := by
  subst hP ho
  have d : decide (n < 1) = false := by simpa using h
  have d2 : decide (U - G < n) = false := by simpa using h2
  go_enter Try.func14, Try.ntmps14
  go_wp2
  go_ret
  exact ⟨rfl, by repeat (first | with_reducible exact Ext.refl _ | with_reducible assumption | with_reducible refine Ext.alloc ?_ _ | with_reducible refine Ext.drew ?_ | with_reducible refine Ext.drewN ?_ _ | with_reducible refine Ext.setCell ?_ (by simp <;> omega) _ | with_reducible refine Ext.trans ?_ (by assumption))⟩
theorem rMay (r : RH) (op n : Int) (a : Option Addr) (len cap : Nat) (w : World) (hl : len ≤ 9223372036854775807) (S : Sm r) : Calls Try.prog 14 #[(.agg #[.int .i64 r.C, .bool r.P, .bool r.H, .int .u64 r.F, .int .i64 r.N, .int .i64 r.G, .int .i64 r.U]), .agg #[.int .i64 op, .int .i64 n, .slice a len cap]] w fun e w' => e = .returned (.int .i64 (mayR r op n len)) ∧ Ext w w' := by
  unfold mayR
  cases hP : r.P
  case true =>
    rw [if_pos rfl]
    by_cases h5 : op = 5
    · rw [if_pos h5]
      unfold sizeR
      by_cases h : (len : Int) < 1
      · rw [if_pos (.inl h)]
        exact rMay_p5_lo r.C r.F r.N r.G r.U n _ _ _ a len cap w hl S.d0 (Int.le_trans S.d1 S.c1) S.g0 S.g1 rfl h5 h
      by_cases h2 : r.C < len
      · rw [if_pos (.inr h2)]
        exact rMay_p5_hi r.C r.F r.N r.G r.U n _ _ _ a len cap w hl S.d0 (Int.le_trans S.d1 S.c1) S.g0 S.g1 rfl h5 h h2
      rw [if_neg (by omega)]
      cases hH : r.H
      · exact rMay_p5_false r.C r.F r.N r.G r.U n _ _ _ a len cap w hl S.d0 (Int.le_trans S.d1 S.c1) S.g0 S.g1 rfl h5 h h2 rfl
      · exact rMay_p5_true r.C r.F r.N r.G r.U n _ _ _ a len cap w hl S.d0 (Int.le_trans S.d1 S.c1) S.g0 S.g1 rfl h5 h h2 rfl
    rw [if_neg h5]
    by_cases h1 : op = 1
    · rw [if_pos h1]
      unfold sizeR
      by_cases h : n < 1
      · rw [if_pos (.inl h)]
        exact rMay_p1_lo r.C r.F r.N r.G r.U n _ _ _ a len cap w hl S.d0 (Int.le_trans S.d1 S.c1) S.g0 S.g1 rfl h1 h
      by_cases h2 : r.C < n
      · rw [if_pos (.inr h2)]
        exact rMay_p1_hi r.C r.F r.N r.G r.U n _ _ _ a len cap w hl S.d0 (Int.le_trans S.d1 S.c1) S.g0 S.g1 rfl h1 h h2
      rw [if_neg (by omega)]
      cases hH : r.H
      · exact rMay_p1_false r.C r.F r.N r.G r.U n _ _ _ a len cap w hl S.d0 (Int.le_trans S.d1 S.c1) S.g0 S.g1 rfl h1 h h2 rfl
      · exact rMay_p1_true r.C r.F r.N r.G r.U n _ _ _ a len cap w hl S.d0 (Int.le_trans S.d1 S.c1) S.g0 S.g1 rfl h1 h h2 rfl
    rw [if_neg h1]
    by_cases h2 : op = 2
    · rw [if_pos h2]
      cases hH : r.H
      · exact rMay_p2_false r.C r.F r.N r.G r.U n _ _ _ a len cap w hl S.d0 (Int.le_trans S.d1 S.c1) S.g0 S.g1 rfl h2 rfl
      · exact rMay_p2_true r.C r.F r.N r.G r.U n _ _ _ a len cap w hl S.d0 (Int.le_trans S.d1 S.c1) S.g0 S.g1 rfl h2 rfl
    rw [if_neg h2]
    exact rMay_p_op r.C r.F r.N r.G r.U n _ _ _ a len cap w hl S.d0 (Int.le_trans S.d1 S.c1) S.g0 S.g1 rfl h1 h2 h5
  rw [if_neg (by simp)]
  by_cases h4 : op = 4
  · rw [if_pos h4]
    unfold sizeC
    by_cases h : n < 1
    · rw [if_pos (.inl h)]
      exact rMay_c4_lo r.C r.F r.N r.G r.U n _ _ _ a len cap w hl S.d0 (Int.le_trans S.d1 S.c1) S.g0 S.g1 rfl h4 h
    by_cases h2 : r.U - r.G < n
    · rw [if_pos (.inr h2)]
      exact rMay_c4_hi r.C r.F r.N r.G r.U n _ _ _ a len cap w hl S.d0 (Int.le_trans S.d1 S.c1) S.g0 S.g1 rfl h4 h h2
    rw [if_neg (by omega)]
    exact rMay_c4_ok r.C r.F r.N r.G r.U n _ _ _ a len cap w hl S.d0 (Int.le_trans S.d1 S.c1) S.g0 S.g1 rfl h4 h h2
  rw [if_neg h4]
  by_cases h6 : op = 6
  · rw [if_pos h6]
    unfold sizeC
    by_cases h : n < 1
    · rw [if_pos (.inl h)]
      exact rMay_c6_lo r.C r.F r.N r.G r.U n _ _ _ a len cap w hl S.d0 (Int.le_trans S.d1 S.c1) S.g0 S.g1 rfl h6 h
    by_cases h2 : r.C < n
    · rw [if_pos (.inr h2)]
      exact rMay_c6_hi r.C r.F r.N r.G r.U n _ _ _ a len cap w hl S.d0 (Int.le_trans S.d1 S.c1) S.g0 S.g1 rfl h6 h h2
    rw [if_neg (by omega)]
    exact rMay_c6_ok r.C r.F r.N r.G r.U n _ _ _ a len cap w hl S.d0 (Int.le_trans S.d1 S.c1) S.g0 S.g1 rfl h6 h h2
  rw [if_neg h6]
  by_cases h3 : op = 3
  · rw [if_pos h3]
    exact rMay_c3 r.C r.F r.N r.G r.U n _ _ _ a len cap w hl S.d0 (Int.le_trans S.d1 S.c1) S.g0 S.g1 rfl h3
  rw [if_neg h3]
  exact rMay_c_op r.C r.F r.N r.G r.U n _ _ _ a len cap w hl S.d0 (Int.le_trans S.d1 S.c1) S.g0 S.g1 rfl h3 h4 h6
end Go.Proofs.Ytoaifbengichbab

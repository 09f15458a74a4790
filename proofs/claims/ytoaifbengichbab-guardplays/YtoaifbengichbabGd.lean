/- A handle as it lies in memory; what its calls tell and do. -/
import Derived.Test.YtoaifbengichbabLap
import Derived.Test.YtoaifbengichbabSeq
namespace Go.Proofs.Ytoaifbengichbab
open Go.RowKit
set_option linter.unusedVariables false
set_option linter.unusedSimpArgs false
set_option maxHeartbeats 2000000
attribute [local go_sem] later_cell later_frozen later_const
/-- a handle's letters -/
structure HS where
  C : Int
  c : Bool
  F : Int
  N : Int
  G : Int
  U : Int
/-- a handle in block b -/
structure HD (q : IntKind) (w : World) (b : Nat) (h : HS) : Prop where
  q0 : w.cell? ⟨b, 0, none⟩ = some (.int .i64 h.C)
  q1 : w.cell? ⟨b, 1, none⟩ = some (.bool h.c)
  q2 : w.cell? ⟨b, 2, none⟩ = some (.int q h.F)
  q3 : w.cell? ⟨b, 3, none⟩ = some (.int .i64 h.N)
  q4 : w.cell? ⟨b, 4, none⟩ = some (.int q h.G)
  q5 : w.cell? ⟨b, 5, none⟩ = some (.int q h.U)
  z2 : w.frozen? ⟨b, 2, none⟩ = false
  z3 : w.frozen? ⟨b, 3, none⟩ = false
  z4 : w.frozen? ⟨b, 4, none⟩ = false
  z5 : w.frozen? ⟨b, 5, none⟩ = false
theorem HD.but {q : IntKind} {S : Nat → Prop} {w w' : World} {b : Nat} {h : HS} (H : HD q w b h) (hb : But S w w') (hs : ¬ S b) : HD q w' b h :=
  ⟨hb.cell H.q0 hs, hb.cell H.q1 hs, hb.cell H.q2 hs, hb.cell H.q3 hs, hb.cell H.q4 hs, hb.cell H.q5 hs, hb.frozen H.q2 H.z2 hs, hb.frozen H.q3 H.z3 hs, hb.frozen H.q4 H.z4 hs, hb.frozen H.q5 H.z5 hs⟩
theorem HD.ext {q : IntKind} {w w' : World} {b : Nat} {h : HS} (H : HD q w b h) (hx : Ext w w') : HD q w' b h := H.but (hx.but (fun _ => False)) (fun h => h)
theorem HD.lt {q : IntKind} {w : World} {b : Nat} {h : HS} (H : HD q w b h) : b < w.heap.size := World.block_lt_of_cell? w _ H.q0
def sizeP (h : HS) (n : Int) : Int := if n < 1 ∨ h.C < n then 13 else if 0 < h.N then 14 else 0
def mayP (h : HS) (op n len : Int) : Int := if op = 5 then sizeP h len else if op = 1 then sizeP h n else if op = 2 then (if 0 < h.N then 0 else 14) else 12
def sizeC (n m : Int) : Int := if n < 1 ∨ m < n then 13 else 0
theorem has32 (b : Nat) (h : HS) (w : World) (H : HD .u32 w b h) : Calls Try.prog 54 #[.pointer (some ⟨b, 0, none⟩)] w fun e w' => e = .returned (.bool (decide (0 < h.N))) ∧ w = w' := by
  obtain ⟨q0, q1, q2, q3, q4, q5, z2, z3, z4, z5⟩ := H
  go_enter Try.func54, Try.ntmps54
  go_wp2
  go_ret
  exact ⟨rfl, rfl⟩
theorem gate32 (b : Nat) (h : HS) (w : World) (H : HD .u32 w b h) : Calls Try.prog 27 #[.pointer (some ⟨b, 0, none⟩)] w fun e w' => e = .returned (.int .u32 h.G) ∧ w = w' := by
  obtain ⟨q0, q1, q2, q3, q4, q5, z2, z3, z4, z5⟩ := H
  go_enter Try.func27, Try.ntmps27
  go_wp2
  go_ret
  exact ⟨rfl, rfl⟩
theorem gate32_nil (w : World) : Calls Try.prog 27 #[.pointer none] w fun e w' => e = .returned (.int .u32 0) ∧ w = w' := by
  go_enter Try.func27, Try.ntmps27
  go_wp2
  go_ret
  exact ⟨rfl, rfl⟩
theorem upto32 (b : Nat) (h : HS) (w : World) (H : HD .u32 w b h) : Calls Try.prog 51 #[.pointer (some ⟨b, 0, none⟩)] w fun e w' => e = .returned (.int .u32 h.U) ∧ w = w' := by
  obtain ⟨q0, q1, q2, q3, q4, q5, z2, z3, z4, z5⟩ := H
  go_enter Try.func51, Try.ntmps51
  go_wp2
  go_ret
  exact ⟨rfl, rfl⟩
theorem upto32_nil (w : World) : Calls Try.prog 51 #[.pointer none] w fun e w' => e = .returned (.int .u32 0) ∧ w = w' := by
  go_enter Try.func51, Try.ntmps51
  go_wp2
  go_ret
  exact ⟨rfl, rfl⟩
theorem ready32 (b : Nat) (h : HS) (w : World) (H : HD .u32 w b h) : Calls Try.prog 28 #[.pointer (some ⟨b, 0, none⟩)] w fun e w' => e = .returned (.int .i64 (D32 (h.U - h.G))) ∧ w = w' := by
  go_enter Try.func28, Try.ntmps28
  go_wp2_with fail
  refine (upto32 b h _ H).mono ?_
  rintro e w' ⟨rfl, rfl⟩
  go_wp2_with fail
  refine (gate32 b h _ H).mono ?_
  rintro e w' ⟨rfl, rfl⟩
  go_wp2_with fail
  refine (diffU32 _ _ _).mono ?_
  rintro e w' ⟨rfl, rfl⟩
  go_wp2
  go_ret
  exact ⟨rfl, rfl⟩
theorem ready32_nil (w : World) : Calls Try.prog 28 #[.pointer none] w fun e w' => e = .returned (.int .i64 0) ∧ w = w' := by
  go_enter Try.func28, Try.ntmps28
  go_wp2_with fail
  refine (upto32_nil _).mono ?_
  rintro e w' ⟨rfl, rfl⟩
  go_wp2_with fail
  refine (gate32_nil _).mono ?_
  rintro e w' ⟨rfl, rfl⟩
  go_wp2_with fail
  refine (diffU32 _ _ _).mono ?_
  rintro e w' ⟨rfl, rfl⟩
  go_wp2
  go_ret
  exact ⟨rfl, rfl⟩
def mayC32 (h : HS) (op n : Int) : Int := if op = 4 then sizeC n (D32 (h.U - h.G)) else if op = 6 then sizeC n h.C else if op = 3 then 0 else 12
def may32 (h : HS) (op n len : Int) : Int := if h.c then mayC32 h op n else mayP h op n len
theorem mayP32 (b : Nat) (h : HS) (op n : Int) (a : Option Addr) (len cap : Nat) (w : World) (hl : len ≤ 9223372036854775807) (H : HD .u32 w b h) : Calls Try.prog 33 #[.pointer (some ⟨b, 0, none⟩), .agg #[.int .i64 op, .int .i64 n, .slice a len cap]] w fun e w' => e = .returned (.int .i64 (mayP h op n len)) ∧ Ext w w' := by
  have CH := Lib.hid (fun w' (hx : Ext w w') => has32 b h w' (H.ext hx))
  have H1 := fun w' (hx : Ext w w') => (H.ext hx).q0
  have q0 := H.q0
  have lt := H.lt
  clear H
  by_cases h5 : op = 5
  · subst h5
    rw [show mayP h 5 n len = sizeP h len from rfl]
    unfold sizeP
    by_cases h1 : (len : Int) < 1
    · rw [if_pos (.inl h1)]
      have d1 : decide ((len : Int) < 1) = true := by simpa using h1
      go_enter Try.func33, Try.ntmps33
      go_wp2
      go_ret
      exact ⟨rfl, by repeat (first | with_reducible exact Ext.refl _ | with_reducible assumption | with_reducible refine Ext.alloc ?_ _ | with_reducible refine Ext.drew ?_ | with_reducible refine Ext.drewN ?_ _ | with_reducible refine Ext.setCell ?_ (by simp <;> omega) _ | with_reducible refine Ext.trans ?_ (by assumption))⟩
    · have d1 : decide ((len : Int) < 1) = false := by simpa using h1
      by_cases h2 : h.C < len
      · rw [if_pos (.inr h2)]
        have d2 : decide (h.C < (len : Int)) = true := by simpa using h2
        go_enter Try.func33, Try.ntmps33
        go_wp2
        go_ret
        exact ⟨rfl, by repeat (first | with_reducible exact Ext.refl _ | with_reducible assumption | with_reducible refine Ext.alloc ?_ _ | with_reducible refine Ext.drew ?_ | with_reducible refine Ext.drewN ?_ _ | with_reducible refine Ext.setCell ?_ (by simp <;> omega) _ | with_reducible refine Ext.trans ?_ (by assumption))⟩
      · have d2 : decide (h.C < (len : Int)) = false := by simpa using h2
        rw [if_neg (by omega)]
        by_cases h3 : 0 < h.N
        · rw [if_pos h3]
          have d3 : decide (0 < h.N) = true := by simpa using h3
          rw [d3] at CH
          go_enter Try.func33, Try.ntmps33
          go_wp2_with fail
          refine (CH.out _ (by repeat (first | with_reducible exact Ext.refl _ | with_reducible assumption | with_reducible refine Ext.alloc ?_ _ | with_reducible refine Ext.drew ?_ | with_reducible refine Ext.drewN ?_ _ | with_reducible refine Ext.setCell ?_ (by simp <;> omega) _ | with_reducible refine Ext.trans ?_ (by assumption)))).mono ?_
          rintro e w' ⟨rfl, rfl⟩
          go_wp2
          go_ret
          exact ⟨rfl, by repeat (first | with_reducible exact Ext.refl _ | with_reducible assumption | with_reducible refine Ext.alloc ?_ _ | with_reducible refine Ext.drew ?_ | with_reducible refine Ext.drewN ?_ _ | with_reducible refine Ext.setCell ?_ (by simp <;> omega) _ | with_reducible refine Ext.trans ?_ (by assumption))⟩
        · rw [if_neg h3]
          have d3 : decide (0 < h.N) = false := by simpa using h3
          rw [d3] at CH
          go_enter Try.func33, Try.ntmps33
          go_wp2_with fail
          refine (CH.out _ (by repeat (first | with_reducible exact Ext.refl _ | with_reducible assumption | with_reducible refine Ext.alloc ?_ _ | with_reducible refine Ext.drew ?_ | with_reducible refine Ext.drewN ?_ _ | with_reducible refine Ext.setCell ?_ (by simp <;> omega) _ | with_reducible refine Ext.trans ?_ (by assumption)))).mono ?_
          rintro e w' ⟨rfl, rfl⟩
          go_wp2
          go_ret
          exact ⟨rfl, by repeat (first | with_reducible exact Ext.refl _ | with_reducible assumption | with_reducible refine Ext.alloc ?_ _ | with_reducible refine Ext.drew ?_ | with_reducible refine Ext.drewN ?_ _ | with_reducible refine Ext.setCell ?_ (by simp <;> omega) _ | with_reducible refine Ext.trans ?_ (by assumption))⟩
  have e5 : (op == 5) = false := by simpa using h5
  by_cases hop1 : op = 1
  · subst hop1
    rw [show mayP h 1 n len = sizeP h n from rfl]
    unfold sizeP
    by_cases h1 : n < 1
    · rw [if_pos (.inl h1)]
      have d1 : decide (n < 1) = true := by simpa using h1
      go_enter Try.func33, Try.ntmps33
      go_wp2
      go_ret
      exact ⟨rfl, by repeat (first | with_reducible exact Ext.refl _ | with_reducible assumption | with_reducible refine Ext.alloc ?_ _ | with_reducible refine Ext.drew ?_ | with_reducible refine Ext.drewN ?_ _ | with_reducible refine Ext.setCell ?_ (by simp <;> omega) _ | with_reducible refine Ext.trans ?_ (by assumption))⟩
    · have d1 : decide (n < 1) = false := by simpa using h1
      by_cases h2 : h.C < n
      · rw [if_pos (.inr h2)]
        have d2 : decide (h.C < n) = true := by simpa using h2
        go_enter Try.func33, Try.ntmps33
        go_wp2
        go_ret
        exact ⟨rfl, by repeat (first | with_reducible exact Ext.refl _ | with_reducible assumption | with_reducible refine Ext.alloc ?_ _ | with_reducible refine Ext.drew ?_ | with_reducible refine Ext.drewN ?_ _ | with_reducible refine Ext.setCell ?_ (by simp <;> omega) _ | with_reducible refine Ext.trans ?_ (by assumption))⟩
      · have d2 : decide (h.C < n) = false := by simpa using h2
        rw [if_neg (by omega)]
        by_cases h3 : 0 < h.N
        · rw [if_pos h3]
          have d3 : decide (0 < h.N) = true := by simpa using h3
          rw [d3] at CH
          go_enter Try.func33, Try.ntmps33
          go_wp2_with fail
          refine (CH.out _ (by repeat (first | with_reducible exact Ext.refl _ | with_reducible assumption | with_reducible refine Ext.alloc ?_ _ | with_reducible refine Ext.drew ?_ | with_reducible refine Ext.drewN ?_ _ | with_reducible refine Ext.setCell ?_ (by simp <;> omega) _ | with_reducible refine Ext.trans ?_ (by assumption)))).mono ?_
          rintro e w' ⟨rfl, rfl⟩
          go_wp2
          go_ret
          exact ⟨rfl, by repeat (first | with_reducible exact Ext.refl _ | with_reducible assumption | with_reducible refine Ext.alloc ?_ _ | with_reducible refine Ext.drew ?_ | with_reducible refine Ext.drewN ?_ _ | with_reducible refine Ext.setCell ?_ (by simp <;> omega) _ | with_reducible refine Ext.trans ?_ (by assumption))⟩
        · rw [if_neg h3]
          have d3 : decide (0 < h.N) = false := by simpa using h3
          rw [d3] at CH
          go_enter Try.func33, Try.ntmps33
          go_wp2_with fail
          refine (CH.out _ (by repeat (first | with_reducible exact Ext.refl _ | with_reducible assumption | with_reducible refine Ext.alloc ?_ _ | with_reducible refine Ext.drew ?_ | with_reducible refine Ext.drewN ?_ _ | with_reducible refine Ext.setCell ?_ (by simp <;> omega) _ | with_reducible refine Ext.trans ?_ (by assumption)))).mono ?_
          rintro e w' ⟨rfl, rfl⟩
          go_wp2
          go_ret
          exact ⟨rfl, by repeat (first | with_reducible exact Ext.refl _ | with_reducible assumption | with_reducible refine Ext.alloc ?_ _ | with_reducible refine Ext.drew ?_ | with_reducible refine Ext.drewN ?_ _ | with_reducible refine Ext.setCell ?_ (by simp <;> omega) _ | with_reducible refine Ext.trans ?_ (by assumption))⟩
  have e1 : (op == 1) = false := by simpa using hop1
  by_cases hop2 : op = 2
  · subst hop2
    rw [show mayP h 2 n len = (if 0 < h.N then 0 else 14) from rfl]
    by_cases h3 : 0 < h.N
    · rw [if_pos h3]
      have d3 : decide (0 < h.N) = true := by simpa using h3
      rw [d3] at CH
      go_enter Try.func33, Try.ntmps33
      go_wp2_with fail
      refine (CH.out _ (by repeat (first | with_reducible exact Ext.refl _ | with_reducible assumption | with_reducible refine Ext.alloc ?_ _ | with_reducible refine Ext.drew ?_ | with_reducible refine Ext.drewN ?_ _ | with_reducible refine Ext.setCell ?_ (by simp <;> omega) _ | with_reducible refine Ext.trans ?_ (by assumption)))).mono ?_
      rintro e w' ⟨rfl, rfl⟩
      go_wp2
      go_ret
      exact ⟨rfl, by repeat (first | with_reducible exact Ext.refl _ | with_reducible assumption | with_reducible refine Ext.alloc ?_ _ | with_reducible refine Ext.drew ?_ | with_reducible refine Ext.drewN ?_ _ | with_reducible refine Ext.setCell ?_ (by simp <;> omega) _ | with_reducible refine Ext.trans ?_ (by assumption))⟩
    · rw [if_neg h3]
      have d3 : decide (0 < h.N) = false := by simpa using h3
      rw [d3] at CH
      go_enter Try.func33, Try.ntmps33
      go_wp2_with fail
      refine (CH.out _ (by repeat (first | with_reducible exact Ext.refl _ | with_reducible assumption | with_reducible refine Ext.alloc ?_ _ | with_reducible refine Ext.drew ?_ | with_reducible refine Ext.drewN ?_ _ | with_reducible refine Ext.setCell ?_ (by simp <;> omega) _ | with_reducible refine Ext.trans ?_ (by assumption)))).mono ?_
      rintro e w' ⟨rfl, rfl⟩
      go_wp2
      go_ret
      exact ⟨rfl, by repeat (first | with_reducible exact Ext.refl _ | with_reducible assumption | with_reducible refine Ext.alloc ?_ _ | with_reducible refine Ext.drew ?_ | with_reducible refine Ext.drewN ?_ _ | with_reducible refine Ext.setCell ?_ (by simp <;> omega) _ | with_reducible refine Ext.trans ?_ (by assumption))⟩
  have e2 : (op == 2) = false := by simpa using hop2
  rw [show mayP h op n len = 12 by unfold mayP; rw [if_neg h5, if_neg hop1, if_neg hop2]]
  clear CH H1
  go_enter Try.func33, Try.ntmps33
  go_wp2
  go_ret
  exact ⟨rfl, by repeat (first | with_reducible exact Ext.refl _ | with_reducible assumption | with_reducible refine Ext.alloc ?_ _ | with_reducible refine Ext.drew ?_ | with_reducible refine Ext.drewN ?_ _ | with_reducible refine Ext.setCell ?_ (by simp <;> omega) _ | with_reducible refine Ext.trans ?_ (by assumption))⟩
theorem mayC32_ok (b : Nat) (h : HS) (op n : Int) (a : Option Addr) (len cap : Nat) (w : World) (H : HD .u32 w b h) : Calls Try.prog 32 #[.pointer (some ⟨b, 0, none⟩), .agg #[.int .i64 op, .int .i64 n, .slice a len cap]] w fun e w' => e = .returned (.int .i64 (mayC32 h op n)) ∧ Ext w w' := by
  have CH := Lib.hid (fun w' (hx : Ext w w') => ready32 b h w' (H.ext hx))
  have q0 := H.q0
  have lt := H.lt
  clear H
  by_cases h4 : op = 4
  · subst h4
    rw [show mayC32 h 4 n = sizeC n (D32 (h.U - h.G)) from rfl]
    unfold sizeC
    generalize D32 (h.U - h.G) = m at *
    by_cases h1 : n < 1
    · rw [if_pos (.inl h1)]
      have d1 : decide (n < 1) = true := by simpa using h1
      go_enter Try.func32, Try.ntmps32
      go_wp2_with fail
      refine (CH.out _ (by repeat (first | with_reducible exact Ext.refl _ | with_reducible assumption | with_reducible refine Ext.alloc ?_ _ | with_reducible refine Ext.drew ?_ | with_reducible refine Ext.drewN ?_ _ | with_reducible refine Ext.setCell ?_ (by simp <;> omega) _ | with_reducible refine Ext.trans ?_ (by assumption)))).mono ?_
      rintro e w' ⟨rfl, rfl⟩
      go_wp2
      go_ret
      exact ⟨rfl, by repeat (first | with_reducible exact Ext.refl _ | with_reducible assumption | with_reducible refine Ext.alloc ?_ _ | with_reducible refine Ext.drew ?_ | with_reducible refine Ext.drewN ?_ _ | with_reducible refine Ext.setCell ?_ (by simp <;> omega) _ | with_reducible refine Ext.trans ?_ (by assumption))⟩
    · have d1 : decide (n < 1) = false := by simpa using h1
      by_cases h2 : m < n
      · rw [if_pos (.inr h2)]
        have d2 : decide (m < n) = true := by simpa using h2
        go_enter Try.func32, Try.ntmps32
        go_wp2_with fail
        refine (CH.out _ (by repeat (first | with_reducible exact Ext.refl _ | with_reducible assumption | with_reducible refine Ext.alloc ?_ _ | with_reducible refine Ext.drew ?_ | with_reducible refine Ext.drewN ?_ _ | with_reducible refine Ext.setCell ?_ (by simp <;> omega) _ | with_reducible refine Ext.trans ?_ (by assumption)))).mono ?_
        rintro e w' ⟨rfl, rfl⟩
        go_wp2
        go_ret
        exact ⟨rfl, by repeat (first | with_reducible exact Ext.refl _ | with_reducible assumption | with_reducible refine Ext.alloc ?_ _ | with_reducible refine Ext.drew ?_ | with_reducible refine Ext.drewN ?_ _ | with_reducible refine Ext.setCell ?_ (by simp <;> omega) _ | with_reducible refine Ext.trans ?_ (by assumption))⟩
      · have d2 : decide (m < n) = false := by simpa using h2
        rw [if_neg (by omega)]
        go_enter Try.func32, Try.ntmps32
        go_wp2_with fail
        refine (CH.out _ (by repeat (first | with_reducible exact Ext.refl _ | with_reducible assumption | with_reducible refine Ext.alloc ?_ _ | with_reducible refine Ext.drew ?_ | with_reducible refine Ext.drewN ?_ _ | with_reducible refine Ext.setCell ?_ (by simp <;> omega) _ | with_reducible refine Ext.trans ?_ (by assumption)))).mono ?_
        rintro e w' ⟨rfl, rfl⟩
        go_wp2
        go_ret
        exact ⟨rfl, by repeat (first | with_reducible exact Ext.refl _ | with_reducible assumption | with_reducible refine Ext.alloc ?_ _ | with_reducible refine Ext.drew ?_ | with_reducible refine Ext.drewN ?_ _ | with_reducible refine Ext.setCell ?_ (by simp <;> omega) _ | with_reducible refine Ext.trans ?_ (by assumption))⟩
  have e4 : (op == 4) = false := by simpa using h4
  by_cases h6 : op = 6
  · subst h6
    rw [show mayC32 h 6 n = sizeC n h.C from rfl]
    unfold sizeC
    clear CH
    by_cases h1 : n < 1
    · rw [if_pos (.inl h1)]
      have d1 : decide (n < 1) = true := by simpa using h1
      go_enter Try.func32, Try.ntmps32
      go_wp2
      go_ret
      exact ⟨rfl, by repeat (first | with_reducible exact Ext.refl _ | with_reducible assumption | with_reducible refine Ext.alloc ?_ _ | with_reducible refine Ext.drew ?_ | with_reducible refine Ext.drewN ?_ _ | with_reducible refine Ext.setCell ?_ (by simp <;> omega) _ | with_reducible refine Ext.trans ?_ (by assumption))⟩
    · have d1 : decide (n < 1) = false := by simpa using h1
      by_cases h2 : h.C < n
      · rw [if_pos (.inr h2)]
        have d2 : decide (h.C < n) = true := by simpa using h2
        go_enter Try.func32, Try.ntmps32
        go_wp2
        go_ret
        exact ⟨rfl, by repeat (first | with_reducible exact Ext.refl _ | with_reducible assumption | with_reducible refine Ext.alloc ?_ _ | with_reducible refine Ext.drew ?_ | with_reducible refine Ext.drewN ?_ _ | with_reducible refine Ext.setCell ?_ (by simp <;> omega) _ | with_reducible refine Ext.trans ?_ (by assumption))⟩
      · have d2 : decide (h.C < n) = false := by simpa using h2
        rw [if_neg (by omega)]
        go_enter Try.func32, Try.ntmps32
        go_wp2
        go_ret
        exact ⟨rfl, by repeat (first | with_reducible exact Ext.refl _ | with_reducible assumption | with_reducible refine Ext.alloc ?_ _ | with_reducible refine Ext.drew ?_ | with_reducible refine Ext.drewN ?_ _ | with_reducible refine Ext.setCell ?_ (by simp <;> omega) _ | with_reducible refine Ext.trans ?_ (by assumption))⟩
  have e6 : (op == 6) = false := by simpa using h6
  clear CH
  by_cases h3 : op = 3
  · subst h3
    rw [show mayC32 h 3 n = 0 from rfl]
    go_enter Try.func32, Try.ntmps32
    go_wp2
    go_ret
    exact ⟨rfl, by repeat (first | with_reducible exact Ext.refl _ | with_reducible assumption | with_reducible refine Ext.alloc ?_ _ | with_reducible refine Ext.drew ?_ | with_reducible refine Ext.drewN ?_ _ | with_reducible refine Ext.setCell ?_ (by simp <;> omega) _ | with_reducible refine Ext.trans ?_ (by assumption))⟩
  have e3 : (op == 3) = false := by simpa using h3
  rw [show mayC32 h op n = 12 by unfold mayC32; rw [if_neg h4, if_neg h6, if_neg h3]]
  go_enter Try.func32, Try.ntmps32
  go_wp2
  go_ret
  exact ⟨rfl, by repeat (first | with_reducible exact Ext.refl _ | with_reducible assumption | with_reducible refine Ext.alloc ?_ _ | with_reducible refine Ext.drew ?_ | with_reducible refine Ext.drewN ?_ _ | with_reducible refine Ext.setCell ?_ (by simp <;> omega) _ | with_reducible refine Ext.trans ?_ (by assumption))⟩
theorem may32_ok (b : Nat) (h : HS) (op n : Int) (a : Option Addr) (len cap : Nat) (w : World) (hl : len ≤ 9223372036854775807) (H : HD .u32 w b h) : Calls Try.prog 15 #[.pointer (some ⟨b, 0, none⟩), .agg #[.int .i64 op, .int .i64 n, .slice a len cap]] w fun e w' => e = .returned (.int .i64 (may32 h op n len)) ∧ Ext w w' := by
  have C1 := Lib.hid (fun w' (hx : Ext w w') => mayP32 b h op n a len cap w' hl (H.ext hx))
  have C2 := Lib.hid (fun w' (hx : Ext w w') => mayC32_ok b h op n a len cap w' (H.ext hx))
  have q1 := H.q1
  have lt := H.lt
  clear H
  unfold may32
  cases hc : h.c
  · rw [hc] at q1
    simp only [Bool.false_eq_true, if_false]
    generalize mayP h op n len = m at *
    go_enter Try.func15, Try.ntmps15
    go_wp2_with fail
    refine (C1.out _ (by repeat (first | with_reducible exact Ext.refl _ | with_reducible assumption | with_reducible refine Ext.alloc ?_ _ | with_reducible refine Ext.drew ?_ | with_reducible refine Ext.drewN ?_ _ | with_reducible refine Ext.setCell ?_ (by simp <;> omega) _ | with_reducible refine Ext.trans ?_ (by assumption)))).mono ?_
    rintro e w1 ⟨rfl, hx⟩
    go_wp2
    go_ret
    exact ⟨rfl, by repeat (first | with_reducible exact Ext.refl _ | with_reducible assumption | with_reducible refine Ext.alloc ?_ _ | with_reducible refine Ext.drew ?_ | with_reducible refine Ext.drewN ?_ _ | with_reducible refine Ext.setCell ?_ (by simp <;> omega) _ | with_reducible refine Ext.trans ?_ (by assumption))⟩
  · rw [hc] at q1
    simp only [if_true]
    generalize mayC32 h op n = m at *
    go_enter Try.func15, Try.ntmps15
    go_wp2_with fail
    refine (C2.out _ (by repeat (first | with_reducible exact Ext.refl _ | with_reducible assumption | with_reducible refine Ext.alloc ?_ _ | with_reducible refine Ext.drew ?_ | with_reducible refine Ext.drewN ?_ _ | with_reducible refine Ext.setCell ?_ (by simp <;> omega) _ | with_reducible refine Ext.trans ?_ (by assumption)))).mono ?_
    rintro e w1 ⟨rfl, hx⟩
    go_wp2
    go_ret
    exact ⟨rfl, by repeat (first | with_reducible exact Ext.refl _ | with_reducible assumption | with_reducible refine Ext.alloc ?_ _ | with_reducible refine Ext.drew ?_ | with_reducible refine Ext.drewN ?_ _ | with_reducible refine Ext.setCell ?_ (by simp <;> omega) _ | with_reducible refine Ext.trans ?_ (by assumption))⟩
theorem may32_nil (op n : Int) (u : Value) (w : World) : Calls Try.prog 15 #[.pointer none, .agg #[.int .i64 op, .int .i64 n, u]] w fun e w' => e = .returned (.int .i64 22) ∧ Ext w w' := by
  go_enter Try.func15, Try.ntmps15
  go_wp2
  go_ret
  exact ⟨rfl, by repeat (first | with_reducible exact Ext.refl _ | with_reducible assumption | with_reducible refine Ext.alloc ?_ _ | with_reducible refine Ext.drew ?_ | with_reducible refine Ext.drewN ?_ _ | with_reducible refine Ext.setCell ?_ (by simp <;> omega) _ | with_reducible refine Ext.trans ?_ (by assumption))⟩
theorem has64 (b : Nat) (h : HS) (w : World) (H : HD .u64 w b h) : Calls Try.prog 56 #[.pointer (some ⟨b, 0, none⟩)] w fun e w' => e = .returned (.bool (decide (0 < h.N))) ∧ w = w' := by
  obtain ⟨q0, q1, q2, q3, q4, q5, z2, z3, z4, z5⟩ := H
  go_enter Try.func56, Try.ntmps56
  go_wp2
  go_ret
  exact ⟨rfl, rfl⟩
theorem gate64 (b : Nat) (h : HS) (w : World) (H : HD .u64 w b h) : Calls Try.prog 21 #[.pointer (some ⟨b, 0, none⟩)] w fun e w' => e = .returned (.int .u64 h.G) ∧ w = w' := by
  obtain ⟨q0, q1, q2, q3, q4, q5, z2, z3, z4, z5⟩ := H
  go_enter Try.func21, Try.ntmps21
  go_wp2
  go_ret
  exact ⟨rfl, rfl⟩
theorem gate64_nil (w : World) : Calls Try.prog 21 #[.pointer none] w fun e w' => e = .returned (.int .u64 0) ∧ w = w' := by
  go_enter Try.func21, Try.ntmps21
  go_wp2
  go_ret
  exact ⟨rfl, rfl⟩
theorem upto64 (b : Nat) (h : HS) (w : World) (H : HD .u64 w b h) : Calls Try.prog 22 #[.pointer (some ⟨b, 0, none⟩)] w fun e w' => e = .returned (.int .u64 h.U) ∧ w = w' := by
  obtain ⟨q0, q1, q2, q3, q4, q5, z2, z3, z4, z5⟩ := H
  go_enter Try.func22, Try.ntmps22
  go_wp2
  go_ret
  exact ⟨rfl, rfl⟩
theorem upto64_nil (w : World) : Calls Try.prog 22 #[.pointer none] w fun e w' => e = .returned (.int .u64 0) ∧ w = w' := by
  go_enter Try.func22, Try.ntmps22
  go_wp2
  go_ret
  exact ⟨rfl, rfl⟩
theorem ready64 (b : Nat) (h : HS) (w : World) (H : HD .u64 w b h) : Calls Try.prog 24 #[.pointer (some ⟨b, 0, none⟩)] w fun e w' => e = .returned (.int .i64 (D64 (h.U - h.G))) ∧ w = w' := by
  go_enter Try.func24, Try.ntmps24
  go_wp2_with fail
  refine (upto64 b h _ H).mono ?_
  rintro e w' ⟨rfl, rfl⟩
  go_wp2_with fail
  refine (gate64 b h _ H).mono ?_
  rintro e w' ⟨rfl, rfl⟩
  go_wp2_with fail
  refine (diffU64 _ _ _).mono ?_
  rintro e w' ⟨rfl, rfl⟩
  go_wp2
  go_ret
  exact ⟨rfl, rfl⟩
theorem ready64_nil (w : World) : Calls Try.prog 24 #[.pointer none] w fun e w' => e = .returned (.int .i64 0) ∧ w = w' := by
  go_enter Try.func24, Try.ntmps24
  go_wp2_with fail
  refine (upto64_nil _).mono ?_
  rintro e w' ⟨rfl, rfl⟩
  go_wp2_with fail
  refine (gate64_nil _).mono ?_
  rintro e w' ⟨rfl, rfl⟩
  go_wp2_with fail
  refine (diffU64 _ _ _).mono ?_
  rintro e w' ⟨rfl, rfl⟩
  go_wp2
  go_ret
  exact ⟨rfl, rfl⟩
def mayC64 (h : HS) (op n : Int) : Int := if op = 4 then sizeC n (D64 (h.U - h.G)) else if op = 6 then sizeC n h.C else if op = 3 then 0 else 12
def may64 (h : HS) (op n len : Int) : Int := if h.c then mayC64 h op n else mayP h op n len
theorem mayP64 (b : Nat) (h : HS) (op n : Int) (a : Option Addr) (len cap : Nat) (w : World) (hl : len ≤ 9223372036854775807) (H : HD .u64 w b h) : Calls Try.prog 35 #[.pointer (some ⟨b, 0, none⟩), .agg #[.int .i64 op, .int .i64 n, .slice a len cap]] w fun e w' => e = .returned (.int .i64 (mayP h op n len)) ∧ Ext w w' := by
  have CH := Lib.hid (fun w' (hx : Ext w w') => has64 b h w' (H.ext hx))
  have H1 := fun w' (hx : Ext w w') => (H.ext hx).q0
  have q0 := H.q0
  have lt := H.lt
  clear H
  by_cases h5 : op = 5
  · subst h5
    rw [show mayP h 5 n len = sizeP h len from rfl]
    unfold sizeP
    by_cases h1 : (len : Int) < 1
    · rw [if_pos (.inl h1)]
      have d1 : decide ((len : Int) < 1) = true := by simpa using h1
      go_enter Try.func35, Try.ntmps35
      go_wp2
      go_ret
      exact ⟨rfl, by repeat (first | with_reducible exact Ext.refl _ | with_reducible assumption | with_reducible refine Ext.alloc ?_ _ | with_reducible refine Ext.drew ?_ | with_reducible refine Ext.drewN ?_ _ | with_reducible refine Ext.setCell ?_ (by simp <;> omega) _ | with_reducible refine Ext.trans ?_ (by assumption))⟩
    · have d1 : decide ((len : Int) < 1) = false := by simpa using h1
      by_cases h2 : h.C < len
      · rw [if_pos (.inr h2)]
        have d2 : decide (h.C < (len : Int)) = true := by simpa using h2
        go_enter Try.func35, Try.ntmps35
        go_wp2
        go_ret
        exact ⟨rfl, by repeat (first | with_reducible exact Ext.refl _ | with_reducible assumption | with_reducible refine Ext.alloc ?_ _ | with_reducible refine Ext.drew ?_ | with_reducible refine Ext.drewN ?_ _ | with_reducible refine Ext.setCell ?_ (by simp <;> omega) _ | with_reducible refine Ext.trans ?_ (by assumption))⟩
      · have d2 : decide (h.C < (len : Int)) = false := by simpa using h2
        rw [if_neg (by omega)]
        by_cases h3 : 0 < h.N
        · rw [if_pos h3]
          have d3 : decide (0 < h.N) = true := by simpa using h3
          rw [d3] at CH
          go_enter Try.func35, Try.ntmps35
          go_wp2_with fail
          refine (CH.out _ (by repeat (first | with_reducible exact Ext.refl _ | with_reducible assumption | with_reducible refine Ext.alloc ?_ _ | with_reducible refine Ext.drew ?_ | with_reducible refine Ext.drewN ?_ _ | with_reducible refine Ext.setCell ?_ (by simp <;> omega) _ | with_reducible refine Ext.trans ?_ (by assumption)))).mono ?_
          rintro e w' ⟨rfl, rfl⟩
          go_wp2
          go_ret
          exact ⟨rfl, by repeat (first | with_reducible exact Ext.refl _ | with_reducible assumption | with_reducible refine Ext.alloc ?_ _ | with_reducible refine Ext.drew ?_ | with_reducible refine Ext.drewN ?_ _ | with_reducible refine Ext.setCell ?_ (by simp <;> omega) _ | with_reducible refine Ext.trans ?_ (by assumption))⟩
        · rw [if_neg h3]
          have d3 : decide (0 < h.N) = false := by simpa using h3
          rw [d3] at CH
          go_enter Try.func35, Try.ntmps35
          go_wp2_with fail
          refine (CH.out _ (by repeat (first | with_reducible exact Ext.refl _ | with_reducible assumption | with_reducible refine Ext.alloc ?_ _ | with_reducible refine Ext.drew ?_ | with_reducible refine Ext.drewN ?_ _ | with_reducible refine Ext.setCell ?_ (by simp <;> omega) _ | with_reducible refine Ext.trans ?_ (by assumption)))).mono ?_
          rintro e w' ⟨rfl, rfl⟩
          go_wp2
          go_ret
          exact ⟨rfl, by repeat (first | with_reducible exact Ext.refl _ | with_reducible assumption | with_reducible refine Ext.alloc ?_ _ | with_reducible refine Ext.drew ?_ | with_reducible refine Ext.drewN ?_ _ | with_reducible refine Ext.setCell ?_ (by simp <;> omega) _ | with_reducible refine Ext.trans ?_ (by assumption))⟩
  have e5 : (op == 5) = false := by simpa using h5
  by_cases hop1 : op = 1
  · subst hop1
    rw [show mayP h 1 n len = sizeP h n from rfl]
    unfold sizeP
    by_cases h1 : n < 1
    · rw [if_pos (.inl h1)]
      have d1 : decide (n < 1) = true := by simpa using h1
      go_enter Try.func35, Try.ntmps35
      go_wp2
      go_ret
      exact ⟨rfl, by repeat (first | with_reducible exact Ext.refl _ | with_reducible assumption | with_reducible refine Ext.alloc ?_ _ | with_reducible refine Ext.drew ?_ | with_reducible refine Ext.drewN ?_ _ | with_reducible refine Ext.setCell ?_ (by simp <;> omega) _ | with_reducible refine Ext.trans ?_ (by assumption))⟩
    · have d1 : decide (n < 1) = false := by simpa using h1
      by_cases h2 : h.C < n
      · rw [if_pos (.inr h2)]
        have d2 : decide (h.C < n) = true := by simpa using h2
        go_enter Try.func35, Try.ntmps35
        go_wp2
        go_ret
        exact ⟨rfl, by repeat (first | with_reducible exact Ext.refl _ | with_reducible assumption | with_reducible refine Ext.alloc ?_ _ | with_reducible refine Ext.drew ?_ | with_reducible refine Ext.drewN ?_ _ | with_reducible refine Ext.setCell ?_ (by simp <;> omega) _ | with_reducible refine Ext.trans ?_ (by assumption))⟩
      · have d2 : decide (h.C < n) = false := by simpa using h2
        rw [if_neg (by omega)]
        by_cases h3 : 0 < h.N
        · rw [if_pos h3]
          have d3 : decide (0 < h.N) = true := by simpa using h3
          rw [d3] at CH
          go_enter Try.func35, Try.ntmps35
          go_wp2_with fail
          refine (CH.out _ (by repeat (first | with_reducible exact Ext.refl _ | with_reducible assumption | with_reducible refine Ext.alloc ?_ _ | with_reducible refine Ext.drew ?_ | with_reducible refine Ext.drewN ?_ _ | with_reducible refine Ext.setCell ?_ (by simp <;> omega) _ | with_reducible refine Ext.trans ?_ (by assumption)))).mono ?_
          rintro e w' ⟨rfl, rfl⟩
          go_wp2
          go_ret
          exact ⟨rfl, by repeat (first | with_reducible exact Ext.refl _ | with_reducible assumption | with_reducible refine Ext.alloc ?_ _ | with_reducible refine Ext.drew ?_ | with_reducible refine Ext.drewN ?_ _ | with_reducible refine Ext.setCell ?_ (by simp <;> omega) _ | with_reducible refine Ext.trans ?_ (by assumption))⟩
        · rw [if_neg h3]
          have d3 : decide (0 < h.N) = false := by simpa using h3
          rw [d3] at CH
          go_enter Try.func35, Try.ntmps35
          go_wp2_with fail
          refine (CH.out _ (by repeat (first | with_reducible exact Ext.refl _ | with_reducible assumption | with_reducible refine Ext.alloc ?_ _ | with_reducible refine Ext.drew ?_ | with_reducible refine Ext.drewN ?_ _ | with_reducible refine Ext.setCell ?_ (by simp <;> omega) _ | with_reducible refine Ext.trans ?_ (by assumption)))).mono ?_
          rintro e w' ⟨rfl, rfl⟩
          go_wp2
          go_ret
          exact ⟨rfl, by repeat (first | with_reducible exact Ext.refl _ | with_reducible assumption | with_reducible refine Ext.alloc ?_ _ | with_reducible refine Ext.drew ?_ | with_reducible refine Ext.drewN ?_ _ | with_reducible refine Ext.setCell ?_ (by simp <;> omega) _ | with_reducible refine Ext.trans ?_ (by assumption))⟩
  have e1 : (op == 1) = false := by simpa using hop1
  by_cases hop2 : op = 2
  · subst hop2
    rw [show mayP h 2 n len = (if 0 < h.N then 0 else 14) from rfl]
    by_cases h3 : 0 < h.N
    · rw [if_pos h3]
      have d3 : decide (0 < h.N) = true := by simpa using h3
      rw [d3] at CH
      go_enter Try.func35, Try.ntmps35
      go_wp2_with fail
      refine (CH.out _ (by repeat (first | with_reducible exact Ext.refl _ | with_reducible assumption | with_reducible refine Ext.alloc ?_ _ | with_reducible refine Ext.drew ?_ | with_reducible refine Ext.drewN ?_ _ | with_reducible refine Ext.setCell ?_ (by simp <;> omega) _ | with_reducible refine Ext.trans ?_ (by assumption)))).mono ?_
      rintro e w' ⟨rfl, rfl⟩
      go_wp2
      go_ret
      exact ⟨rfl, by repeat (first | with_reducible exact Ext.refl _ | with_reducible assumption | with_reducible refine Ext.alloc ?_ _ | with_reducible refine Ext.drew ?_ | with_reducible refine Ext.drewN ?_ _ | with_reducible refine Ext.setCell ?_ (by simp <;> omega) _ | with_reducible refine Ext.trans ?_ (by assumption))⟩
    · rw [if_neg h3]
      have d3 : decide (0 < h.N) = false := by simpa using h3
      rw [d3] at CH
      go_enter Try.func35, Try.ntmps35
      go_wp2_with fail
      refine (CH.out _ (by repeat (first | with_reducible exact Ext.refl _ | with_reducible assumption | with_reducible refine Ext.alloc ?_ _ | with_reducible refine Ext.drew ?_ | with_reducible refine Ext.drewN ?_ _ | with_reducible refine Ext.setCell ?_ (by simp <;> omega) _ | with_reducible refine Ext.trans ?_ (by assumption)))).mono ?_
      rintro e w' ⟨rfl, rfl⟩
      go_wp2
      go_ret
      exact ⟨rfl, by repeat (first | with_reducible exact Ext.refl _ | with_reducible assumption | with_reducible refine Ext.alloc ?_ _ | with_reducible refine Ext.drew ?_ | with_reducible refine Ext.drewN ?_ _ | with_reducible refine Ext.setCell ?_ (by simp <;> omega) _ | with_reducible refine Ext.trans ?_ (by assumption))⟩
  have e2 : (op == 2) = false := by simpa using hop2
  rw [show mayP h op n len = 12 by unfold mayP; rw [if_neg h5, if_neg hop1, if_neg hop2]]
  clear CH H1
  go_enter Try.func35, Try.ntmps35
  go_wp2
  go_ret
  exact ⟨rfl, by repeat (first | with_reducible exact Ext.refl _ | with_reducible assumption | with_reducible refine Ext.alloc ?_ _ | with_reducible refine Ext.drew ?_ | with_reducible refine Ext.drewN ?_ _ | with_reducible refine Ext.setCell ?_ (by simp <;> omega) _ | with_reducible refine Ext.trans ?_ (by assumption))⟩
theorem mayC64_ok (b : Nat) (h : HS) (op n : Int) (a : Option Addr) (len cap : Nat) (w : World) (H : HD .u64 w b h) : Calls Try.prog 34 #[.pointer (some ⟨b, 0, none⟩), .agg #[.int .i64 op, .int .i64 n, .slice a len cap]] w fun e w' => e = .returned (.int .i64 (mayC64 h op n)) ∧ Ext w w' := by
  have CH := Lib.hid (fun w' (hx : Ext w w') => ready64 b h w' (H.ext hx))
  have q0 := H.q0
  have lt := H.lt
  clear H
  by_cases h4 : op = 4
  · subst h4
    rw [show mayC64 h 4 n = sizeC n (D64 (h.U - h.G)) from rfl]
    unfold sizeC
    generalize D64 (h.U - h.G) = m at *
    by_cases h1 : n < 1
    · rw [if_pos (.inl h1)]
      have d1 : decide (n < 1) = true := by simpa using h1
      go_enter Try.func34, Try.ntmps34
      go_wp2_with fail
      refine (CH.out _ (by repeat (first | with_reducible exact Ext.refl _ | with_reducible assumption | with_reducible refine Ext.alloc ?_ _ | with_reducible refine Ext.drew ?_ | with_reducible refine Ext.drewN ?_ _ | with_reducible refine Ext.setCell ?_ (by simp <;> omega) _ | with_reducible refine Ext.trans ?_ (by assumption)))).mono ?_
      rintro e w' ⟨rfl, rfl⟩
      go_wp2
      go_ret
      exact ⟨rfl, by repeat (first | with_reducible exact Ext.refl _ | with_reducible assumption | with_reducible refine Ext.alloc ?_ _ | with_reducible refine Ext.drew ?_ | with_reducible refine Ext.drewN ?_ _ | with_reducible refine Ext.setCell ?_ (by simp <;> omega) _ | with_reducible refine Ext.trans ?_ (by assumption))⟩
    · have d1 : decide (n < 1) = false := by simpa using h1
      by_cases h2 : m < n
      · rw [if_pos (.inr h2)]
        have d2 : decide (m < n) = true := by simpa using h2
        go_enter Try.func34, Try.ntmps34
        go_wp2_with fail
        refine (CH.out _ (by repeat (first | with_reducible exact Ext.refl _ | with_reducible assumption | with_reducible refine Ext.alloc ?_ _ | with_reducible refine Ext.drew ?_ | with_reducible refine Ext.drewN ?_ _ | with_reducible refine Ext.setCell ?_ (by simp <;> omega) _ | with_reducible refine Ext.trans ?_ (by assumption)))).mono ?_
        rintro e w' ⟨rfl, rfl⟩
        go_wp2
        go_ret
        exact ⟨rfl, by repeat (first | with_reducible exact Ext.refl _ | with_reducible assumption | with_reducible refine Ext.alloc ?_ _ | with_reducible refine Ext.drew ?_ | with_reducible refine Ext.drewN ?_ _ | with_reducible refine Ext.setCell ?_ (by simp <;> omega) _ | with_reducible refine Ext.trans ?_ (by assumption))⟩
      · have d2 : decide (m < n) = false := by simpa using h2
        rw [if_neg (by omega)]
        go_enter Try.func34, Try.ntmps34
        go_wp2_with fail
        refine (CH.out _ (by repeat (first | with_reducible exact Ext.refl _ | with_reducible assumption | with_reducible refine Ext.alloc ?_ _ | with_reducible refine Ext.drew ?_ | with_reducible refine Ext.drewN ?_ _ | with_reducible refine Ext.setCell ?_ (by simp <;> omega) _ | with_reducible refine Ext.trans ?_ (by assumption)))).mono ?_
        rintro e w' ⟨rfl, rfl⟩
        go_wp2
        go_ret
        exact ⟨rfl, by repeat (first | with_reducible exact Ext.refl _ | with_reducible assumption | with_reducible refine Ext.alloc ?_ _ | with_reducible refine Ext.drew ?_ | with_reducible refine Ext.drewN ?_ _ | with_reducible refine Ext.setCell ?_ (by simp <;> omega) _ | with_reducible refine Ext.trans ?_ (by assumption))⟩
  have e4 : (op == 4) = false := by simpa using h4
  by_cases h6 : op = 6
  · subst h6
    rw [show mayC64 h 6 n = sizeC n h.C from rfl]
    unfold sizeC
    clear CH
    by_cases h1 : n < 1
    · rw [if_pos (.inl h1)]
      have d1 : decide (n < 1) = true := by simpa using h1
      go_enter Try.func34, Try.ntmps34
      go_wp2
      go_ret
      exact ⟨rfl, by repeat (first | with_reducible exact Ext.refl _ | with_reducible assumption | with_reducible refine Ext.alloc ?_ _ | with_reducible refine Ext.drew ?_ | with_reducible refine Ext.drewN ?_ _ | with_reducible refine Ext.setCell ?_ (by simp <;> omega) _ | with_reducible refine Ext.trans ?_ (by assumption))⟩
    · have d1 : decide (n < 1) = false := by simpa using h1
      by_cases h2 : h.C < n
      · rw [if_pos (.inr h2)]
        have d2 : decide (h.C < n) = true := by simpa using h2
        go_enter Try.func34, Try.ntmps34
        go_wp2
        go_ret
        exact ⟨rfl, by repeat (first | with_reducible exact Ext.refl _ | with_reducible assumption | with_reducible refine Ext.alloc ?_ _ | with_reducible refine Ext.drew ?_ | with_reducible refine Ext.drewN ?_ _ | with_reducible refine Ext.setCell ?_ (by simp <;> omega) _ | with_reducible refine Ext.trans ?_ (by assumption))⟩
      · have d2 : decide (h.C < n) = false := by simpa using h2
        rw [if_neg (by omega)]
        go_enter Try.func34, Try.ntmps34
        go_wp2
        go_ret
        exact ⟨rfl, by repeat (first | with_reducible exact Ext.refl _ | with_reducible assumption | with_reducible refine Ext.alloc ?_ _ | with_reducible refine Ext.drew ?_ | with_reducible refine Ext.drewN ?_ _ | with_reducible refine Ext.setCell ?_ (by simp <;> omega) _ | with_reducible refine Ext.trans ?_ (by assumption))⟩
  have e6 : (op == 6) = false := by simpa using h6
  clear CH
  by_cases h3 : op = 3
  · subst h3
    rw [show mayC64 h 3 n = 0 from rfl]
    go_enter Try.func34, Try.ntmps34
    go_wp2
    go_ret
    exact ⟨rfl, by repeat (first | with_reducible exact Ext.refl _ | with_reducible assumption | with_reducible refine Ext.alloc ?_ _ | with_reducible refine Ext.drew ?_ | with_reducible refine Ext.drewN ?_ _ | with_reducible refine Ext.setCell ?_ (by simp <;> omega) _ | with_reducible refine Ext.trans ?_ (by assumption))⟩
  have e3 : (op == 3) = false := by simpa using h3
  rw [show mayC64 h op n = 12 by unfold mayC64; rw [if_neg h4, if_neg h6, if_neg h3]]
  go_enter Try.func34, Try.ntmps34
  go_wp2
  go_ret
  exact ⟨rfl, by repeat (first | with_reducible exact Ext.refl _ | with_reducible assumption | with_reducible refine Ext.alloc ?_ _ | with_reducible refine Ext.drew ?_ | with_reducible refine Ext.drewN ?_ _ | with_reducible refine Ext.setCell ?_ (by simp <;> omega) _ | with_reducible refine Ext.trans ?_ (by assumption))⟩
theorem may64_ok (b : Nat) (h : HS) (op n : Int) (a : Option Addr) (len cap : Nat) (w : World) (hl : len ≤ 9223372036854775807) (H : HD .u64 w b h) : Calls Try.prog 16 #[.pointer (some ⟨b, 0, none⟩), .agg #[.int .i64 op, .int .i64 n, .slice a len cap]] w fun e w' => e = .returned (.int .i64 (may64 h op n len)) ∧ Ext w w' := by
  have C1 := Lib.hid (fun w' (hx : Ext w w') => mayP64 b h op n a len cap w' hl (H.ext hx))
  have C2 := Lib.hid (fun w' (hx : Ext w w') => mayC64_ok b h op n a len cap w' (H.ext hx))
  have q1 := H.q1
  have lt := H.lt
  clear H
  unfold may64
  cases hc : h.c
  · rw [hc] at q1
    simp only [Bool.false_eq_true, if_false]
    generalize mayP h op n len = m at *
    go_enter Try.func16, Try.ntmps16
    go_wp2_with fail
    refine (C1.out _ (by repeat (first | with_reducible exact Ext.refl _ | with_reducible assumption | with_reducible refine Ext.alloc ?_ _ | with_reducible refine Ext.drew ?_ | with_reducible refine Ext.drewN ?_ _ | with_reducible refine Ext.setCell ?_ (by simp <;> omega) _ | with_reducible refine Ext.trans ?_ (by assumption)))).mono ?_
    rintro e w1 ⟨rfl, hx⟩
    go_wp2
    go_ret
    exact ⟨rfl, by repeat (first | with_reducible exact Ext.refl _ | with_reducible assumption | with_reducible refine Ext.alloc ?_ _ | with_reducible refine Ext.drew ?_ | with_reducible refine Ext.drewN ?_ _ | with_reducible refine Ext.setCell ?_ (by simp <;> omega) _ | with_reducible refine Ext.trans ?_ (by assumption))⟩
  · rw [hc] at q1
    simp only [if_true]
    generalize mayC64 h op n = m at *
    go_enter Try.func16, Try.ntmps16
    go_wp2_with fail
    refine (C2.out _ (by repeat (first | with_reducible exact Ext.refl _ | with_reducible assumption | with_reducible refine Ext.alloc ?_ _ | with_reducible refine Ext.drew ?_ | with_reducible refine Ext.drewN ?_ _ | with_reducible refine Ext.setCell ?_ (by simp <;> omega) _ | with_reducible refine Ext.trans ?_ (by assumption)))).mono ?_
    rintro e w1 ⟨rfl, hx⟩
    go_wp2
    go_ret
    exact ⟨rfl, by repeat (first | with_reducible exact Ext.refl _ | with_reducible assumption | with_reducible refine Ext.alloc ?_ _ | with_reducible refine Ext.drew ?_ | with_reducible refine Ext.drewN ?_ _ | with_reducible refine Ext.setCell ?_ (by simp <;> omega) _ | with_reducible refine Ext.trans ?_ (by assumption))⟩
theorem may64_nil (op n : Int) (u : Value) (w : World) : Calls Try.prog 16 #[.pointer none, .agg #[.int .i64 op, .int .i64 n, u]] w fun e w' => e = .returned (.int .i64 22) ∧ Ext w w' := by
  go_enter Try.func16, Try.ntmps16
  go_wp2
  go_ret
  exact ⟨rfl, by repeat (first | with_reducible exact Ext.refl _ | with_reducible assumption | with_reducible refine Ext.alloc ?_ _ | with_reducible refine Ext.drew ?_ | with_reducible refine Ext.drewN ?_ _ | with_reducible refine Ext.setCell ?_ (by simp <;> omega) _ | with_reducible refine Ext.trans ?_ (by assumption))⟩
end Go.Proofs.Ytoaifbengichbab

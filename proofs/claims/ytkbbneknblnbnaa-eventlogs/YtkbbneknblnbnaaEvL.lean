/- The law's live. -/
import Derived.Test.YtkbbneknblnbnaaEv6
import Derived.Test.YtkbbneknblnbnaaEvW
namespace Go.Proofs.Ytkbbneknblnbnaa
open Go.RowKit
set_option linter.unusedVariables false
set_option linter.unusedSimpArgs false
set_option maxHeartbeats 2000000
attribute [local go_sem] later_cell later_frozen later_const
theorem evs2 {w : World} {B b : Nat} {u1 u2 : Value} {e1 e2 : Ev} (h1 : AtE w B b 0 u1 e1) (h2 : AtE w B b 7 u2 e2) : EvsV w B (.slice (some ⟨b, 0, none⟩) 2 2) [e1, e2] := by
  refine ⟨_, 2, rfl, Nat.le_refl _, by unfold maxLen; omega, fun e => (by cases e), fun i hi => ?_⟩
  have hi2 : i < 2 := by simpa using hi
  match i, hi2 with
  | 0, _ =>
    refine ⟨b, 0, u1, rfl, fun j q hq => ?_, h1.d⟩
    match j, hq with
    | 0, hq => simp [evV] at hq; subst hq; exact h1.c0
    | 1, hq => simp [evV] at hq; subst hq; exact h1.c1
    | 2, hq => simp [evV] at hq; subst hq; exact h1.c2
    | 3, hq => simp [evV] at hq; subst hq; exact h1.c3
    | 4, hq => simp [evV] at hq; subst hq; exact h1.c4
    | 5, hq => simp [evV] at hq; subst hq; exact h1.c5
    | 6, hq => simp [evV] at hq; subst hq; exact h1.c6
    | j + 7, hq => simp [evV] at hq
  | 1, _ =>
    refine ⟨b, 0, u2, rfl, fun j q hq => ?_, h2.d⟩
    match j, hq with
    | 0, hq => simp [evV] at hq; subst hq; exact h2.c0
    | 1, hq => simp [evV] at hq; subst hq; exact h2.c1
    | 2, hq => simp [evV] at hq; subst hq; exact h2.c2
    | 3, hq => simp [evV] at hq; subst hq; exact h2.c3
    | 4, hq => simp [evV] at hq; subst hq; exact h2.c4
    | 5, hq => simp [evV] at hq; subst hq; exact h2.c5
    | 6, hq => simp [evV] at hq; subst hq; exact h2.c6
    | j + 7, hq => simp [evV] at hq
theorem merged_live : merged 32 [⟨5, 0, 0, 1, 4294967295, 0, [7]⟩, ⟨5, 0, 0, 2, 0, 0, [8, 9]⟩] = [] ++ [⟨5, 0, 0, 3, 4294967295, 0, [7, 8, 9]⟩] := by decide +kernel
set_option maxRecDepth 100000 in
theorem live15 (w : World) : Calls Try.prog 8 #[] w fun e w' => e = .returned (.bool true) ∧ Ext w w' := by
  have CM := Lib.hid (fun (v : Value) (w : World) (h : EvsV w w.heap.size v [⟨5, 0, 0, 1, 4294967295, 0, [7]⟩, ⟨5, 0, 0, 2, 0, 0, [8, 9]⟩]) => eMerge32 v _ w h (Nat.le_refl _) (by decide) (by decide))
  rw [merged_live] at CM
  have CW := Lib.hid (fun w => eWord 5 w)
  rw [show wAt kL 5 = ⟨#[112, 117, 116]⟩ by rfl] at CW
  have CO := Lib.hid (fun w => eOp ⟨#[115, 101, 110, 100]⟩ w)
  rw [show fnd oL ⟨#[115, 101, 110, 100]⟩ = 5 by decide +kernel] at CO
  go_enter Try.func8, Try.ntmps8
  go_wp2_with fail
  refine (CM.out _ _ ?hE).mono ?_
  case hE =>
    refine evs2 ⟨by simp [go_sem], by simp [go_sem], by simp [go_sem], by simp [go_sem], by simp [go_sem], by simp [go_sem], by simp [go_sem]; rfl, ?_⟩ ⟨by simp [go_sem], by simp [go_sem], by simp [go_sem], by simp [go_sem], by simp [go_sem], by simp [go_sem], by simp [go_sem]; rfl, ?_⟩
    · refine .inr ⟨w.heap.size, 0, 1, rfl, fun j hj => ?_, .inl (by simp; omega)⟩
      obtain rfl : j = 0 := by simpa using hj
      simp [go_sem]
    · refine .inr ⟨w.heap.size + 1, 0, 2, rfl, fun j hj => ?_, .inl (by simp)⟩
      have hj2 : j = 0 ∨ j = 1 := by have : j < 2 := by simpa using hj
                                     omega
      rcases hj2 with rfl | rfl <;> simp [go_sem]
  rintro e w2 ⟨v, rfl, R2, X2⟩
  have X3 : Ext w w2 := Ext.trans (by repeat (first | with_reducible exact Ext.refl _ | with_reducible assumption | with_reducible refine Ext.alloc ?_ _ | with_reducible refine Ext.drew ?_ | with_reducible refine Ext.drewN ?_ _ | with_reducible refine Ext.setCell ?_ (by simp <;> omega) _ | with_reducible refine Ext.trans ?_ (by assumption))) X2
  obtain ⟨g, cap, u, ev, A, -, hu, -, -, -, -, -⟩ := R2.last
  have ev' : v = .slice (some ⟨g, 0, none⟩) 1 cap := ev
  subst ev'
  obtain ⟨a, c, eu⟩ := A.d.len
  have eu' : u = .slice a 3 c := eu
  subst eu'
  obtain ⟨c0, c1, c2, c3, c4, c5, c6, -⟩ := A
  clear R2 X2 hu ev eu
  have c3' : w2.cell? ⟨g, 3, none⟩ = some (.int .i64 3) := c3
  have c4' : w2.cell? ⟨g, 4, none⟩ = some (.int .u64 4294967295) := c4
  have c6' : w2.cell? ⟨g, 6, none⟩ = some (.slice a 3 c) := c6
  clear c0 c1 c2 c3 c4 c5 c6
  go_wp2_with fail
  refine (CW.out _).mono ?_
  rintro e w3 ⟨rfl, X4⟩
  go_wp2_with fail
  refine (CO.out _).mono ?_
  rintro e w4 ⟨rfl, X5⟩
  go_wp2
  go_ret
  exact ⟨rfl, (X3.trans X4).trans X5⟩
end Go.Proofs.Ytkbbneknblnbnaa

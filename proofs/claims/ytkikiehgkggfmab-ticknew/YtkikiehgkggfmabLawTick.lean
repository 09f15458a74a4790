/- The walks of layer 8's statements. -/
import Derived.Test.YtkikiehgkggfmabTickM
namespace Go.Proofs.Ytkikiehgkggfmab
open Go.RowKit
set_option linter.unusedVariables false
set_option maxHeartbeats 2000000
attribute [local go_sem] later_cell later_frozen later_const
theorem long8 (a a2 : Option Addr) (n n2 cap cap2 : Nat) (w : World) : Calls Try.prog 7 #[.slice a n cap, .slice a2 n2 cap2] w fun e w' => e = .returned (.bool (decide (100 < n) || decide (100 < n2))) ∧ w = w' := by
  by_cases h1 : 100 < n
  · have d1 : decide (100 < (n : Int)) = true := by simp; omega
    go_enter Try.func7, Try.ntmps7
    go_wp2
    go_ret
    exact ⟨by simp [h1], rfl⟩
  · have d1 : decide (100 < (n : Int)) = false := by simp; omega
    by_cases h2 : 100 < n2
    · have d2 : decide (100 < (n2 : Int)) = true := by simp; omega
      go_enter Try.func7, Try.ntmps7
      go_wp2
      go_ret
      exact ⟨by simp [h2], rfl⟩
    · have d2 : decide (100 < (n2 : Int)) = false := by simp; omega
      go_enter Try.func7, Try.ntmps7
      go_wp2
      go_ret
      exact ⟨by simp [h1, h2], rfl⟩
theorem ints_two {w : World} {b : Nat} {x y : Int} (h0 : w.cell? ⟨b, 0, none⟩ = some (.int .i64 x)) (h1 : w.cell? ⟨b, 1, none⟩ = some (.int .i64 y)) : IntsV w (.slice (some ⟨b, 0, none⟩) 2 2) [x, y] := by
  refine .inr ⟨b, 0, 2, rfl, fun j hj => ?_⟩
  match j, hj with
  | 0, _ => simpa using h0
  | 1, _ => simpa using h1
theorem live8 (w : World) : Calls Try.prog 8 #[] w fun e w' => e = .returned (.bool true) ∧ Ext w w' := by
  have j1 : joinL [1, 4] [2, 0] = [2, 4] := by decide
  have a1 : apartB [1, 4] [2, 0] = true := by decide
  have C1 := Lib.hid fun v u w h h2 => tJoin v u [1, 4] [2, 0] w h h2 (by decide) (by decide)
  rw [j1] at C1
  have C2 := Lib.hid fun v u w h h2 => tApart v u [1, 4] [2, 0] w h h2 (by decide) (by decide)
  rw [a1] at C2
  have C3 := Lib.hid fun w => tNew_yes 3 w (by decide) (by decide)
  have C4 := Lib.hid fun v u w h h2 => same5 v u [2, 4] w h h2 (by decide)
  clear j1 a1
  go_enter Try.func8, Try.ntmps8
  go_wp2_with fail
  refine (C1.out _ _ _ (ints_two (by simp [go_sem]) (by simp [go_sem])) (ints_two (by simp [go_sem]) (by simp [go_sem]))).mono ?_
  rintro e w1 ⟨v1, rfl, R1, X1⟩
  have X1' : Ext w w1 := by
    have : Ext w ((w.alloc (.cells #[.int .i64 1, .int .i64 4] 3)).alloc (.cells #[.int .i64 2, .int .i64 0] 3)) := ((Ext.refl w).alloc _).alloc _
    exact this.trans X1
  have HR := Lib.hid R1.ints
  clear R1 X1
  go_wp2_with fail
  refine (C4.out _ _ _ (HR.out.ext ((Ext.refl w1).alloc _)) (ints_two (by simp [go_sem]) (by simp [go_sem]))).mono ?_
  rintro e w2 ⟨rfl, X2⟩
  have X2' : Ext w w2 := (X1'.alloc _).trans X2
  clear X2
  go_wp2_with fail
  refine (C2.out _ _ _ (ints_two (by simp [go_sem]) (by simp [go_sem])) (ints_two (by simp [go_sem]) (by simp [go_sem]))).mono ?_
  rintro e w3 ⟨rfl, X3⟩
  have X3' : Ext w w3 := ((X2'.alloc _).alloc _).trans X3
  clear X3
  go_wp2_with fail
  refine (C3.out _).mono ?_
  rintro e w4 ⟨v4, rfl, R4, X4⟩
  obtain ⟨a4, cap4, rfl⟩ := R4.ints.form
  clear R4
  go_wp2
  go_ret
  exact ⟨rfl, X3'.trans X4⟩
theorem tickTells_way (a a2 : Option Addr) (n n2 cap cap2 : Nat) (xs ys ts js : List Int) (i s : Int) (r x y q : Bool) (w : World) (hn : n ≤ 100) (hn2 : n2 ≤ 100) (hts : ts.length ≤ 1000) (hjs : js.length ≤ 1000)
    (C1 : ∀ w', Ext w w' → Calls Try.prog 9 #[.slice a n cap] w' fun e w'' => e = .returned (.bool r) ∧ w' = w'')
    (C2 : ∀ w', Ext w w' → Calls Try.prog 10 #[.slice a n cap] w' fun e w'' => e = .returned (.bool r) ∧ w' = w'')
    (C3 : ∀ w', Ext w w' → Calls Try.prog 12 #[.slice a n cap, .int .i64 i] w' (GivesI w' ts))
    (C4 : ∀ w', Ext w w' → Calls Try.prog 13 #[.slice a n cap, .int .i64 i] w' (GivesI w' ts))
    (C5 : ∀ w', Ext w w' → Calls Try.prog 14 #[.slice a n cap, .slice a2 n2 cap2] w' (GivesI w' js))
    (C6 : ∀ w', Ext w w' → Calls Try.prog 15 #[.slice a n cap, .slice a2 n2 cap2] w' (GivesI w' js))
    (C7 : ∀ w', Ext w w' → Calls Try.prog 16 #[.slice a n cap] w' fun e w'' => e = .returned (.int .i64 s) ∧ w' = w'')
    (C8 : ∀ w', Ext w w' → Calls Try.prog 17 #[.slice a n cap] w' fun e w'' => e = .returned (.int .i64 s) ∧ w' = w'')
    (C9 : ∀ w', Ext w w' → Calls Try.prog 18 #[.slice a n cap, .slice a2 n2 cap2] w' fun e w'' => e = .returned (.bool x) ∧ Ext w' w'')
    (C10 : ∀ w', Ext w w' → Calls Try.prog 18 #[.slice a2 n2 cap2, .slice a n cap] w' fun e w'' => e = .returned (.bool y) ∧ Ext w' w'')
    (C11 : ∀ w', Ext w w' → Calls Try.prog 19 #[.slice a n cap, .slice a2 n2 cap2] w' fun e w'' => e = .returned (.bool x) ∧ Ext w' w'')
    (C12 : ∀ w', Ext w w' → Calls Try.prog 20 #[.slice a n cap, .slice a2 n2 cap2] w' fun e w'' => e = .returned (.bool (x && y)) ∧ Ext w' w'')
    (C13 : ∀ w', Ext w w' → Calls Try.prog 21 #[.slice a n cap, .slice a2 n2 cap2] w' fun e w'' => e = .returned (.bool (q && !x && !y)) ∧ Ext w' w'')
    (C14 : ∀ w', Ext w w' → Calls Try.prog 22 #[.slice a n cap, .slice a2 n2 cap2] w' fun e w'' => e = .returned (.bool q) ∧ w' = w'') :
    Calls Try.prog 3 #[.slice a n cap, .slice a2 n2 cap2, .int .i64 i] w fun e w' => e = .returned (.bool true) ∧ Ext w w' := by
  have CL := Lib.hid fun w => long8 a a2 n n2 cap cap2 w
  have dl : (decide (100 < n) || decide (100 < n2)) = false := by simp; omega
  rw [dl] at CL
  clear dl
  have K1 := Lib.hid C1; have K2 := Lib.hid C2; have K3 := Lib.hid C3; have K4 := Lib.hid C4; have K5 := Lib.hid C5; have K6 := Lib.hid C6; have K7 := Lib.hid C7
  have K8 := Lib.hid C8; have K9 := Lib.hid C9; have K10 := Lib.hid C10; have K11 := Lib.hid C11; have K12 := Lib.hid C12; have K13 := Lib.hid C13; have K14 := Lib.hid C14
  have S1 := Lib.hid fun v u w h h2 => same5 v u ts w h h2 (by omega)
  have S2 := Lib.hid fun v u w h h2 => same5 v u js w h h2 (by omega)
  clear C1 C2 C3 C4 C5 C6 C7 C8 C9 C10 C11 C12 C13 C14 hts hjs
  cases r <;> cases x <;> cases y <;> cases q
  all_goals
    go_enter Try.func3, Try.ntmps3
    go_wp2_with fail
    refine (CL.out _).mono ?_
    rintro e w' ⟨rfl, rfl⟩
    go_wp2_with fail
    refine (K1.out _ (Ext.refl _)).mono ?_
    rintro e w' ⟨rfl, rfl⟩
    go_wp2_with fail
    refine (K2.out _ (Ext.refl _)).mono ?_
    rintro e w' ⟨rfl, rfl⟩
    go_wp2_with fail
    refine (K3.out _ (Ext.refl _)).mono ?_
    rintro e w1 ⟨v1, rfl, R1, X1⟩
    have I1 := Lib.hid R1.ints
    clear R1
    go_wp2_with fail
    refine (K4.out _ X1).mono ?_
    rintro e w2 ⟨v2, rfl, R2, X2⟩
    have I2 := Lib.hid R2.ints
    have I1' := Lib.hid (I1.out.ext X2)
    have Y2 := X1.trans X2
    clear R2 I1 X1 X2
    go_wp2_with fail
    refine (S1.out _ _ _ I1'.out I2.out).mono ?_
    rintro e w3 ⟨rfl, X3⟩
    have Y3 := Y2.trans X3
    clear X3 Y2 I1' I2
    go_wp2_with fail
    refine (K5.out _ Y3).mono ?_
    rintro e w4 ⟨v4, rfl, R4, X4⟩
    have I4 := Lib.hid R4.ints
    have Y4 := Y3.trans X4
    clear R4 X4 Y3
    go_wp2_with fail
    refine (K6.out _ Y4).mono ?_
    rintro e w5 ⟨v5, rfl, R5, X5⟩
    have I5 := Lib.hid R5.ints
    have I4' := Lib.hid (I4.out.ext X5)
    have Y5 := Y4.trans X5
    clear R5 I4 X5 Y4
    go_wp2_with fail
    refine (S2.out _ _ _ I4'.out I5.out).mono ?_
    rintro e w6 ⟨rfl, X6⟩
    have Y6 := Y5.trans X6
    clear X6 Y5 I4' I5
    go_wp2_with fail
    refine (K7.out _ Y6).mono ?_
    rintro e w' ⟨rfl, rfl⟩
    go_wp2_with fail
    refine (K8.out _ Y6).mono ?_
    rintro e w' ⟨rfl, rfl⟩
    go_wp2_with fail
    refine (K9.out _ Y6).mono ?_
    rintro e w7 ⟨rfl, X7⟩
    have Y7 := Y6.trans X7
    clear X7 Y6
    go_wp2_with fail
    refine (K10.out _ Y7).mono ?_
    rintro e w8 ⟨rfl, X8⟩
    have Y8 := Y7.trans X8
    clear X8 Y7
    go_wp2_with fail
    refine (K11.out _ Y8).mono ?_
    rintro e w9 ⟨rfl, X9⟩
    have Y9 := Y8.trans X9
    clear X9 Y8
    go_wp2_with fail
    refine (K12.out _ Y9).mono ?_
    rintro e w10 ⟨rfl, X10⟩
    have Y10 := Y9.trans X10
    clear X10 Y9
    go_wp2_with fail
    refine (K13.out _ Y10).mono ?_
    rintro e w11 ⟨rfl, X11⟩
    have Y11 := Y10.trans X11
    clear X11 Y10
    go_wp2_with fail
    refine (K14.out _ Y11).mono ?_
    rintro e w' ⟨rfl, rfl⟩
    go_wp2_with fail
    refine (live8 _).mono ?_
    rintro e w12 ⟨rfl, X12⟩
    go_wp2
    go_ret
    exact ⟨rfl, Y11.trans X12⟩
end Go.Proofs.Ytkikiehgkggfmab

/- The walk of PairRaw. -/
import Derived.Test.YthdokmhbdjajaaaLaw04a
namespace Go.Proofs.Ythdokmhbdjajaaa
open Go.RowKit
set_option linter.unusedVariables false
set_option maxHeartbeats 4000000
/-- a sum of two words is a word; the tape may be asked for it -/
theorem arith_any {P : Program} (x y : Nat) (w : World) : ∃ r w', (Op.Complex.arith .add .f64 x y).run P w = .ok r w' ∧ Ext w w' := by
  cases h : floatBits .add .f64 x y with
  | some r => exact ⟨r, w, run_carith w h, Ext.refl w⟩
  | none =>
    have h' : FloatKind.f64.format.add x y = none := h
    simp only [Op.Complex.arith, Op.floatArith]
    simp [h']
    by_cases hq : (Question.nanBits FloatKind.f64 x y).forced = true
    · simp [hq]; exact ⟨_, _, ⟨rfl, rfl⟩, Ext.refl w⟩
    · simp [hq]; exact ⟨_, _, ⟨rfl, rfl⟩, (Ext.refl w).drew⟩
theorem csum_any {P : Program} (t : TypeId) (a b c d : Nat) (w : World) : ∃ re im w', (binOp .add t (.complex .f64 a b) (.complex .f64 c d)).run P w = .ok (.complex .f64 re im) w' ∧ Ext w w' := by
  obtain ⟨r, w1, h1, x1⟩ := arith_any (P := P) a c w
  obtain ⟨i, w2, h2, x2⟩ := arith_any (P := P) b d w1
  exact ⟨r, i, w2, by simp [binOp, Op.complexOp, h1, h2], x1.trans x2⟩
theorem sum1_no (g x y : Nat) (w : World) (hc : w.cell? ⟨g, 0, none⟩ = some (.complex .f64 x y)) (h : (∀ z, ¬ Cnt x z) ∨ (∀ z, ¬ Cnt y z)) :
    Calls Try.prog 19 #[.slice (some ⟨g, 0, none⟩) 1 1] w fun e w' => e = .returned (.complex .f64 (F 0) (F 0)) ∧ Ext w w' := by
  obtain ⟨re, im, w2, hop, X⟩ := csum_any (P := Try.prog) 24 0 0 x y w
  have HX := Lib.hid X
  clear X
  go_enter Try.func19, Try.ntmps19
  go_wp2
  refine wp_loop_rounds 1 ?_
  rw [rounds_succ]
  go_wp2_with fail
  refine (whole_no _ _ _ h).mono ?_
  rintro e w' ⟨rfl, rfl⟩
  go_wp2
  go_ret
  exact ⟨rfl, HX.out⟩
/-- how a word stands to the ends, and to its own whole part, as the law asks -/
def LX (x : Nat) : Bool := FloatKind.f64.format.order x 14010698440749613056 == some .gt || FloatKind.f64.format.order x 14010698440749613056 == some .eq
def HX (x : Nat) : Bool := FloatKind.f64.format.order x 4787326403894837248 == some .lt || FloatKind.f64.format.order x 4787326403894837248 == some .eq
def EX (x : Nat) (n : Int) : Bool := FloatKind.f64.format.order (floatOfInt .f64 n) x == some .eq
theorem conv_i64 {x : Nat} {n : Int} (h : floatToIntVal .f64 x .i64 = some n) (w : World) : (convert 47 2 (.float .f64 x)).run Try.prog w = .ok (.int .i64 n) w :=
  run_convert_float_int w 47 2 .f64 .i64 x n (by rw [Try.underlying47]; rfl) Try.underlying2 h
set_option maxRecDepth 100000 in
theorem raw_noA (x y : Nat) (k : Int) (w : World) (h : (∀ z, ¬ Cnt x z) ∨ (∀ z, ¬ Cnt y z)) (lx : LX x = false) : Calls Try.prog 6 #[.float .f64 x, .float .f64 y, .int .i64 k] w fun e w' => e = .returned (.bool true) ∧ Below w.heap.size w w' := by
  unfold LX at lx
  have o0 : (FloatKind.f64.format.order (F 0) 0 == some .eq) = true := rfl
  go_enter Try.func6, Try.ntmps6
  go_wp2_with fail
  refine (whole_no _ _ _ h).mono ?_
  rintro e w' ⟨rfl, rfl⟩
  go_wp2_with fail
  refine (first_no _ _ _ h).mono ?_
  rintro e w' ⟨rfl, rfl⟩
  go_wp2_with fail
  refine (second_no _ _ _ h).mono ?_
  rintro e w' ⟨rfl, rfl⟩
  go_wp2_with fail
  refine (sum1_no _ _ _ _ (by simp [go_sem]) h).mono ?_
  rintro e w1 ⟨rfl, X1⟩
  go_wp2_with fail
  refine (times_no _ _ _ _ h).mono ?_
  rintro e w' ⟨rfl, rfl⟩
  go_wp2_with fail
  refine (turn_no _ _ _ h).mono ?_
  rintro e w' ⟨rfl, rfl⟩
  go_wp2_with fail
  refine (mirror_no _ _ _ h).mono ?_
  rintro e w' ⟨rfl, rfl⟩
  go_wp2_with fail
  refine (total_no _ _ _ h).mono ?_
  rintro e w' ⟨rfl, rfl⟩
  go_wp2_with fail
  refine (least_no _ _ _ _ _ h).mono ?_
  rintro e w' ⟨rfl, rfl⟩
  go_wp2_with fail
  refine (live04 _).mono ?_
  rintro e w2 ⟨rfl, X2⟩
  go_wp2
  go_ret
  exact ⟨rfl, Ext.below (((Ext.refl w).alloc _).trans (X1.trans X2))⟩
set_option maxRecDepth 100000 in
theorem raw_noB (x y : Nat) (k : Int) (w : World) (h : (∀ z, ¬ Cnt x z) ∨ (∀ z, ¬ Cnt y z)) (lx : LX x = true) (hx : HX x = false) : Calls Try.prog 6 #[.float .f64 x, .float .f64 y, .int .i64 k] w fun e w' => e = .returned (.bool true) ∧ Below w.heap.size w w' := by
  unfold LX at lx
  unfold HX at hx
  have o0 : (FloatKind.f64.format.order (F 0) 0 == some .eq) = true := rfl
  go_enter Try.func6, Try.ntmps6
  go_wp2_with fail
  refine (whole_no _ _ _ h).mono ?_
  rintro e w' ⟨rfl, rfl⟩
  go_wp2_with fail
  refine (first_no _ _ _ h).mono ?_
  rintro e w' ⟨rfl, rfl⟩
  go_wp2_with fail
  refine (second_no _ _ _ h).mono ?_
  rintro e w' ⟨rfl, rfl⟩
  go_wp2_with fail
  refine (sum1_no _ _ _ _ (by simp [go_sem]) h).mono ?_
  rintro e w1 ⟨rfl, X1⟩
  go_wp2_with fail
  refine (times_no _ _ _ _ h).mono ?_
  rintro e w' ⟨rfl, rfl⟩
  go_wp2_with fail
  refine (turn_no _ _ _ h).mono ?_
  rintro e w' ⟨rfl, rfl⟩
  go_wp2_with fail
  refine (mirror_no _ _ _ h).mono ?_
  rintro e w' ⟨rfl, rfl⟩
  go_wp2_with fail
  refine (total_no _ _ _ h).mono ?_
  rintro e w' ⟨rfl, rfl⟩
  go_wp2_with fail
  refine (least_no _ _ _ _ _ h).mono ?_
  rintro e w' ⟨rfl, rfl⟩
  go_wp2_with fail
  refine (live04 _).mono ?_
  rintro e w2 ⟨rfl, X2⟩
  go_wp2
  go_ret
  exact ⟨rfl, Ext.below (((Ext.refl w).alloc _).trans (X1.trans X2))⟩
set_option maxRecDepth 100000 in
theorem raw_noC (x y : Nat) (k : Int) (w : World) (h : (∀ z, ¬ Cnt x z) ∨ (∀ z, ¬ Cnt y z)) (lx : LX x = true) (hx : HX x = true) (ly : LX y = false) : Calls Try.prog 6 #[.float .f64 x, .float .f64 y, .int .i64 k] w fun e w' => e = .returned (.bool true) ∧ Below w.heap.size w w' := by
  unfold LX at lx
  unfold HX at hx
  unfold LX at ly
  have o0 : (FloatKind.f64.format.order (F 0) 0 == some .eq) = true := rfl
  go_enter Try.func6, Try.ntmps6
  go_wp2_with fail
  refine (whole_no _ _ _ h).mono ?_
  rintro e w' ⟨rfl, rfl⟩
  go_wp2_with fail
  refine (first_no _ _ _ h).mono ?_
  rintro e w' ⟨rfl, rfl⟩
  go_wp2_with fail
  refine (second_no _ _ _ h).mono ?_
  rintro e w' ⟨rfl, rfl⟩
  go_wp2_with fail
  refine (sum1_no _ _ _ _ (by simp [go_sem]) h).mono ?_
  rintro e w1 ⟨rfl, X1⟩
  go_wp2_with fail
  refine (times_no _ _ _ _ h).mono ?_
  rintro e w' ⟨rfl, rfl⟩
  go_wp2_with fail
  refine (turn_no _ _ _ h).mono ?_
  rintro e w' ⟨rfl, rfl⟩
  go_wp2_with fail
  refine (mirror_no _ _ _ h).mono ?_
  rintro e w' ⟨rfl, rfl⟩
  go_wp2_with fail
  refine (total_no _ _ _ h).mono ?_
  rintro e w' ⟨rfl, rfl⟩
  go_wp2_with fail
  refine (least_no _ _ _ _ _ h).mono ?_
  rintro e w' ⟨rfl, rfl⟩
  go_wp2_with fail
  refine (live04 _).mono ?_
  rintro e w2 ⟨rfl, X2⟩
  go_wp2
  go_ret
  exact ⟨rfl, Ext.below (((Ext.refl w).alloc _).trans (X1.trans X2))⟩
set_option maxRecDepth 100000 in
theorem raw_noD (x y : Nat) (k : Int) (w : World) (h : (∀ z, ¬ Cnt x z) ∨ (∀ z, ¬ Cnt y z)) (lx : LX x = true) (hx : HX x = true) (ly : LX y = true) (hy : HX y = false) : Calls Try.prog 6 #[.float .f64 x, .float .f64 y, .int .i64 k] w fun e w' => e = .returned (.bool true) ∧ Below w.heap.size w w' := by
  unfold LX at lx
  unfold HX at hx
  unfold LX at ly
  unfold HX at hy
  have o0 : (FloatKind.f64.format.order (F 0) 0 == some .eq) = true := rfl
  go_enter Try.func6, Try.ntmps6
  go_wp2_with fail
  refine (whole_no _ _ _ h).mono ?_
  rintro e w' ⟨rfl, rfl⟩
  go_wp2_with fail
  refine (first_no _ _ _ h).mono ?_
  rintro e w' ⟨rfl, rfl⟩
  go_wp2_with fail
  refine (second_no _ _ _ h).mono ?_
  rintro e w' ⟨rfl, rfl⟩
  go_wp2_with fail
  refine (sum1_no _ _ _ _ (by simp [go_sem]) h).mono ?_
  rintro e w1 ⟨rfl, X1⟩
  go_wp2_with fail
  refine (times_no _ _ _ _ h).mono ?_
  rintro e w' ⟨rfl, rfl⟩
  go_wp2_with fail
  refine (turn_no _ _ _ h).mono ?_
  rintro e w' ⟨rfl, rfl⟩
  go_wp2_with fail
  refine (mirror_no _ _ _ h).mono ?_
  rintro e w' ⟨rfl, rfl⟩
  go_wp2_with fail
  refine (total_no _ _ _ h).mono ?_
  rintro e w' ⟨rfl, rfl⟩
  go_wp2_with fail
  refine (least_no _ _ _ _ _ h).mono ?_
  rintro e w' ⟨rfl, rfl⟩
  go_wp2_with fail
  refine (live04 _).mono ?_
  rintro e w2 ⟨rfl, X2⟩
  go_wp2
  go_ret
  exact ⟨rfl, Ext.below (((Ext.refl w).alloc _).trans (X1.trans X2))⟩
set_option maxRecDepth 100000 in
theorem raw_noE (x y : Nat) (k : Int) (w : World) (h : (∀ z, ¬ Cnt x z) ∨ (∀ z, ¬ Cnt y z)) (lx : LX x = true) (hx : HX x = true) (ly : LX y = true) (hy : HX y = true) (n : Int) (cx : floatToIntVal .f64 x .i64 = some n) (ex : EX x n = false) : Calls Try.prog 6 #[.float .f64 x, .float .f64 y, .int .i64 k] w fun e w' => e = .returned (.bool true) ∧ Below w.heap.size w w' := by
  unfold LX at lx
  unfold HX at hx
  unfold LX at ly
  unfold HX at hy
  unfold EX at ex
  have hcx := conv_i64 cx
  clear cx
  have o0 : (FloatKind.f64.format.order (F 0) 0 == some .eq) = true := rfl
  go_enter Try.func6, Try.ntmps6
  go_wp2_with fail
  refine (whole_no _ _ _ h).mono ?_
  rintro e w' ⟨rfl, rfl⟩
  go_wp2_with fail
  refine (first_no _ _ _ h).mono ?_
  rintro e w' ⟨rfl, rfl⟩
  go_wp2_with fail
  refine (second_no _ _ _ h).mono ?_
  rintro e w' ⟨rfl, rfl⟩
  go_wp2_with fail
  refine (sum1_no _ _ _ _ (by simp [go_sem]) h).mono ?_
  rintro e w1 ⟨rfl, X1⟩
  go_wp2_with fail
  refine (times_no _ _ _ _ h).mono ?_
  rintro e w' ⟨rfl, rfl⟩
  go_wp2_with fail
  refine (turn_no _ _ _ h).mono ?_
  rintro e w' ⟨rfl, rfl⟩
  go_wp2_with fail
  refine (mirror_no _ _ _ h).mono ?_
  rintro e w' ⟨rfl, rfl⟩
  go_wp2_with fail
  refine (total_no _ _ _ h).mono ?_
  rintro e w' ⟨rfl, rfl⟩
  go_wp2_with fail
  refine (least_no _ _ _ _ _ h).mono ?_
  rintro e w' ⟨rfl, rfl⟩
  go_wp2_with fail
  refine (live04 _).mono ?_
  rintro e w2 ⟨rfl, X2⟩
  go_wp2
  go_ret
  exact ⟨rfl, Ext.below (((Ext.refl w).alloc _).trans (X1.trans X2))⟩
set_option maxRecDepth 100000 in
theorem raw_noF (x y : Nat) (k : Int) (w : World) (h : (∀ z, ¬ Cnt x z) ∨ (∀ z, ¬ Cnt y z)) (lx : LX x = true) (hx : HX x = true) (ly : LX y = true) (hy : HX y = true) (n : Int) (cx : floatToIntVal .f64 x .i64 = some n) (ex : EX x n = true) (m : Int) (cy : floatToIntVal .f64 y .i64 = some m) (ey : EX y m = false) : Calls Try.prog 6 #[.float .f64 x, .float .f64 y, .int .i64 k] w fun e w' => e = .returned (.bool true) ∧ Below w.heap.size w w' := by
  unfold LX at lx
  unfold HX at hx
  unfold LX at ly
  unfold HX at hy
  unfold EX at ex
  unfold EX at ey
  have hcx := conv_i64 cx
  clear cx
  have hcy := conv_i64 cy
  clear cy
  have o0 : (FloatKind.f64.format.order (F 0) 0 == some .eq) = true := rfl
  go_enter Try.func6, Try.ntmps6
  go_wp2_with fail
  refine (whole_no _ _ _ h).mono ?_
  rintro e w' ⟨rfl, rfl⟩
  go_wp2_with fail
  refine (first_no _ _ _ h).mono ?_
  rintro e w' ⟨rfl, rfl⟩
  go_wp2_with fail
  refine (second_no _ _ _ h).mono ?_
  rintro e w' ⟨rfl, rfl⟩
  go_wp2_with fail
  refine (sum1_no _ _ _ _ (by simp [go_sem]) h).mono ?_
  rintro e w1 ⟨rfl, X1⟩
  go_wp2_with fail
  refine (times_no _ _ _ _ h).mono ?_
  rintro e w' ⟨rfl, rfl⟩
  go_wp2_with fail
  refine (turn_no _ _ _ h).mono ?_
  rintro e w' ⟨rfl, rfl⟩
  go_wp2_with fail
  refine (mirror_no _ _ _ h).mono ?_
  rintro e w' ⟨rfl, rfl⟩
  go_wp2_with fail
  refine (total_no _ _ _ h).mono ?_
  rintro e w' ⟨rfl, rfl⟩
  go_wp2_with fail
  refine (least_no _ _ _ _ _ h).mono ?_
  rintro e w' ⟨rfl, rfl⟩
  go_wp2_with fail
  refine (live04 _).mono ?_
  rintro e w2 ⟨rfl, X2⟩
  go_wp2
  go_ret
  exact ⟨rfl, Ext.below (((Ext.refl w).alloc _).trans (X1.trans X2))⟩
end Go.Proofs.Ythdokmhbdjajaaa

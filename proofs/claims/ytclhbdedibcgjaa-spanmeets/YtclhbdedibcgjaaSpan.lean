/- Contracts of package span's methods: what each call returns; memory is made, nothing old turns. -/
import Derived.Test.YtclhbdedibcgjaaWide
import Derived.Test.YtclhbdedibcgjaaExt
import Derived.Lib.Hide
import Derived.Outline
namespace Go.Proofs.Ytclhbdedibcgjaa
open Go.RowKit
set_option linter.unusedVariables false
set_option maxHeartbeats 400000
attribute [local go_sem] later_cell later_frozen later_const
/-- may there be a span of so many -/
def okN (n : Int) : Bool := decide (0 ≤ n) && decide (n ≤ 1073741824)
theorem okN_true {n : Int} (h : okN n = true) : 0 ≤ n ∧ n ≤ 1073741824 := by simpa [okN] using h
theorem okN_of {n : Int} (h0 : 0 ≤ n) (h1 : n ≤ 1073741824) : okN n = true := by simp [okN, h0, h1]
theorem sRight32 (f n : Int) (w : World) : Calls Try.prog 17 #[.agg #[.int .u32 f, .int .i64 n]] w fun e w' => e = .returned (.bool (okN n)) ∧ Ext w w' := by
  unfold okN
  by_cases h0 : 0 ≤ n
  · have d0 : decide (0 ≤ n) = true := by simpa using h0
    go_enter Try.func17, Try.ntmps17
    go_wp2
    go_ret
    refine ⟨by simp [h0], ?_⟩
    repeat (first | with_reducible exact Ext.refl _ | with_reducible assumption | with_reducible refine Ext.alloc ?_ _ | with_reducible refine Ext.drew ?_ | with_reducible refine Ext.drewN ?_ _ | with_reducible refine Ext.setCell ?_ (by simp <;> omega) _ | with_reducible refine Ext.trans ?_ (by assumption))
  · have d0 : decide (0 ≤ n) = false := by simpa using h0
    go_enter Try.func17, Try.ntmps17
    go_wp2
    go_ret
    refine ⟨by simp, ?_⟩
    repeat (first | with_reducible exact Ext.refl _ | with_reducible assumption | with_reducible refine Ext.alloc ?_ _ | with_reducible refine Ext.drew ?_ | with_reducible refine Ext.drewN ?_ _ | with_reducible refine Ext.setCell ?_ (by simp <;> omega) _ | with_reducible refine Ext.trans ?_ (by assumption))
theorem sEnd32 (f n : Int) (w : World) (hk : okN n = true) : Calls Try.prog 23 #[.agg #[.int .u32 f, .int .i64 n]] w fun e w' => e = .returned (.int .u32 ((f + n) % 4294967296)) ∧ Ext w w' := by
  go_enter Try.func23, Try.ntmps23
  go_wp2_with fail
  refine (sRight32 _ _ _).mono ?_
  rintro e w1 ⟨rfl, hb1⟩
  obtain ⟨hc1, hf1⟩ := hb1.cells
  rw [hk]
  go_wp2_with fail
  refine (addU32 _ _ _).mono ?_
  rintro e w' ⟨rfl, rfl⟩
  go_wp2
  go_ret
  refine ⟨rfl, ?_⟩
  repeat (first | with_reducible exact Ext.refl _ | with_reducible assumption | with_reducible refine Ext.alloc ?_ _ | with_reducible refine Ext.drew ?_ | with_reducible refine Ext.drewN ?_ _ | with_reducible refine Ext.setCell ?_ (by simp <;> omega) _ | with_reducible refine Ext.trans ?_ (by assumption))
theorem sEnd32_no (f n : Int) (w : World) (hk : okN n = false) : Calls Try.prog 23 #[.agg #[.int .u32 f, .int .i64 n]] w fun e w' => e = .returned (.int .u32 0) ∧ Ext w w' := by
  go_enter Try.func23, Try.ntmps23
  go_wp2_with fail
  refine (sRight32 _ _ _).mono ?_
  rintro e w1 ⟨rfl, hb1⟩
  obtain ⟨hc1, hf1⟩ := hb1.cells
  rw [hk]
  go_wp2
  go_ret
  refine ⟨rfl, ?_⟩
  repeat (first | with_reducible exact Ext.refl _ | with_reducible assumption | with_reducible refine Ext.alloc ?_ _ | with_reducible refine Ext.drew ?_ | with_reducible refine Ext.drewN ?_ _ | with_reducible refine Ext.setCell ?_ (by simp <;> omega) _ | with_reducible refine Ext.trans ?_ (by assumption))
theorem sRight64 (f n : Int) (w : World) : Calls Try.prog 40 #[.agg #[.int .u64 f, .int .i64 n]] w fun e w' => e = .returned (.bool (okN n)) ∧ Ext w w' := by
  unfold okN
  by_cases h0 : 0 ≤ n
  · have d0 : decide (0 ≤ n) = true := by simpa using h0
    go_enter Try.func40, Try.ntmps40
    go_wp2
    go_ret
    refine ⟨by simp [h0], ?_⟩
    repeat (first | with_reducible exact Ext.refl _ | with_reducible assumption | with_reducible refine Ext.alloc ?_ _ | with_reducible refine Ext.drew ?_ | with_reducible refine Ext.drewN ?_ _ | with_reducible refine Ext.setCell ?_ (by simp <;> omega) _ | with_reducible refine Ext.trans ?_ (by assumption))
  · have d0 : decide (0 ≤ n) = false := by simpa using h0
    go_enter Try.func40, Try.ntmps40
    go_wp2
    go_ret
    refine ⟨by simp, ?_⟩
    repeat (first | with_reducible exact Ext.refl _ | with_reducible assumption | with_reducible refine Ext.alloc ?_ _ | with_reducible refine Ext.drew ?_ | with_reducible refine Ext.drewN ?_ _ | with_reducible refine Ext.setCell ?_ (by simp <;> omega) _ | with_reducible refine Ext.trans ?_ (by assumption))
theorem sEnd64 (f n : Int) (w : World) (hk : okN n = true) : Calls Try.prog 24 #[.agg #[.int .u64 f, .int .i64 n]] w fun e w' => e = .returned (.int .u64 (U64 (f + n))) ∧ Ext w w' := by
  go_enter Try.func24, Try.ntmps24
  go_wp2_with fail
  refine (sRight64 _ _ _).mono ?_
  rintro e w1 ⟨rfl, hb1⟩
  obtain ⟨hc1, hf1⟩ := hb1.cells
  rw [hk]
  go_wp2_with fail
  refine (addU64 _ _ _).mono ?_
  rintro e w' ⟨rfl, rfl⟩
  go_wp2
  go_ret
  refine ⟨rfl, ?_⟩
  repeat (first | with_reducible exact Ext.refl _ | with_reducible assumption | with_reducible refine Ext.alloc ?_ _ | with_reducible refine Ext.drew ?_ | with_reducible refine Ext.drewN ?_ _ | with_reducible refine Ext.setCell ?_ (by simp <;> omega) _ | with_reducible refine Ext.trans ?_ (by assumption))
theorem sEnd64_no (f n : Int) (w : World) (hk : okN n = false) : Calls Try.prog 24 #[.agg #[.int .u64 f, .int .i64 n]] w fun e w' => e = .returned (.int .u64 0) ∧ Ext w w' := by
  go_enter Try.func24, Try.ntmps24
  go_wp2_with fail
  refine (sRight64 _ _ _).mono ?_
  rintro e w1 ⟨rfl, hb1⟩
  obtain ⟨hc1, hf1⟩ := hb1.cells
  rw [hk]
  go_wp2
  go_ret
  refine ⟨rfl, ?_⟩
  repeat (first | with_reducible exact Ext.refl _ | with_reducible assumption | with_reducible refine Ext.alloc ?_ _ | with_reducible refine Ext.drew ?_ | with_reducible refine Ext.drewN ?_ _ | with_reducible refine Ext.setCell ?_ (by simp <;> omega) _ | with_reducible refine Ext.trans ?_ (by assumption))
/-- is a position, so far behind a span's first one, one of its -/
def inN (d n : Int) : Bool := decide (0 < n) && decide (n ≤ 1073741824) && decide (d < n)
theorem sHas32 (f n x : Int) (w : World) : Calls Try.prog 18 #[.agg #[.int .u32 f, .int .i64 n], .int .u32 x] w fun e w' => e = .returned (.bool (inN ((x - f) % 4294967296) n)) ∧ Ext w w' := by
  cases hk : okN n
  · have e : inN ((x - f) % 4294967296) n = false := by
      unfold okN at hk
      unfold inN
      simp at hk ⊢
      omega
    rw [e]
    clear e
    go_enter Try.func18, Try.ntmps18
    go_wp2_with fail
    refine (sRight32 _ _ _).mono ?_
    rintro e w1 ⟨rfl, hb1⟩
    obtain ⟨hc1, hf1⟩ := hb1.cells
    rw [hk]
    go_wp2
    go_ret
    refine ⟨rfl, ?_⟩
    repeat (first | with_reducible exact Ext.refl _ | with_reducible assumption | with_reducible refine Ext.alloc ?_ _ | with_reducible refine Ext.drew ?_ | with_reducible refine Ext.drewN ?_ _ | with_reducible refine Ext.setCell ?_ (by simp <;> omega) _ | with_reducible refine Ext.trans ?_ (by assumption))
  · have hr := okN_true hk
    by_cases h0 : 0 < n
    · have e : inN ((x - f) % 4294967296) n = decide (((x - f) % 4294967296) < n) := by
        unfold inN
        simp [h0, hr.2]
      have E := Lib.hid e
      clear e
      go_enter Try.func18, Try.ntmps18
      go_wp2_with fail
      refine (sRight32 _ _ _).mono ?_
      rintro e w2 ⟨rfl, hb2⟩
      obtain ⟨hc2, hf2⟩ := hb2.cells
      rw [hk]
      go_wp2_with fail
      refine (withinU32_yes _ _ _ _ h0 (by omega)).mono ?_
      rintro e w' ⟨rfl, rfl⟩
      go_wp2
      go_ret
      refine ⟨ret_bool E.out.symm, ?_⟩
      repeat (first | with_reducible exact Ext.refl _ | with_reducible assumption | with_reducible refine Ext.alloc ?_ _ | with_reducible refine Ext.drew ?_ | with_reducible refine Ext.drewN ?_ _ | with_reducible refine Ext.setCell ?_ (by simp <;> omega) _ | with_reducible refine Ext.trans ?_ (by assumption))
    · have e : inN ((x - f) % 4294967296) n = false := by
        unfold inN
        simp [h0]
      rw [e]
      clear e
      go_enter Try.func18, Try.ntmps18
      go_wp2_with fail
      refine (sRight32 _ _ _).mono ?_
      rintro e w3 ⟨rfl, hb3⟩
      obtain ⟨hc3, hf3⟩ := hb3.cells
      rw [hk]
      go_wp2_with fail
      refine (withinU32_no _ _ _ _ (by omega)).mono ?_
      rintro e w' ⟨rfl, rfl⟩
      go_wp2
      go_ret
      refine ⟨rfl, ?_⟩
      repeat (first | with_reducible exact Ext.refl _ | with_reducible assumption | with_reducible refine Ext.alloc ?_ _ | with_reducible refine Ext.drew ?_ | with_reducible refine Ext.drewN ?_ _ | with_reducible refine Ext.setCell ?_ (by simp <;> omega) _ | with_reducible refine Ext.trans ?_ (by assumption))
theorem sPlace32_yes (f n x : Int) (w : World) (h : inN ((x - f) % 4294967296) n = true) : Calls Try.prog 13 #[.agg #[.int .u32 f, .int .i64 n], .int .u32 x] w fun e w' => e = .returned (.tuple #[.int .i64 (D32 (x - f)), .bool true]) ∧ Ext w w' := by
  go_enter Try.func13, Try.ntmps13
  go_wp2_with fail
  refine (sHas32 _ _ _ _).mono ?_
  rintro e w1 ⟨rfl, hb1⟩
  obtain ⟨hc1, hf1⟩ := hb1.cells
  rw [h]
  go_wp2_with fail
  refine (diffU32 _ _ _).mono ?_
  rintro e w' ⟨rfl, rfl⟩
  go_wp2
  go_ret2
  refine ⟨rfl, ?_⟩
  repeat (first | with_reducible exact Ext.refl _ | with_reducible assumption | with_reducible refine Ext.alloc ?_ _ | with_reducible refine Ext.drew ?_ | with_reducible refine Ext.drewN ?_ _ | with_reducible refine Ext.setCell ?_ (by simp <;> omega) _ | with_reducible refine Ext.trans ?_ (by assumption))
theorem sPlace32_no (f n x : Int) (w : World) (h : inN ((x - f) % 4294967296) n = false) : Calls Try.prog 13 #[.agg #[.int .u32 f, .int .i64 n], .int .u32 x] w fun e w' => e = .returned (.tuple #[.int .i64 0, .bool false]) ∧ Ext w w' := by
  go_enter Try.func13, Try.ntmps13
  go_wp2_with fail
  refine (sHas32 _ _ _ _).mono ?_
  rintro e w1 ⟨rfl, hb1⟩
  obtain ⟨hc1, hf1⟩ := hb1.cells
  rw [h]
  go_wp2
  go_ret2
  refine ⟨rfl, ?_⟩
  repeat (first | with_reducible exact Ext.refl _ | with_reducible assumption | with_reducible refine Ext.alloc ?_ _ | with_reducible refine Ext.drew ?_ | with_reducible refine Ext.drewN ?_ _ | with_reducible refine Ext.setCell ?_ (by simp <;> omega) _ | with_reducible refine Ext.trans ?_ (by assumption))
theorem sAt32_yes (f n i : Int) (w : World) (hk : okN n = true) (h0 : 0 ≤ i) (h1 : i < n) : Calls Try.prog 20 #[.agg #[.int .u32 f, .int .i64 n], .int .i64 i] w fun e w' => e = .returned (.tuple #[.int .u32 ((f + i) % 4294967296), .bool true]) ∧ Ext w w' := by
  have d0 : decide (i < 0) = false := by simp; omega
  have d1 : decide (n ≤ i) = false := by simp; omega
  go_enter Try.func20, Try.ntmps20
  go_wp2_with fail
  refine (sRight32 _ _ _).mono ?_
  rintro e w1 ⟨rfl, hb1⟩
  obtain ⟨hc1, hf1⟩ := hb1.cells
  rw [hk]
  go_wp2_with fail
  refine (addU32 _ _ _).mono ?_
  rintro e w' ⟨rfl, rfl⟩
  go_wp2
  go_ret2
  refine ⟨rfl, ?_⟩
  repeat (first | with_reducible exact Ext.refl _ | with_reducible assumption | with_reducible refine Ext.alloc ?_ _ | with_reducible refine Ext.drew ?_ | with_reducible refine Ext.drewN ?_ _ | with_reducible refine Ext.setCell ?_ (by simp <;> omega) _ | with_reducible refine Ext.trans ?_ (by assumption))
theorem sAt32_no (f n i : Int) (w : World) (hk : okN n = false ∨ i < 0 ∨ n ≤ i) : Calls Try.prog 20 #[.agg #[.int .u32 f, .int .i64 n], .int .i64 i] w fun e w' => e = .returned (.tuple #[.int .u32 0, .bool false]) ∧ Ext w w' := by
  cases h : okN n
  · go_enter Try.func20, Try.ntmps20
    go_wp2_with fail
    refine (sRight32 _ _ _).mono ?_
    rintro e w1 ⟨rfl, hb1⟩
    obtain ⟨hc1, hf1⟩ := hb1.cells
    rw [h]
    go_wp2
    go_ret2
    refine ⟨rfl, ?_⟩
    repeat (first | with_reducible exact Ext.refl _ | with_reducible assumption | with_reducible refine Ext.alloc ?_ _ | with_reducible refine Ext.drew ?_ | with_reducible refine Ext.drewN ?_ _ | with_reducible refine Ext.setCell ?_ (by simp <;> omega) _ | with_reducible refine Ext.trans ?_ (by assumption))
  · by_cases h0 : i < 0
    · have d0 : decide (i < 0) = true := by simpa using h0
      go_enter Try.func20, Try.ntmps20
      go_wp2_with fail
      refine (sRight32 _ _ _).mono ?_
      rintro e w2 ⟨rfl, hb2⟩
      obtain ⟨hc2, hf2⟩ := hb2.cells
      rw [h]
      go_wp2
      go_ret2
      refine ⟨rfl, ?_⟩
      repeat (first | with_reducible exact Ext.refl _ | with_reducible assumption | with_reducible refine Ext.alloc ?_ _ | with_reducible refine Ext.drew ?_ | with_reducible refine Ext.drewN ?_ _ | with_reducible refine Ext.setCell ?_ (by simp <;> omega) _ | with_reducible refine Ext.trans ?_ (by assumption))
    · have d0 : decide (i < 0) = false := by simpa using h0
      have d1 : decide (n ≤ i) = true := by
        rcases hk with hk | hk | hk
        · rw [h] at hk; cases hk
        · exact absurd hk h0
        · simpa using hk
      clear hk
      go_enter Try.func20, Try.ntmps20
      go_wp2_with fail
      refine (sRight32 _ _ _).mono ?_
      rintro e w3 ⟨rfl, hb3⟩
      obtain ⟨hc3, hf3⟩ := hb3.cells
      rw [h]
      go_wp2
      go_ret2
      refine ⟨rfl, ?_⟩
      repeat (first | with_reducible exact Ext.refl _ | with_reducible assumption | with_reducible refine Ext.alloc ?_ _ | with_reducible refine Ext.drew ?_ | with_reducible refine Ext.drewN ?_ _ | with_reducible refine Ext.setCell ?_ (by simp <;> omega) _ | with_reducible refine Ext.trans ?_ (by assumption))
theorem sHas64 (f n x : Int) (w : World) : Calls Try.prog 19 #[.agg #[.int .u64 f, .int .i64 n], .int .u64 x] w fun e w' => e = .returned (.bool (inN (U64 (x - f)) n)) ∧ Ext w w' := by
  cases hk : okN n
  · have e : inN (U64 (x - f)) n = false := by
      unfold okN at hk
      unfold inN
      simp at hk ⊢
      omega
    rw [e]
    clear e
    go_enter Try.func19, Try.ntmps19
    go_wp2_with fail
    refine (sRight64 _ _ _).mono ?_
    rintro e w1 ⟨rfl, hb1⟩
    obtain ⟨hc1, hf1⟩ := hb1.cells
    rw [hk]
    go_wp2
    go_ret
    refine ⟨rfl, ?_⟩
    repeat (first | with_reducible exact Ext.refl _ | with_reducible assumption | with_reducible refine Ext.alloc ?_ _ | with_reducible refine Ext.drew ?_ | with_reducible refine Ext.drewN ?_ _ | with_reducible refine Ext.setCell ?_ (by simp <;> omega) _ | with_reducible refine Ext.trans ?_ (by assumption))
  · have hr := okN_true hk
    by_cases h0 : 0 < n
    · have e : inN (U64 (x - f)) n = decide ((U64 (x - f)) < n) := by
        unfold inN
        simp [h0, hr.2]
      have E := Lib.hid e
      clear e
      go_enter Try.func19, Try.ntmps19
      go_wp2_with fail
      refine (sRight64 _ _ _).mono ?_
      rintro e w2 ⟨rfl, hb2⟩
      obtain ⟨hc2, hf2⟩ := hb2.cells
      rw [hk]
      go_wp2_with fail
      refine (withinU64_yes _ _ _ _ h0 (by omega)).mono ?_
      rintro e w' ⟨rfl, rfl⟩
      go_wp2
      go_ret
      refine ⟨ret_bool E.out.symm, ?_⟩
      repeat (first | with_reducible exact Ext.refl _ | with_reducible assumption | with_reducible refine Ext.alloc ?_ _ | with_reducible refine Ext.drew ?_ | with_reducible refine Ext.drewN ?_ _ | with_reducible refine Ext.setCell ?_ (by simp <;> omega) _ | with_reducible refine Ext.trans ?_ (by assumption))
    · have e : inN (U64 (x - f)) n = false := by
        unfold inN
        simp [h0]
      rw [e]
      clear e
      go_enter Try.func19, Try.ntmps19
      go_wp2_with fail
      refine (sRight64 _ _ _).mono ?_
      rintro e w3 ⟨rfl, hb3⟩
      obtain ⟨hc3, hf3⟩ := hb3.cells
      rw [hk]
      go_wp2_with fail
      refine (withinU64_no _ _ _ _ (by omega)).mono ?_
      rintro e w' ⟨rfl, rfl⟩
      go_wp2
      go_ret
      refine ⟨rfl, ?_⟩
      repeat (first | with_reducible exact Ext.refl _ | with_reducible assumption | with_reducible refine Ext.alloc ?_ _ | with_reducible refine Ext.drew ?_ | with_reducible refine Ext.drewN ?_ _ | with_reducible refine Ext.setCell ?_ (by simp <;> omega) _ | with_reducible refine Ext.trans ?_ (by assumption))
theorem sPlace64_yes (f n x : Int) (w : World) (h : inN (U64 (x - f)) n = true) : Calls Try.prog 15 #[.agg #[.int .u64 f, .int .i64 n], .int .u64 x] w fun e w' => e = .returned (.tuple #[.int .i64 (D64 (x - f)), .bool true]) ∧ Ext w w' := by
  go_enter Try.func15, Try.ntmps15
  go_wp2_with fail
  refine (sHas64 _ _ _ _).mono ?_
  rintro e w1 ⟨rfl, hb1⟩
  obtain ⟨hc1, hf1⟩ := hb1.cells
  rw [h]
  go_wp2_with fail
  refine (diffU64 _ _ _).mono ?_
  rintro e w' ⟨rfl, rfl⟩
  go_wp2
  go_ret2
  refine ⟨rfl, ?_⟩
  repeat (first | with_reducible exact Ext.refl _ | with_reducible assumption | with_reducible refine Ext.alloc ?_ _ | with_reducible refine Ext.drew ?_ | with_reducible refine Ext.drewN ?_ _ | with_reducible refine Ext.setCell ?_ (by simp <;> omega) _ | with_reducible refine Ext.trans ?_ (by assumption))
theorem sPlace64_no (f n x : Int) (w : World) (h : inN (U64 (x - f)) n = false) : Calls Try.prog 15 #[.agg #[.int .u64 f, .int .i64 n], .int .u64 x] w fun e w' => e = .returned (.tuple #[.int .i64 0, .bool false]) ∧ Ext w w' := by
  go_enter Try.func15, Try.ntmps15
  go_wp2_with fail
  refine (sHas64 _ _ _ _).mono ?_
  rintro e w1 ⟨rfl, hb1⟩
  obtain ⟨hc1, hf1⟩ := hb1.cells
  rw [h]
  go_wp2
  go_ret2
  refine ⟨rfl, ?_⟩
  repeat (first | with_reducible exact Ext.refl _ | with_reducible assumption | with_reducible refine Ext.alloc ?_ _ | with_reducible refine Ext.drew ?_ | with_reducible refine Ext.drewN ?_ _ | with_reducible refine Ext.setCell ?_ (by simp <;> omega) _ | with_reducible refine Ext.trans ?_ (by assumption))
theorem sAt64_yes (f n i : Int) (w : World) (hk : okN n = true) (h0 : 0 ≤ i) (h1 : i < n) : Calls Try.prog 21 #[.agg #[.int .u64 f, .int .i64 n], .int .i64 i] w fun e w' => e = .returned (.tuple #[.int .u64 (U64 (f + i)), .bool true]) ∧ Ext w w' := by
  have d0 : decide (i < 0) = false := by simp; omega
  have d1 : decide (n ≤ i) = false := by simp; omega
  go_enter Try.func21, Try.ntmps21
  go_wp2_with fail
  refine (sRight64 _ _ _).mono ?_
  rintro e w1 ⟨rfl, hb1⟩
  obtain ⟨hc1, hf1⟩ := hb1.cells
  rw [hk]
  go_wp2_with fail
  refine (addU64 _ _ _).mono ?_
  rintro e w' ⟨rfl, rfl⟩
  go_wp2
  go_ret2
  refine ⟨rfl, ?_⟩
  repeat (first | with_reducible exact Ext.refl _ | with_reducible assumption | with_reducible refine Ext.alloc ?_ _ | with_reducible refine Ext.drew ?_ | with_reducible refine Ext.drewN ?_ _ | with_reducible refine Ext.setCell ?_ (by simp <;> omega) _ | with_reducible refine Ext.trans ?_ (by assumption))
theorem sAt64_no (f n i : Int) (w : World) (hk : okN n = false ∨ i < 0 ∨ n ≤ i) : Calls Try.prog 21 #[.agg #[.int .u64 f, .int .i64 n], .int .i64 i] w fun e w' => e = .returned (.tuple #[.int .u64 0, .bool false]) ∧ Ext w w' := by
  cases h : okN n
  · go_enter Try.func21, Try.ntmps21
    go_wp2_with fail
    refine (sRight64 _ _ _).mono ?_
    rintro e w1 ⟨rfl, hb1⟩
    obtain ⟨hc1, hf1⟩ := hb1.cells
    rw [h]
    go_wp2
    go_ret2
    refine ⟨rfl, ?_⟩
    repeat (first | with_reducible exact Ext.refl _ | with_reducible assumption | with_reducible refine Ext.alloc ?_ _ | with_reducible refine Ext.drew ?_ | with_reducible refine Ext.drewN ?_ _ | with_reducible refine Ext.setCell ?_ (by simp <;> omega) _ | with_reducible refine Ext.trans ?_ (by assumption))
  · by_cases h0 : i < 0
    · have d0 : decide (i < 0) = true := by simpa using h0
      go_enter Try.func21, Try.ntmps21
      go_wp2_with fail
      refine (sRight64 _ _ _).mono ?_
      rintro e w2 ⟨rfl, hb2⟩
      obtain ⟨hc2, hf2⟩ := hb2.cells
      rw [h]
      go_wp2
      go_ret2
      refine ⟨rfl, ?_⟩
      repeat (first | with_reducible exact Ext.refl _ | with_reducible assumption | with_reducible refine Ext.alloc ?_ _ | with_reducible refine Ext.drew ?_ | with_reducible refine Ext.drewN ?_ _ | with_reducible refine Ext.setCell ?_ (by simp <;> omega) _ | with_reducible refine Ext.trans ?_ (by assumption))
    · have d0 : decide (i < 0) = false := by simpa using h0
      have d1 : decide (n ≤ i) = true := by
        rcases hk with hk | hk | hk
        · rw [h] at hk; cases hk
        · exact absurd hk h0
        · simpa using hk
      clear hk
      go_enter Try.func21, Try.ntmps21
      go_wp2_with fail
      refine (sRight64 _ _ _).mono ?_
      rintro e w3 ⟨rfl, hb3⟩
      obtain ⟨hc3, hf3⟩ := hb3.cells
      rw [h]
      go_wp2
      go_ret2
      refine ⟨rfl, ?_⟩
      repeat (first | with_reducible exact Ext.refl _ | with_reducible assumption | with_reducible refine Ext.alloc ?_ _ | with_reducible refine Ext.drew ?_ | with_reducible refine Ext.drewN ?_ _ | with_reducible refine Ext.setCell ?_ (by simp <;> omega) _ | with_reducible refine Ext.trans ?_ (by assumption))
theorem sRight32_yes (f n : Int) (w : World) (hk : okN n = true) : Calls Try.prog 17 #[.agg #[.int .u32 f, .int .i64 n]] w fun e w' => e = .returned (.bool true) ∧ Ext w w' := by
  have h := sRight32 f n w
  rwa [hk] at h
theorem sRight32_no (f n : Int) (w : World) (hk : okN n = false) : Calls Try.prog 17 #[.agg #[.int .u32 f, .int .i64 n]] w fun e w' => e = .returned (.bool false) ∧ Ext w w' := by
  have h := sRight32 f n w
  rwa [hk] at h
theorem sRight64_yes (f n : Int) (w : World) (hk : okN n = true) : Calls Try.prog 40 #[.agg #[.int .u64 f, .int .i64 n]] w fun e w' => e = .returned (.bool true) ∧ Ext w w' := by
  have h := sRight64 f n w
  rwa [hk] at h
theorem sRight64_no (f n : Int) (w : World) (hk : okN n = false) : Calls Try.prog 40 #[.agg #[.int .u64 f, .int .i64 n]] w fun e w' => e = .returned (.bool false) ∧ Ext w w' := by
  have h := sRight64 f n w
  rwa [hk] at h
end Go.Proofs.Ytclhbdedibcgjaa

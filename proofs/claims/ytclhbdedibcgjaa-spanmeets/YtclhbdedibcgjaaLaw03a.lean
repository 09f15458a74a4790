/- Layer 3's statements: what they share; SpanBack. -/
import Derived.Test.YtclhbdedibcgjaaSpanPieces
import Derived.Test.YtclhbdedibcgjaaSpanJoin
import Derived.ChangeKeysEq
namespace Go.Proofs.Ytclhbdedibcgjaa
open Go.RowKit Go.Shelf
set_option linter.unusedVariables false
set_option maxHeartbeats 1000000
attribute [local go_sem] later_cell later_frozen later_const
/-- the value v reads as the pieces l -/
def PcsAt (w : World) (v : Value) (l : List (Int × Int)) : Prop :=
  (v = .slice none 0 0 ∧ l = []) ∨ ∃ g cap, v = .slice (some ⟨g, 0, none⟩) l.length cap ∧ ∀ j, j < l.length → w.cell? ⟨g, j * 2, none⟩ = some (.int .i64 (l.getD j (0, 0)).1) ∧ w.cell? ⟨g, j * 2 + 1, none⟩ = some (.int .i64 (l.getD j (0, 0)).2)
theorem flat_length (l : List (Int × Int)) : (flat l).length = l.length * 2 := by
  induction l with
  | nil => rfl
  | cons p l ih => rw [flat_cons]; simp [ih]; omega
theorem flat_get (l : List (Int × Int)) : ∀ j, j < l.length → (flat l)[j * 2]? = some (.int .i64 (l.getD j (0, 0)).1) ∧ (flat l)[j * 2 + 1]? = some (.int .i64 (l.getD j (0, 0)).2) := by
  induction l with
  | nil => intro j h; simp at h
  | cons p l ih =>
    intro j h
    rw [flat_cons]
    cases j with
    | zero => simp
    | succ j =>
      have := ih j (by simpa using h)
      rw [show (j + 1) * 2 = j * 2 + 1 + 1 by omega]
      simpa using this
theorem pcsAt_of {w : World} {base e : Nat} {v : Value} {k : Nat} {l : List (Int × Int)} (h : w.ownsRow base e 2 v k (flat l)) : PcsAt w v l := by
  have hl := h.1
  rw [flat_length] at hl
  obtain rfl : k = l.length := by omega
  rcases h.2 with ⟨hv, h0⟩ | ⟨g, cap, cur, hv, _⟩
  · exact .inl ⟨hv, List.length_eq_zero_iff.1 h0⟩
  · subst hv
    refine .inr ⟨g, cap, rfl, fun j hj => ?_⟩
    have := flat_get l j hj
    rw [h.cellAt (j * 2) (by omega), h.cellAt (j * 2 + 1) (by omega)]
    exact this
theorem PcsAt.ext {w w' : World} {v : Value} {l : List (Int × Int)} (h : PcsAt w v l) (hb : Ext w w') : PcsAt w' v l := by
  rcases h with h | ⟨g, cap, hv, hc⟩
  · exact .inl h
  · exact .inr ⟨g, cap, hv, fun j hj => ⟨hb.cell (hc j hj).1, hb.cell (hc j hj).2⟩⟩
theorem eq_arr (w : World) (a b c d : Int) : (Op.equalIn 10000 67 (.agg #[.int .i64 a, .int .i64 b]) (.agg #[.int .i64 c, .int .i64 d])).run Try.prog w = .ok (a == c && b == d) w := by
  obtain ⟨i0, hi⟩ : ∃ i0, Try.prog.info? 3 = some i0 := Option.isSome_iff_exists.1 (by kernel_rfl)
  rw [run_equalIn_array w 9999 _ _ Try.underlying67 hi]
  rw [show Try.prog.cellsOf 3 = 1 by kernel_rfl]
  simp only [show List.range 2 = [0, 1] from rfl, Op.eqItems]
  simp [go_sem]
  by_cases h1 : a = c
  · by_cases h2 : b = d <;> simp [h1, h2]
  · simp [h1]
theorem live03 (w : World) : Calls Try.prog 9 #[] w fun e w' => e = .returned (.bool true) ∧ Ext w w' := by
  have hp := sPieces32 4294967293 5 8
  have hq := fun w => eq_arr w 5 3 5 3
  have hq' := fun w => eq_arr w 0 2 0 2
  go_enter Try.func9, Try.ntmps9
  go_wp2_with fail
  refine (hp _ (by decide) (by decide) (by decide) (by decide) (by decide)).mono ?_
  clear hp
  rintro e w1 ⟨v, k, rfl, hrow, hb1⟩
  have hP := pcsAt_of hrow
  rw [show pcs 8 (4294967293 % 8) 5 = [(5, 3), (0, 2)] by decide] at hP
  have hex : ∃ g cap, v = .slice (some ⟨g, 0, none⟩) 2 cap ∧ w1.cell? ⟨g, 0, none⟩ = some (.int .i64 5) ∧ w1.cell? ⟨g, 1, none⟩ = some (.int .i64 3) ∧ w1.cell? ⟨g, 2, none⟩ = some (.int .i64 0) ∧ w1.cell? ⟨g, 3, none⟩ = some (.int .i64 2) := by
    rcases hP with ⟨_, h⟩ | ⟨g, cap, hv, hc⟩
    · cases h
    · exact ⟨g, cap, hv, (hc 0 (by simp)).1, (hc 0 (by simp)).2, (hc 1 (by simp)).1, (hc 1 (by simp)).2⟩
  clear hrow hP
  obtain ⟨g, cap, hv, c0, c1, c2, c3⟩ := hex
  rw [hv]
  clear hv
  have qa_0 : w1.cell? ⟨w.heap.size, 0, none⟩ = some (.int .u32 4294967293) := (hb1.cells.1 _ _ (by simp <;> omega)).trans (by simp [go_sem])
  have qa_1 : w1.cell? ⟨w.heap.size, 1, none⟩ = some (.int .i64 5) := (hb1.cells.1 _ _ (by simp <;> omega)).trans (by simp [go_sem])
  have pa := World.block_lt_of_cell? _ ⟨w.heap.size, 0, none⟩ qa_0
  have ra := Nat.lt_succ_of_lt pa
  go_wp2_with fail
  refine (sEnd32 _ _ _ (by decide)).mono ?_
  rintro e w2 ⟨rfl, hb2⟩
  replace c0 := hb2.cell c0
  replace c1 := hb2.cell c1
  replace c2 := hb2.cell c2
  replace c3 := hb2.cell c3
  go_wp2
  go_ret
  refine ⟨rfl, ?_⟩
  repeat (first | with_reducible exact Ext.refl _ | with_reducible assumption | with_reducible refine Ext.alloc ?_ _ | with_reducible refine Ext.drew ?_ | with_reducible refine Ext.drewN ?_ _ | with_reducible refine Ext.setCell ?_ (by simp <;> omega) _ | with_reducible refine Ext.trans ?_ (by assumption))
theorem small03 (f n : Int) (w : World) : Calls Try.prog 10 #[.int .u64 f, .int .i64 n] w fun e w' => e = .returned (.agg #[.int .u32 (f % 4294967296), .int .i64 n]) ∧ Ext w w' := by
  go_enter Try.func10, Try.ntmps10
  go_wp2_with fail
  refine (ofU32 _ _).mono ?_
  rintro e w' ⟨rfl, rfl⟩
  go_wp2
  refine bodyPost_ret (v := .agg #[.int .u32 (f % 4294967296), .int .i64 n]) (by simp [results, Try.results10, go_sem]) rfl ⟨rfl, ?_⟩
  repeat (first | with_reducible exact Ext.refl _ | with_reducible assumption | with_reducible refine Ext.alloc ?_ _ | with_reducible refine Ext.drew ?_ | with_reducible refine Ext.drewN ?_ _ | with_reducible refine Ext.setCell ?_ (by simp <;> omega) _ | with_reducible refine Ext.trans ?_ (by assumption))
theorem great03 (f n : Int) (w : World) : Calls Try.prog 11 #[.int .u64 f, .int .i64 n] w fun e w' => e = .returned (.agg #[.int .u64 f, .int .i64 n]) ∧ Ext w w' := by
  go_enter Try.func11, Try.ntmps11
  go_wp2
  refine bodyPost_ret (v := .agg #[.int .u64 f, .int .i64 n]) (by simp [results, Try.results11, go_sem]) rfl ⟨rfl, ?_⟩
  repeat (first | with_reducible exact Ext.refl _ | with_reducible assumption | with_reducible refine Ext.alloc ?_ _ | with_reducible refine Ext.drew ?_ | with_reducible refine Ext.drewN ?_ _ | with_reducible refine Ext.setCell ?_ (by simp <;> omega) _ | with_reducible refine Ext.trans ?_ (by assumption))
theorem r3Right (n : Int) (w : World) : Calls Try.prog 7 #[.int .i64 n] w fun e w' => e = .returned (.bool (okN n)) ∧ w = w' := by
  unfold okN
  by_cases h0 : 0 ≤ n
  · have d0 : decide (0 ≤ n) = true := by simpa using h0
    go_enter Try.func7, Try.ntmps7
    go_wp2
    go_ret
    exact ⟨by simp [h0], rfl⟩
  · have d0 : decide (0 ≤ n) = false := by simpa using h0
    go_enter Try.func7, Try.ntmps7
    go_wp2
    go_ret
    exact ⟨by simp, rfl⟩
end Go.Proofs.Ytclhbdedibcgjaa

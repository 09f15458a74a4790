/- span.Cut -/
import Derived.Test.YtclhbdedibcgjaaSpan
import Derived.Deep.RegionHeld3
import Derived.Deep.DrawnRows
import Derived.Outline
import Derived.IntWalk
namespace Go.Proofs.Ytclhbdedibcgjaa
open Go.RowKit
set_option linter.unusedVariables false
set_option maxHeartbeats 400000
attribute [local go_sem] later_cell later_frozen later_const
attribute [local go_sem ↓] Go.wp_at_zero Go.wp_at_succ
theorem sCut32_yes (f n i : Int) (w : World) (hk : okN n = true) (h0 : 0 ≤ i) (h1 : i ≤ n) : Calls Try.prog 29 #[.agg #[.int .u32 f, .int .i64 n], .int .i64 i] w fun e w' => e = .returned (.tuple #[.agg #[.int .u32 f, .int .i64 i], .agg #[.int .u32 ((f + i) % 4294967296), .int .i64 (n - i)], .bool true]) ∧ Ext w w' := by
  have hr := okN_true hk
  have d0 : decide (i < 0) = false := by simp; omega
  have d1 : decide (n < i) = false := by simp; omega
  go_enter Try.func29, Try.ntmps29
  go_wp2_with fail
  refine (sRight32_yes _ _ _ hk).mono ?_
  rintro e w1 ⟨rfl, hb1⟩
  obtain ⟨hc1, hf1⟩ := hb1.cells
  clear hc1 hf1
  have qa_0 : w1.cell? ⟨w.heap.size, 0, none⟩ = some (.int .u32 f) := (hb1.cells.1 _ _ (by simp <;> omega)).trans (by simp [go_sem])
  have qa_1 : w1.cell? ⟨w.heap.size, 1, none⟩ = some (.int .i64 n) := (hb1.cells.1 _ _ (by simp <;> omega)).trans (by simp [go_sem])
  have pa := World.block_lt_of_cell? _ ⟨w.heap.size, 0, none⟩ qa_0
  have ra := Nat.lt_succ_of_lt pa
  have qr_0 : w1.cell? ⟨w.heap.size + 1, 0, none⟩ = some (.int .u32 0) := (hb1.cells.1 _ _ (by simp <;> omega)).trans (by simp [go_sem])
  have zr_0 : w1.frozen? ⟨w.heap.size + 1, 0, none⟩ = false := (hb1.cells.2 _ _ (by simp <;> omega)).trans (by simp [go_sem])
  have qr_1 : w1.cell? ⟨w.heap.size + 1, 1, none⟩ = some (.int .i64 0) := (hb1.cells.1 _ _ (by simp <;> omega)).trans (by simp [go_sem])
  have zr_1 : w1.frozen? ⟨w.heap.size + 1, 1, none⟩ = false := (hb1.cells.2 _ _ (by simp <;> omega)).trans (by simp [go_sem])
  have pr := World.block_lt_of_cell? _ ⟨w.heap.size + 1, 0, none⟩ qr_0
  have rr := Nat.lt_succ_of_lt pr
  have qs_0 : w1.cell? ⟨w.heap.size + 1 + 1, 0, none⟩ = some (.int .u32 0) := (hb1.cells.1 _ _ (by simp <;> omega)).trans (by simp [go_sem])
  have zs_0 : w1.frozen? ⟨w.heap.size + 1 + 1, 0, none⟩ = false := (hb1.cells.2 _ _ (by simp <;> omega)).trans (by simp [go_sem])
  have qs_1 : w1.cell? ⟨w.heap.size + 1 + 1, 1, none⟩ = some (.int .i64 0) := (hb1.cells.1 _ _ (by simp <;> omega)).trans (by simp [go_sem])
  have zs_1 : w1.frozen? ⟨w.heap.size + 1 + 1, 1, none⟩ = false := (hb1.cells.2 _ _ (by simp <;> omega)).trans (by simp [go_sem])
  have ps := World.block_lt_of_cell? _ ⟨w.heap.size + 1 + 1, 0, none⟩ qs_0
  have rs := Nat.lt_succ_of_lt ps
  have ne1 : ¬ w.heap.size = w.heap.size + 1 + 1 := by omega
  have ne2 : ¬ w.heap.size + 1 + 1 = w.heap.size := by omega
  have hwr : IntKind.i64.wrap (n - i) = n - i := IntWalk.i64_in _ (by omega)
  go_wp2_with fail
  go_region_held3 (fun w' => w'.cell? ⟨w.heap.size, 0, none⟩ = some (.int .u32 f) ∧ w'.cell? ⟨w.heap.size, 1, none⟩ = some (.int .i64 n)) (go_keep)
    (first | (go_at_call 42; refine (addU32 _ _ _).mono ?_; rintro e w' ⟨rfl, rfl⟩))
  go_wp2
  refine bodyPost_ret (v := .tuple #[.agg #[.int .u32 f, .int .i64 i], .agg #[.int .u32 ((f + i) % 4294967296), .int .i64 (n - i)], .bool true]) (by simp [results, Try.results29, go_sem, qr_0, qr_1, qs_0, qs_1]) rfl ⟨rfl, ?_⟩
  repeat (first | with_reducible exact Ext.refl _ | with_reducible assumption | with_reducible refine Ext.alloc ?_ _ | with_reducible refine Ext.drew ?_ | with_reducible refine Ext.drewN ?_ _ | with_reducible refine Ext.setCell ?_ (by simp <;> omega) _ | with_reducible refine Ext.trans ?_ (by assumption))
theorem sCut32_no (f n i : Int) (w : World) (hk : okN n = false ∨ i < 0 ∨ n < i) : Calls Try.prog 29 #[.agg #[.int .u32 f, .int .i64 n], .int .i64 i] w fun e w' => e = .returned (.tuple #[.agg #[.int .u32 0, .int .i64 0], .agg #[.int .u32 0, .int .i64 0], .bool false]) ∧ Ext w w' := by
  cases h : okN n
  · clear hk
    go_enter Try.func29, Try.ntmps29
    go_wp2_with fail
    refine (sRight32_no _ _ _ h).mono ?_
    rintro e w1 ⟨rfl, hb1⟩
    obtain ⟨hc1, hf1⟩ := hb1.cells
    clear hc1 hf1
    have qa_0 : w1.cell? ⟨w.heap.size, 0, none⟩ = some (.int .u32 f) := (hb1.cells.1 _ _ (by simp <;> omega)).trans (by simp [go_sem])
    have qa_1 : w1.cell? ⟨w.heap.size, 1, none⟩ = some (.int .i64 n) := (hb1.cells.1 _ _ (by simp <;> omega)).trans (by simp [go_sem])
    have pa := World.block_lt_of_cell? _ ⟨w.heap.size, 0, none⟩ qa_0
    have ra := Nat.lt_succ_of_lt pa
    have qr_0 : w1.cell? ⟨w.heap.size + 1, 0, none⟩ = some (.int .u32 0) := (hb1.cells.1 _ _ (by simp <;> omega)).trans (by simp [go_sem])
    have zr_0 : w1.frozen? ⟨w.heap.size + 1, 0, none⟩ = false := (hb1.cells.2 _ _ (by simp <;> omega)).trans (by simp [go_sem])
    have qr_1 : w1.cell? ⟨w.heap.size + 1, 1, none⟩ = some (.int .i64 0) := (hb1.cells.1 _ _ (by simp <;> omega)).trans (by simp [go_sem])
    have zr_1 : w1.frozen? ⟨w.heap.size + 1, 1, none⟩ = false := (hb1.cells.2 _ _ (by simp <;> omega)).trans (by simp [go_sem])
    have pr := World.block_lt_of_cell? _ ⟨w.heap.size + 1, 0, none⟩ qr_0
    have rr := Nat.lt_succ_of_lt pr
    have qs_0 : w1.cell? ⟨w.heap.size + 1 + 1, 0, none⟩ = some (.int .u32 0) := (hb1.cells.1 _ _ (by simp <;> omega)).trans (by simp [go_sem])
    have zs_0 : w1.frozen? ⟨w.heap.size + 1 + 1, 0, none⟩ = false := (hb1.cells.2 _ _ (by simp <;> omega)).trans (by simp [go_sem])
    have qs_1 : w1.cell? ⟨w.heap.size + 1 + 1, 1, none⟩ = some (.int .i64 0) := (hb1.cells.1 _ _ (by simp <;> omega)).trans (by simp [go_sem])
    have zs_1 : w1.frozen? ⟨w.heap.size + 1 + 1, 1, none⟩ = false := (hb1.cells.2 _ _ (by simp <;> omega)).trans (by simp [go_sem])
    have ps := World.block_lt_of_cell? _ ⟨w.heap.size + 1 + 1, 0, none⟩ qs_0
    have rs := Nat.lt_succ_of_lt ps
    go_wp2
    refine bodyPost_ret (v := .tuple #[.agg #[.int .u32 0, .int .i64 0], .agg #[.int .u32 0, .int .i64 0], .bool false]) (by simp [results, Try.results29, go_sem, qr_0, qr_1, qs_0, qs_1]) rfl ⟨rfl, ?_⟩
    repeat (first | with_reducible exact Ext.refl _ | with_reducible assumption | with_reducible refine Ext.alloc ?_ _ | with_reducible refine Ext.drew ?_ | with_reducible refine Ext.drewN ?_ _ | with_reducible refine Ext.setCell ?_ (by simp <;> omega) _ | with_reducible refine Ext.trans ?_ (by assumption))
  · by_cases h0 : i < 0
    · have d0 : decide (i < 0) = true := by simpa using h0
      clear hk
      go_enter Try.func29, Try.ntmps29
      go_wp2_with fail
      refine (sRight32_yes _ _ _ h).mono ?_
      rintro e w2 ⟨rfl, hb2⟩
      obtain ⟨hc2, hf2⟩ := hb2.cells
      clear hc2 hf2
      have qa_0 : w2.cell? ⟨w.heap.size, 0, none⟩ = some (.int .u32 f) := (hb2.cells.1 _ _ (by simp <;> omega)).trans (by simp [go_sem])
      have qa_1 : w2.cell? ⟨w.heap.size, 1, none⟩ = some (.int .i64 n) := (hb2.cells.1 _ _ (by simp <;> omega)).trans (by simp [go_sem])
      have pa := World.block_lt_of_cell? _ ⟨w.heap.size, 0, none⟩ qa_0
      have ra := Nat.lt_succ_of_lt pa
      have qr_0 : w2.cell? ⟨w.heap.size + 1, 0, none⟩ = some (.int .u32 0) := (hb2.cells.1 _ _ (by simp <;> omega)).trans (by simp [go_sem])
      have zr_0 : w2.frozen? ⟨w.heap.size + 1, 0, none⟩ = false := (hb2.cells.2 _ _ (by simp <;> omega)).trans (by simp [go_sem])
      have qr_1 : w2.cell? ⟨w.heap.size + 1, 1, none⟩ = some (.int .i64 0) := (hb2.cells.1 _ _ (by simp <;> omega)).trans (by simp [go_sem])
      have zr_1 : w2.frozen? ⟨w.heap.size + 1, 1, none⟩ = false := (hb2.cells.2 _ _ (by simp <;> omega)).trans (by simp [go_sem])
      have pr := World.block_lt_of_cell? _ ⟨w.heap.size + 1, 0, none⟩ qr_0
      have rr := Nat.lt_succ_of_lt pr
      have qs_0 : w2.cell? ⟨w.heap.size + 1 + 1, 0, none⟩ = some (.int .u32 0) := (hb2.cells.1 _ _ (by simp <;> omega)).trans (by simp [go_sem])
      have zs_0 : w2.frozen? ⟨w.heap.size + 1 + 1, 0, none⟩ = false := (hb2.cells.2 _ _ (by simp <;> omega)).trans (by simp [go_sem])
      have qs_1 : w2.cell? ⟨w.heap.size + 1 + 1, 1, none⟩ = some (.int .i64 0) := (hb2.cells.1 _ _ (by simp <;> omega)).trans (by simp [go_sem])
      have zs_1 : w2.frozen? ⟨w.heap.size + 1 + 1, 1, none⟩ = false := (hb2.cells.2 _ _ (by simp <;> omega)).trans (by simp [go_sem])
      have ps := World.block_lt_of_cell? _ ⟨w.heap.size + 1 + 1, 0, none⟩ qs_0
      have rs := Nat.lt_succ_of_lt ps
      go_wp2
      refine bodyPost_ret (v := .tuple #[.agg #[.int .u32 0, .int .i64 0], .agg #[.int .u32 0, .int .i64 0], .bool false]) (by simp [results, Try.results29, go_sem, qr_0, qr_1, qs_0, qs_1]) rfl ⟨rfl, ?_⟩
      repeat (first | with_reducible exact Ext.refl _ | with_reducible assumption | with_reducible refine Ext.alloc ?_ _ | with_reducible refine Ext.drew ?_ | with_reducible refine Ext.drewN ?_ _ | with_reducible refine Ext.setCell ?_ (by simp <;> omega) _ | with_reducible refine Ext.trans ?_ (by assumption))
    · have d0 : decide (i < 0) = false := by simpa using h0
      have d1 : decide (n < i) = true := by
        rcases hk with hk | hk | hk
        · rw [h] at hk; cases hk
        · exact absurd hk h0
        · simpa using hk
      clear hk
      go_enter Try.func29, Try.ntmps29
      go_wp2_with fail
      refine (sRight32_yes _ _ _ h).mono ?_
      rintro e w3 ⟨rfl, hb3⟩
      obtain ⟨hc3, hf3⟩ := hb3.cells
      clear hc3 hf3
      have qa_0 : w3.cell? ⟨w.heap.size, 0, none⟩ = some (.int .u32 f) := (hb3.cells.1 _ _ (by simp <;> omega)).trans (by simp [go_sem])
      have qa_1 : w3.cell? ⟨w.heap.size, 1, none⟩ = some (.int .i64 n) := (hb3.cells.1 _ _ (by simp <;> omega)).trans (by simp [go_sem])
      have pa := World.block_lt_of_cell? _ ⟨w.heap.size, 0, none⟩ qa_0
      have ra := Nat.lt_succ_of_lt pa
      have qr_0 : w3.cell? ⟨w.heap.size + 1, 0, none⟩ = some (.int .u32 0) := (hb3.cells.1 _ _ (by simp <;> omega)).trans (by simp [go_sem])
      have zr_0 : w3.frozen? ⟨w.heap.size + 1, 0, none⟩ = false := (hb3.cells.2 _ _ (by simp <;> omega)).trans (by simp [go_sem])
      have qr_1 : w3.cell? ⟨w.heap.size + 1, 1, none⟩ = some (.int .i64 0) := (hb3.cells.1 _ _ (by simp <;> omega)).trans (by simp [go_sem])
      have zr_1 : w3.frozen? ⟨w.heap.size + 1, 1, none⟩ = false := (hb3.cells.2 _ _ (by simp <;> omega)).trans (by simp [go_sem])
      have pr := World.block_lt_of_cell? _ ⟨w.heap.size + 1, 0, none⟩ qr_0
      have rr := Nat.lt_succ_of_lt pr
      have qs_0 : w3.cell? ⟨w.heap.size + 1 + 1, 0, none⟩ = some (.int .u32 0) := (hb3.cells.1 _ _ (by simp <;> omega)).trans (by simp [go_sem])
      have zs_0 : w3.frozen? ⟨w.heap.size + 1 + 1, 0, none⟩ = false := (hb3.cells.2 _ _ (by simp <;> omega)).trans (by simp [go_sem])
      have qs_1 : w3.cell? ⟨w.heap.size + 1 + 1, 1, none⟩ = some (.int .i64 0) := (hb3.cells.1 _ _ (by simp <;> omega)).trans (by simp [go_sem])
      have zs_1 : w3.frozen? ⟨w.heap.size + 1 + 1, 1, none⟩ = false := (hb3.cells.2 _ _ (by simp <;> omega)).trans (by simp [go_sem])
      have ps := World.block_lt_of_cell? _ ⟨w.heap.size + 1 + 1, 0, none⟩ qs_0
      have rs := Nat.lt_succ_of_lt ps
      go_wp2
      refine bodyPost_ret (v := .tuple #[.agg #[.int .u32 0, .int .i64 0], .agg #[.int .u32 0, .int .i64 0], .bool false]) (by simp [results, Try.results29, go_sem, qr_0, qr_1, qs_0, qs_1]) rfl ⟨rfl, ?_⟩
      repeat (first | with_reducible exact Ext.refl _ | with_reducible assumption | with_reducible refine Ext.alloc ?_ _ | with_reducible refine Ext.drew ?_ | with_reducible refine Ext.drewN ?_ _ | with_reducible refine Ext.setCell ?_ (by simp <;> omega) _ | with_reducible refine Ext.trans ?_ (by assumption))
theorem sCut64_yes (f n i : Int) (w : World) (hk : okN n = true) (h0 : 0 ≤ i) (h1 : i ≤ n) : Calls Try.prog 30 #[.agg #[.int .u64 f, .int .i64 n], .int .i64 i] w fun e w' => e = .returned (.tuple #[.agg #[.int .u64 f, .int .i64 i], .agg #[.int .u64 (U64 (f + i)), .int .i64 (n - i)], .bool true]) ∧ Ext w w' := by
  have hr := okN_true hk
  have d0 : decide (i < 0) = false := by simp; omega
  have d1 : decide (n < i) = false := by simp; omega
  go_enter Try.func30, Try.ntmps30
  go_wp2_with fail
  refine (sRight64_yes _ _ _ hk).mono ?_
  rintro e w1 ⟨rfl, hb1⟩
  obtain ⟨hc1, hf1⟩ := hb1.cells
  clear hc1 hf1
  have qa_0 : w1.cell? ⟨w.heap.size, 0, none⟩ = some (.int .u64 f) := (hb1.cells.1 _ _ (by simp <;> omega)).trans (by simp [go_sem])
  have qa_1 : w1.cell? ⟨w.heap.size, 1, none⟩ = some (.int .i64 n) := (hb1.cells.1 _ _ (by simp <;> omega)).trans (by simp [go_sem])
  have pa := World.block_lt_of_cell? _ ⟨w.heap.size, 0, none⟩ qa_0
  have ra := Nat.lt_succ_of_lt pa
  have qr_0 : w1.cell? ⟨w.heap.size + 1, 0, none⟩ = some (.int .u64 0) := (hb1.cells.1 _ _ (by simp <;> omega)).trans (by simp [go_sem])
  have zr_0 : w1.frozen? ⟨w.heap.size + 1, 0, none⟩ = false := (hb1.cells.2 _ _ (by simp <;> omega)).trans (by simp [go_sem])
  have qr_1 : w1.cell? ⟨w.heap.size + 1, 1, none⟩ = some (.int .i64 0) := (hb1.cells.1 _ _ (by simp <;> omega)).trans (by simp [go_sem])
  have zr_1 : w1.frozen? ⟨w.heap.size + 1, 1, none⟩ = false := (hb1.cells.2 _ _ (by simp <;> omega)).trans (by simp [go_sem])
  have pr := World.block_lt_of_cell? _ ⟨w.heap.size + 1, 0, none⟩ qr_0
  have rr := Nat.lt_succ_of_lt pr
  have qs_0 : w1.cell? ⟨w.heap.size + 1 + 1, 0, none⟩ = some (.int .u64 0) := (hb1.cells.1 _ _ (by simp <;> omega)).trans (by simp [go_sem])
  have zs_0 : w1.frozen? ⟨w.heap.size + 1 + 1, 0, none⟩ = false := (hb1.cells.2 _ _ (by simp <;> omega)).trans (by simp [go_sem])
  have qs_1 : w1.cell? ⟨w.heap.size + 1 + 1, 1, none⟩ = some (.int .i64 0) := (hb1.cells.1 _ _ (by simp <;> omega)).trans (by simp [go_sem])
  have zs_1 : w1.frozen? ⟨w.heap.size + 1 + 1, 1, none⟩ = false := (hb1.cells.2 _ _ (by simp <;> omega)).trans (by simp [go_sem])
  have ps := World.block_lt_of_cell? _ ⟨w.heap.size + 1 + 1, 0, none⟩ qs_0
  have rs := Nat.lt_succ_of_lt ps
  have ne1 : ¬ w.heap.size = w.heap.size + 1 + 1 := by omega
  have ne2 : ¬ w.heap.size + 1 + 1 = w.heap.size := by omega
  have hwr : IntKind.i64.wrap (n - i) = n - i := IntWalk.i64_in _ (by omega)
  go_wp2_with fail
  go_region_held3 (fun w' => w'.cell? ⟨w.heap.size, 0, none⟩ = some (.int .u64 f) ∧ w'.cell? ⟨w.heap.size, 1, none⟩ = some (.int .i64 n)) (go_keep)
    (first | (go_at_call 43; refine (addU64 _ _ _).mono ?_; rintro e w' ⟨rfl, rfl⟩))
  go_wp2
  refine bodyPost_ret (v := .tuple #[.agg #[.int .u64 f, .int .i64 i], .agg #[.int .u64 (U64 (f + i)), .int .i64 (n - i)], .bool true]) (by simp [results, Try.results30, go_sem, qr_0, qr_1, qs_0, qs_1]) rfl ⟨rfl, ?_⟩
  repeat (first | with_reducible exact Ext.refl _ | with_reducible assumption | with_reducible refine Ext.alloc ?_ _ | with_reducible refine Ext.drew ?_ | with_reducible refine Ext.drewN ?_ _ | with_reducible refine Ext.setCell ?_ (by simp <;> omega) _ | with_reducible refine Ext.trans ?_ (by assumption))
theorem sCut64_no (f n i : Int) (w : World) (hk : okN n = false ∨ i < 0 ∨ n < i) : Calls Try.prog 30 #[.agg #[.int .u64 f, .int .i64 n], .int .i64 i] w fun e w' => e = .returned (.tuple #[.agg #[.int .u64 0, .int .i64 0], .agg #[.int .u64 0, .int .i64 0], .bool false]) ∧ Ext w w' := by
  cases h : okN n
  · clear hk
    go_enter Try.func30, Try.ntmps30
    go_wp2_with fail
    refine (sRight64_no _ _ _ h).mono ?_
    rintro e w1 ⟨rfl, hb1⟩
    obtain ⟨hc1, hf1⟩ := hb1.cells
    clear hc1 hf1
    have qa_0 : w1.cell? ⟨w.heap.size, 0, none⟩ = some (.int .u64 f) := (hb1.cells.1 _ _ (by simp <;> omega)).trans (by simp [go_sem])
    have qa_1 : w1.cell? ⟨w.heap.size, 1, none⟩ = some (.int .i64 n) := (hb1.cells.1 _ _ (by simp <;> omega)).trans (by simp [go_sem])
    have pa := World.block_lt_of_cell? _ ⟨w.heap.size, 0, none⟩ qa_0
    have ra := Nat.lt_succ_of_lt pa
    have qr_0 : w1.cell? ⟨w.heap.size + 1, 0, none⟩ = some (.int .u64 0) := (hb1.cells.1 _ _ (by simp <;> omega)).trans (by simp [go_sem])
    have zr_0 : w1.frozen? ⟨w.heap.size + 1, 0, none⟩ = false := (hb1.cells.2 _ _ (by simp <;> omega)).trans (by simp [go_sem])
    have qr_1 : w1.cell? ⟨w.heap.size + 1, 1, none⟩ = some (.int .i64 0) := (hb1.cells.1 _ _ (by simp <;> omega)).trans (by simp [go_sem])
    have zr_1 : w1.frozen? ⟨w.heap.size + 1, 1, none⟩ = false := (hb1.cells.2 _ _ (by simp <;> omega)).trans (by simp [go_sem])
    have pr := World.block_lt_of_cell? _ ⟨w.heap.size + 1, 0, none⟩ qr_0
    have rr := Nat.lt_succ_of_lt pr
    have qs_0 : w1.cell? ⟨w.heap.size + 1 + 1, 0, none⟩ = some (.int .u64 0) := (hb1.cells.1 _ _ (by simp <;> omega)).trans (by simp [go_sem])
    have zs_0 : w1.frozen? ⟨w.heap.size + 1 + 1, 0, none⟩ = false := (hb1.cells.2 _ _ (by simp <;> omega)).trans (by simp [go_sem])
    have qs_1 : w1.cell? ⟨w.heap.size + 1 + 1, 1, none⟩ = some (.int .i64 0) := (hb1.cells.1 _ _ (by simp <;> omega)).trans (by simp [go_sem])
    have zs_1 : w1.frozen? ⟨w.heap.size + 1 + 1, 1, none⟩ = false := (hb1.cells.2 _ _ (by simp <;> omega)).trans (by simp [go_sem])
    have ps := World.block_lt_of_cell? _ ⟨w.heap.size + 1 + 1, 0, none⟩ qs_0
    have rs := Nat.lt_succ_of_lt ps
    go_wp2
    refine bodyPost_ret (v := .tuple #[.agg #[.int .u64 0, .int .i64 0], .agg #[.int .u64 0, .int .i64 0], .bool false]) (by simp [results, Try.results30, go_sem, qr_0, qr_1, qs_0, qs_1]) rfl ⟨rfl, ?_⟩
    repeat (first | with_reducible exact Ext.refl _ | with_reducible assumption | with_reducible refine Ext.alloc ?_ _ | with_reducible refine Ext.drew ?_ | with_reducible refine Ext.drewN ?_ _ | with_reducible refine Ext.setCell ?_ (by simp <;> omega) _ | with_reducible refine Ext.trans ?_ (by assumption))
  · by_cases h0 : i < 0
    · have d0 : decide (i < 0) = true := by simpa using h0
      clear hk
      go_enter Try.func30, Try.ntmps30
      go_wp2_with fail
      refine (sRight64_yes _ _ _ h).mono ?_
      rintro e w2 ⟨rfl, hb2⟩
      obtain ⟨hc2, hf2⟩ := hb2.cells
      clear hc2 hf2
      have qa_0 : w2.cell? ⟨w.heap.size, 0, none⟩ = some (.int .u64 f) := (hb2.cells.1 _ _ (by simp <;> omega)).trans (by simp [go_sem])
      have qa_1 : w2.cell? ⟨w.heap.size, 1, none⟩ = some (.int .i64 n) := (hb2.cells.1 _ _ (by simp <;> omega)).trans (by simp [go_sem])
      have pa := World.block_lt_of_cell? _ ⟨w.heap.size, 0, none⟩ qa_0
      have ra := Nat.lt_succ_of_lt pa
      have qr_0 : w2.cell? ⟨w.heap.size + 1, 0, none⟩ = some (.int .u64 0) := (hb2.cells.1 _ _ (by simp <;> omega)).trans (by simp [go_sem])
      have zr_0 : w2.frozen? ⟨w.heap.size + 1, 0, none⟩ = false := (hb2.cells.2 _ _ (by simp <;> omega)).trans (by simp [go_sem])
      have qr_1 : w2.cell? ⟨w.heap.size + 1, 1, none⟩ = some (.int .i64 0) := (hb2.cells.1 _ _ (by simp <;> omega)).trans (by simp [go_sem])
      have zr_1 : w2.frozen? ⟨w.heap.size + 1, 1, none⟩ = false := (hb2.cells.2 _ _ (by simp <;> omega)).trans (by simp [go_sem])
      have pr := World.block_lt_of_cell? _ ⟨w.heap.size + 1, 0, none⟩ qr_0
      have rr := Nat.lt_succ_of_lt pr
      have qs_0 : w2.cell? ⟨w.heap.size + 1 + 1, 0, none⟩ = some (.int .u64 0) := (hb2.cells.1 _ _ (by simp <;> omega)).trans (by simp [go_sem])
      have zs_0 : w2.frozen? ⟨w.heap.size + 1 + 1, 0, none⟩ = false := (hb2.cells.2 _ _ (by simp <;> omega)).trans (by simp [go_sem])
      have qs_1 : w2.cell? ⟨w.heap.size + 1 + 1, 1, none⟩ = some (.int .i64 0) := (hb2.cells.1 _ _ (by simp <;> omega)).trans (by simp [go_sem])
      have zs_1 : w2.frozen? ⟨w.heap.size + 1 + 1, 1, none⟩ = false := (hb2.cells.2 _ _ (by simp <;> omega)).trans (by simp [go_sem])
      have ps := World.block_lt_of_cell? _ ⟨w.heap.size + 1 + 1, 0, none⟩ qs_0
      have rs := Nat.lt_succ_of_lt ps
      go_wp2
      refine bodyPost_ret (v := .tuple #[.agg #[.int .u64 0, .int .i64 0], .agg #[.int .u64 0, .int .i64 0], .bool false]) (by simp [results, Try.results30, go_sem, qr_0, qr_1, qs_0, qs_1]) rfl ⟨rfl, ?_⟩
      repeat (first | with_reducible exact Ext.refl _ | with_reducible assumption | with_reducible refine Ext.alloc ?_ _ | with_reducible refine Ext.drew ?_ | with_reducible refine Ext.drewN ?_ _ | with_reducible refine Ext.setCell ?_ (by simp <;> omega) _ | with_reducible refine Ext.trans ?_ (by assumption))
    · have d0 : decide (i < 0) = false := by simpa using h0
      have d1 : decide (n < i) = true := by
        rcases hk with hk | hk | hk
        · rw [h] at hk; cases hk
        · exact absurd hk h0
        · simpa using hk
      clear hk
      go_enter Try.func30, Try.ntmps30
      go_wp2_with fail
      refine (sRight64_yes _ _ _ h).mono ?_
      rintro e w3 ⟨rfl, hb3⟩
      obtain ⟨hc3, hf3⟩ := hb3.cells
      clear hc3 hf3
      have qa_0 : w3.cell? ⟨w.heap.size, 0, none⟩ = some (.int .u64 f) := (hb3.cells.1 _ _ (by simp <;> omega)).trans (by simp [go_sem])
      have qa_1 : w3.cell? ⟨w.heap.size, 1, none⟩ = some (.int .i64 n) := (hb3.cells.1 _ _ (by simp <;> omega)).trans (by simp [go_sem])
      have pa := World.block_lt_of_cell? _ ⟨w.heap.size, 0, none⟩ qa_0
      have ra := Nat.lt_succ_of_lt pa
      have qr_0 : w3.cell? ⟨w.heap.size + 1, 0, none⟩ = some (.int .u64 0) := (hb3.cells.1 _ _ (by simp <;> omega)).trans (by simp [go_sem])
      have zr_0 : w3.frozen? ⟨w.heap.size + 1, 0, none⟩ = false := (hb3.cells.2 _ _ (by simp <;> omega)).trans (by simp [go_sem])
      have qr_1 : w3.cell? ⟨w.heap.size + 1, 1, none⟩ = some (.int .i64 0) := (hb3.cells.1 _ _ (by simp <;> omega)).trans (by simp [go_sem])
      have zr_1 : w3.frozen? ⟨w.heap.size + 1, 1, none⟩ = false := (hb3.cells.2 _ _ (by simp <;> omega)).trans (by simp [go_sem])
      have pr := World.block_lt_of_cell? _ ⟨w.heap.size + 1, 0, none⟩ qr_0
      have rr := Nat.lt_succ_of_lt pr
      have qs_0 : w3.cell? ⟨w.heap.size + 1 + 1, 0, none⟩ = some (.int .u64 0) := (hb3.cells.1 _ _ (by simp <;> omega)).trans (by simp [go_sem])
      have zs_0 : w3.frozen? ⟨w.heap.size + 1 + 1, 0, none⟩ = false := (hb3.cells.2 _ _ (by simp <;> omega)).trans (by simp [go_sem])
      have qs_1 : w3.cell? ⟨w.heap.size + 1 + 1, 1, none⟩ = some (.int .i64 0) := (hb3.cells.1 _ _ (by simp <;> omega)).trans (by simp [go_sem])
      have zs_1 : w3.frozen? ⟨w.heap.size + 1 + 1, 1, none⟩ = false := (hb3.cells.2 _ _ (by simp <;> omega)).trans (by simp [go_sem])
      have ps := World.block_lt_of_cell? _ ⟨w.heap.size + 1 + 1, 0, none⟩ qs_0
      have rs := Nat.lt_succ_of_lt ps
      go_wp2
      refine bodyPost_ret (v := .tuple #[.agg #[.int .u64 0, .int .i64 0], .agg #[.int .u64 0, .int .i64 0], .bool false]) (by simp [results, Try.results30, go_sem, qr_0, qr_1, qs_0, qs_1]) rfl ⟨rfl, ?_⟩
      repeat (first | with_reducible exact Ext.refl _ | with_reducible assumption | with_reducible refine Ext.alloc ?_ _ | with_reducible refine Ext.drew ?_ | with_reducible refine Ext.drewN ?_ _ | with_reducible refine Ext.setCell ?_ (by simp <;> omega) _ | with_reducible refine Ext.trans ?_ (by assumption))
end Go.Proofs.Ytclhbdedibcgjaa

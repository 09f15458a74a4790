/- The walk of SpanBack. -/
import Derived.Test.YtclhbdedibcgjaaLaw03a
namespace Go.Proofs.Ytclhbdedibcgjaa
open Go.RowKit Go.Shelf
set_option linter.unusedVariables false
set_option maxHeartbeats 2000000
attribute [local go_sem] later_cell later_frozen later_const
theorem joinBack32 (f n i : Int) (w : World) (hk : okN n = true) (h0 : 0 ≤ i) (h1 : i ≤ n) : Calls Try.prog 28 #[.agg #[.int .u32 f, .int .i64 i], .agg #[.int .u32 ((f + i) % 4294967296), .int .i64 (n - i)]] w fun e w' => e = .returned (.tuple #[.agg #[.int .u32 f, .int .i64 n], .bool true]) ∧ Ext w w' := by
  have hr := okN_true hk
  have h := sJoin32_yes f i ((f + i) % 4294967296) (n - i) w (okN_of h0 (by omega)) (okN_of (by omega) (by omega)) (by simp) (by rw [show i + (n - i) = n by omega]; exact hk)
  rwa [show i + (n - i) = n by omega] at h
theorem joinBack64 (f n i : Int) (w : World) (hk : okN n = true) (h0 : 0 ≤ i) (h1 : i ≤ n) : Calls Try.prog 31 #[.agg #[.int .u64 f, .int .i64 i], .agg #[.int .u64 (U64 (f + i)), .int .i64 (n - i)]] w fun e w' => e = .returned (.tuple #[.agg #[.int .u64 f, .int .i64 n], .bool true]) ∧ Ext w w' := by
  have hr := okN_true hk
  have h := sJoin64_yes f i (U64 (f + i)) (n - i) w (okN_of h0 (by omega)) (okN_of (by omega) (by omega)) (by simp) (by rw [show i + (n - i) = n by omega]; exact hk)
  rwa [show i + (n - i) = n by omega] at h
set_option maxRecDepth 100000 in
theorem spanBack_no (n i f : Int) (w : World) (h : okN n = false ∨ i < 0 ∨ n < i) :
    Calls Try.prog 5 #[.int .i64 n, .int .i64 i, .int .u64 f] w fun e w' => e = .returned (.bool true) ∧ Below w.heap.size w w' := by
  have HH := Lib.hid h
  have hb : okN n = true → 0 ≤ i → n < i := by
    intro h1 h2
    rcases h with h | h | h
    · rw [h1] at h; cases h
    · omega
    · exact h
  have HB := Lib.hid hb
  clear hb h
  go_enter Try.func5, Try.ntmps5
  go_wp2_with fail
  with_reducible refine (small03 _ _ _).mono ?_
  rintro e w1 ⟨rfl, hb1⟩
  obtain ⟨hc1, hf1⟩ := hb1.cells
  go_wp2_with fail
  with_reducible refine (great03 _ _ _).mono ?_
  rintro e w2 ⟨rfl, hb2⟩
  obtain ⟨hc2, hf2⟩ := hb2.cells
  go_wp2_with fail
  with_reducible refine (sCut32_no _ _ _ _ HH.out).mono ?_
  rintro e w3 ⟨rfl, hb3⟩
  obtain ⟨hc3, hf3⟩ := hb3.cells
  clear hc3 hf3
  have qa_0 : w3.cell? ⟨w2.heap.size, 0, none⟩ = some (.int .u32 (f % 4294967296)) := (hb3.cells.1 _ _ (by simp <;> omega)).trans (by simp [go_sem])
  have qa_1 : w3.cell? ⟨w2.heap.size, 1, none⟩ = some (.int .i64 n) := (hb3.cells.1 _ _ (by simp <;> omega)).trans (by simp [go_sem])
  have pa := World.block_lt_of_cell? _ ⟨w2.heap.size, 0, none⟩ qa_0
  have ra := Nat.lt_succ_of_lt pa
  have qb_0 : w3.cell? ⟨w2.heap.size + 1, 0, none⟩ = some (.int .u64 f) := (hb3.cells.1 _ _ (by simp <;> omega)).trans (by simp [go_sem])
  have qb_1 : w3.cell? ⟨w2.heap.size + 1, 1, none⟩ = some (.int .i64 n) := (hb3.cells.1 _ _ (by simp <;> omega)).trans (by simp [go_sem])
  have pb := World.block_lt_of_cell? _ ⟨w2.heap.size + 1, 0, none⟩ qb_0
  have rb := Nat.lt_succ_of_lt pb
  go_wp2_with fail
  with_reducible refine (sCut64_no _ _ _ _ HH.out).mono ?_
  rintro e w4 ⟨rfl, hb4⟩
  have hx4 : Ext w3 w4 := by repeat (first | with_reducible exact Ext.refl _ | with_reducible assumption | with_reducible refine Ext.alloc ?_ _ | with_reducible refine Ext.drew ?_ | with_reducible refine Ext.drewN ?_ _ | with_reducible refine Ext.setCell ?_ (by simp <;> omega) _ | with_reducible refine Ext.trans ?_ (by assumption))
  replace qa_0 := hx4.cell qa_0
  replace qa_1 := hx4.cell qa_1
  replace pa := Nat.lt_of_lt_of_le pa hx4.size
  replace ra := Nat.lt_succ_of_lt pa
  replace qb_0 := hx4.cell qb_0
  replace qb_1 := hx4.cell qb_1
  replace pb := Nat.lt_of_lt_of_le pb hx4.size
  replace rb := Nat.lt_succ_of_lt pb
  clear hx4
  have qx_0 : w4.cell? ⟨w3.heap.size, 0, none⟩ = some (.int .u32 0) := (hb4.cells.1 _ _ (by simp <;> omega)).trans (by simp [go_sem])
  have qx_1 : w4.cell? ⟨w3.heap.size, 1, none⟩ = some (.int .i64 0) := (hb4.cells.1 _ _ (by simp <;> omega)).trans (by simp [go_sem])
  have px := World.block_lt_of_cell? _ ⟨w3.heap.size, 0, none⟩ qx_0
  have rx := Nat.lt_succ_of_lt px
  have qy_0 : w4.cell? ⟨w3.heap.size + 1, 0, none⟩ = some (.int .u32 0) := (hb4.cells.1 _ _ (by simp <;> omega)).trans (by simp [go_sem])
  have qy_1 : w4.cell? ⟨w3.heap.size + 1, 1, none⟩ = some (.int .i64 0) := (hb4.cells.1 _ _ (by simp <;> omega)).trans (by simp [go_sem])
  have py := World.block_lt_of_cell? _ ⟨w3.heap.size + 1, 0, none⟩ qy_0
  have ry := Nat.lt_succ_of_lt py
  go_wp2_with fail
  refine (r3Right _ _).mono ?_
  rintro e w' ⟨rfl, rfl⟩
  cases hk : okN n
  · go_wp2_with fail
    with_reducible refine (live03 _).mono ?_
    rintro e w5 ⟨rfl, hb5⟩
    have hx5 : Ext w4 w5 := by repeat (first | with_reducible exact Ext.refl _ | with_reducible assumption | with_reducible refine Ext.alloc ?_ _ | with_reducible refine Ext.drew ?_ | with_reducible refine Ext.drewN ?_ _ | with_reducible refine Ext.setCell ?_ (by simp <;> omega) _ | with_reducible refine Ext.trans ?_ (by assumption))
    replace qa_0 := hx5.cell qa_0
    replace qa_1 := hx5.cell qa_1
    replace pa := Nat.lt_of_lt_of_le pa hx5.size
    replace ra := Nat.lt_succ_of_lt pa
    replace qb_0 := hx5.cell qb_0
    replace qb_1 := hx5.cell qb_1
    replace pb := Nat.lt_of_lt_of_le pb hx5.size
    replace rb := Nat.lt_succ_of_lt pb
    replace qx_0 := hx5.cell qx_0
    replace qx_1 := hx5.cell qx_1
    replace px := Nat.lt_of_lt_of_le px hx5.size
    replace rx := Nat.lt_succ_of_lt px
    replace qy_0 := hx5.cell qy_0
    replace qy_1 := hx5.cell qy_1
    replace py := Nat.lt_of_lt_of_le py hx5.size
    replace ry := Nat.lt_succ_of_lt py
    clear hx5
    go_wp2
    go_ret
    refine ⟨rfl, Ext.below ?_⟩
    repeat (first | with_reducible exact Ext.refl _ | with_reducible assumption | with_reducible refine Ext.alloc ?_ _ | with_reducible refine Ext.drew ?_ | with_reducible refine Ext.drewN ?_ _ | with_reducible refine Ext.setCell ?_ (by simp <;> omega) _ | with_reducible refine Ext.trans ?_ (by assumption))
  · by_cases h0 : 0 ≤ i
    · have d0 : decide (0 ≤ i) = true := by simpa using h0
      have d1 : decide (i ≤ n) = false := by have := HB.out hk h0; simp; omega
      go_wp2_with fail
      with_reducible refine (live03 _).mono ?_
      rintro e w6 ⟨rfl, hb6⟩
      have hx6 : Ext w4 w6 := by repeat (first | with_reducible exact Ext.refl _ | with_reducible assumption | with_reducible refine Ext.alloc ?_ _ | with_reducible refine Ext.drew ?_ | with_reducible refine Ext.drewN ?_ _ | with_reducible refine Ext.setCell ?_ (by simp <;> omega) _ | with_reducible refine Ext.trans ?_ (by assumption))
      replace qa_0 := hx6.cell qa_0
      replace qa_1 := hx6.cell qa_1
      replace pa := Nat.lt_of_lt_of_le pa hx6.size
      replace ra := Nat.lt_succ_of_lt pa
      replace qb_0 := hx6.cell qb_0
      replace qb_1 := hx6.cell qb_1
      replace pb := Nat.lt_of_lt_of_le pb hx6.size
      replace rb := Nat.lt_succ_of_lt pb
      replace qx_0 := hx6.cell qx_0
      replace qx_1 := hx6.cell qx_1
      replace px := Nat.lt_of_lt_of_le px hx6.size
      replace rx := Nat.lt_succ_of_lt px
      replace qy_0 := hx6.cell qy_0
      replace qy_1 := hx6.cell qy_1
      replace py := Nat.lt_of_lt_of_le py hx6.size
      replace ry := Nat.lt_succ_of_lt py
      clear hx6
      go_wp2
      go_ret
      refine ⟨rfl, Ext.below ?_⟩
      repeat (first | with_reducible exact Ext.refl _ | with_reducible assumption | with_reducible refine Ext.alloc ?_ _ | with_reducible refine Ext.drew ?_ | with_reducible refine Ext.drewN ?_ _ | with_reducible refine Ext.setCell ?_ (by simp <;> omega) _ | with_reducible refine Ext.trans ?_ (by assumption))
    · have d0 : decide (0 ≤ i) = false := by simpa using h0
      go_wp2_with fail
      with_reducible refine (live03 _).mono ?_
      rintro e w7 ⟨rfl, hb7⟩
      have hx7 : Ext w4 w7 := by repeat (first | with_reducible exact Ext.refl _ | with_reducible assumption | with_reducible refine Ext.alloc ?_ _ | with_reducible refine Ext.drew ?_ | with_reducible refine Ext.drewN ?_ _ | with_reducible refine Ext.setCell ?_ (by simp <;> omega) _ | with_reducible refine Ext.trans ?_ (by assumption))
      replace qa_0 := hx7.cell qa_0
      replace qa_1 := hx7.cell qa_1
      replace pa := Nat.lt_of_lt_of_le pa hx7.size
      replace ra := Nat.lt_succ_of_lt pa
      replace qb_0 := hx7.cell qb_0
      replace qb_1 := hx7.cell qb_1
      replace pb := Nat.lt_of_lt_of_le pb hx7.size
      replace rb := Nat.lt_succ_of_lt pb
      replace qx_0 := hx7.cell qx_0
      replace qx_1 := hx7.cell qx_1
      replace px := Nat.lt_of_lt_of_le px hx7.size
      replace rx := Nat.lt_succ_of_lt px
      replace qy_0 := hx7.cell qy_0
      replace qy_1 := hx7.cell qy_1
      replace py := Nat.lt_of_lt_of_le py hx7.size
      replace ry := Nat.lt_succ_of_lt py
      clear hx7
      go_wp2
      go_ret
      refine ⟨rfl, Ext.below ?_⟩
      repeat (first | with_reducible exact Ext.refl _ | with_reducible assumption | with_reducible refine Ext.alloc ?_ _ | with_reducible refine Ext.drew ?_ | with_reducible refine Ext.drewN ?_ _ | with_reducible refine Ext.setCell ?_ (by simp <;> omega) _ | with_reducible refine Ext.trans ?_ (by assumption))
set_option maxRecDepth 100000 in
theorem spanBack_yes (n i f : Int) (w : World) (hk : okN n = true) (h0 : 0 ≤ i) (h1 : i ≤ n) :
    Calls Try.prog 5 #[.int .i64 n, .int .i64 i, .int .u64 f] w fun e w' => e = .returned (.bool true) ∧ Below w.heap.size w w' := by
  have d0 : decide (0 ≤ i) = true := by simpa using h0
  have d1 : decide (i ≤ n) = true := by simpa using h1
  have hr := okN_true hk
  have j32 := joinBack32 (f % 4294967296) n i
  rw [show (f % 4294967296 + i) % 4294967296 = (f + i) % 4294967296 by omega] at j32
  have j64 := joinBack64 f n i
  have J32 := Lib.hid j32
  have J64 := Lib.hid j64
  clear j32 j64
  go_enter Try.func5, Try.ntmps5
  go_wp2_with fail
  with_reducible refine (small03 _ _ _).mono ?_
  rintro e w1 ⟨rfl, hb1⟩
  obtain ⟨hc1, hf1⟩ := hb1.cells
  go_wp2_with fail
  with_reducible refine (great03 _ _ _).mono ?_
  rintro e w2 ⟨rfl, hb2⟩
  obtain ⟨hc2, hf2⟩ := hb2.cells
  go_wp2_with fail
  with_reducible refine (sCut32_yes _ _ _ _ hk h0 h1).mono ?_
  rintro e w3 ⟨rfl, hb3⟩
  obtain ⟨hc3, hf3⟩ := hb3.cells
  clear hc3 hf3
  have qa_0 : w3.cell? ⟨w2.heap.size, 0, none⟩ = some (.int .u32 (f % 4294967296)) := (hb3.cells.1 _ _ (by simp <;> omega)).trans (by simp [go_sem])
  have qa_1 : w3.cell? ⟨w2.heap.size, 1, none⟩ = some (.int .i64 n) := (hb3.cells.1 _ _ (by simp <;> omega)).trans (by simp [go_sem])
  have pa := World.block_lt_of_cell? _ ⟨w2.heap.size, 0, none⟩ qa_0
  have ra := Nat.lt_succ_of_lt pa
  have qb_0 : w3.cell? ⟨w2.heap.size + 1, 0, none⟩ = some (.int .u64 f) := (hb3.cells.1 _ _ (by simp <;> omega)).trans (by simp [go_sem])
  have qb_1 : w3.cell? ⟨w2.heap.size + 1, 1, none⟩ = some (.int .i64 n) := (hb3.cells.1 _ _ (by simp <;> omega)).trans (by simp [go_sem])
  have pb := World.block_lt_of_cell? _ ⟨w2.heap.size + 1, 0, none⟩ qb_0
  have rb := Nat.lt_succ_of_lt pb
  go_wp2_with fail
  with_reducible refine (sCut64_yes _ _ _ _ hk h0 h1).mono ?_
  rintro e w4 ⟨rfl, hb4⟩
  have hx4 : Ext w3 w4 := by repeat (first | with_reducible exact Ext.refl _ | with_reducible assumption | with_reducible refine Ext.alloc ?_ _ | with_reducible refine Ext.drew ?_ | with_reducible refine Ext.drewN ?_ _ | with_reducible refine Ext.setCell ?_ (by simp <;> omega) _ | with_reducible refine Ext.trans ?_ (by assumption))
  replace qa_0 := hx4.cell qa_0
  replace qa_1 := hx4.cell qa_1
  replace pa := Nat.lt_of_lt_of_le pa hx4.size
  replace ra := Nat.lt_succ_of_lt pa
  replace qb_0 := hx4.cell qb_0
  replace qb_1 := hx4.cell qb_1
  replace pb := Nat.lt_of_lt_of_le pb hx4.size
  replace rb := Nat.lt_succ_of_lt pb
  clear hx4
  have qx_0 : w4.cell? ⟨w3.heap.size, 0, none⟩ = some (.int .u32 (f % 4294967296)) := (hb4.cells.1 _ _ (by simp <;> omega)).trans (by simp [go_sem])
  have qx_1 : w4.cell? ⟨w3.heap.size, 1, none⟩ = some (.int .i64 i) := (hb4.cells.1 _ _ (by simp <;> omega)).trans (by simp [go_sem])
  have px := World.block_lt_of_cell? _ ⟨w3.heap.size, 0, none⟩ qx_0
  have rx := Nat.lt_succ_of_lt px
  have qy_0 : w4.cell? ⟨w3.heap.size + 1, 0, none⟩ = some (.int .u32 ((f + i) % 4294967296)) := (hb4.cells.1 _ _ (by simp <;> omega)).trans (by simp [go_sem])
  have qy_1 : w4.cell? ⟨w3.heap.size + 1, 1, none⟩ = some (.int .i64 (n - i)) := (hb4.cells.1 _ _ (by simp <;> omega)).trans (by simp [go_sem])
  have py := World.block_lt_of_cell? _ ⟨w3.heap.size + 1, 0, none⟩ qy_0
  have ry := Nat.lt_succ_of_lt py
  go_wp2_with fail
  refine (r3Right _ _).mono ?_
  rintro e w' ⟨rfl, rfl⟩
  rw [hk]
  go_wp2_with fail
  with_reducible refine (J32.out _ hk h0 h1).mono ?_
  rintro e w5 ⟨rfl, hb5⟩
  have hx5 : Ext w4 w5 := by repeat (first | with_reducible exact Ext.refl _ | with_reducible assumption | with_reducible refine Ext.alloc ?_ _ | with_reducible refine Ext.drew ?_ | with_reducible refine Ext.drewN ?_ _ | with_reducible refine Ext.setCell ?_ (by simp <;> omega) _ | with_reducible refine Ext.trans ?_ (by assumption))
  replace qa_0 := hx5.cell qa_0
  replace qa_1 := hx5.cell qa_1
  replace pa := Nat.lt_of_lt_of_le pa hx5.size
  replace ra := Nat.lt_succ_of_lt pa
  replace qb_0 := hx5.cell qb_0
  replace qb_1 := hx5.cell qb_1
  replace pb := Nat.lt_of_lt_of_le pb hx5.size
  replace rb := Nat.lt_succ_of_lt pb
  replace qx_0 := hx5.cell qx_0
  replace qx_1 := hx5.cell qx_1
  replace px := Nat.lt_of_lt_of_le px hx5.size
  replace rx := Nat.lt_succ_of_lt px
  replace qy_0 := hx5.cell qy_0
  replace qy_1 := hx5.cell qy_1
  replace py := Nat.lt_of_lt_of_le py hx5.size
  replace ry := Nat.lt_succ_of_lt py
  clear hx5
  have qp_0 : w5.cell? ⟨w4.heap.size, 0, none⟩ = some (.int .u64 f) := (hb5.cells.1 _ _ (by simp <;> omega)).trans (by simp [go_sem])
  have qp_1 : w5.cell? ⟨w4.heap.size, 1, none⟩ = some (.int .i64 i) := (hb5.cells.1 _ _ (by simp <;> omega)).trans (by simp [go_sem])
  have pp := World.block_lt_of_cell? _ ⟨w4.heap.size, 0, none⟩ qp_0
  have rp := Nat.lt_succ_of_lt pp
  have qq_0 : w5.cell? ⟨w4.heap.size + 1, 0, none⟩ = some (.int .u64 (U64 (f + i))) := (hb5.cells.1 _ _ (by simp <;> omega)).trans (by simp [go_sem])
  have qq_1 : w5.cell? ⟨w4.heap.size + 1, 1, none⟩ = some (.int .i64 (n - i)) := (hb5.cells.1 _ _ (by simp <;> omega)).trans (by simp [go_sem])
  have pq := World.block_lt_of_cell? _ ⟨w4.heap.size + 1, 0, none⟩ qq_0
  have rq := Nat.lt_succ_of_lt pq
  go_wp2_with fail
  with_reducible refine (J64.out _ hk h0 h1).mono ?_
  rintro e w6 ⟨rfl, hb6⟩
  have hx6 : Ext w5 w6 := by repeat (first | with_reducible exact Ext.refl _ | with_reducible assumption | with_reducible refine Ext.alloc ?_ _ | with_reducible refine Ext.drew ?_ | with_reducible refine Ext.drewN ?_ _ | with_reducible refine Ext.setCell ?_ (by simp <;> omega) _ | with_reducible refine Ext.trans ?_ (by assumption))
  replace qa_0 := hx6.cell qa_0
  replace qa_1 := hx6.cell qa_1
  replace pa := Nat.lt_of_lt_of_le pa hx6.size
  replace ra := Nat.lt_succ_of_lt pa
  replace qb_0 := hx6.cell qb_0
  replace qb_1 := hx6.cell qb_1
  replace pb := Nat.lt_of_lt_of_le pb hx6.size
  replace rb := Nat.lt_succ_of_lt pb
  replace qx_0 := hx6.cell qx_0
  replace qx_1 := hx6.cell qx_1
  replace px := Nat.lt_of_lt_of_le px hx6.size
  replace rx := Nat.lt_succ_of_lt px
  replace qy_0 := hx6.cell qy_0
  replace qy_1 := hx6.cell qy_1
  replace py := Nat.lt_of_lt_of_le py hx6.size
  replace ry := Nat.lt_succ_of_lt py
  replace qp_0 := hx6.cell qp_0
  replace qp_1 := hx6.cell qp_1
  replace pp := Nat.lt_of_lt_of_le pp hx6.size
  replace rp := Nat.lt_succ_of_lt pp
  replace qq_0 := hx6.cell qq_0
  replace qq_1 := hx6.cell qq_1
  replace pq := Nat.lt_of_lt_of_le pq hx6.size
  replace rq := Nat.lt_succ_of_lt pq
  clear hx6
  have qj_0 : w6.cell? ⟨w5.heap.size, 0, none⟩ = some (.int .u32 (f % 4294967296)) := (hb6.cells.1 _ _ (by simp <;> omega)).trans (by simp [go_sem])
  have qj_1 : w6.cell? ⟨w5.heap.size, 1, none⟩ = some (.int .i64 n) := (hb6.cells.1 _ _ (by simp <;> omega)).trans (by simp [go_sem])
  have pj := World.block_lt_of_cell? _ ⟨w5.heap.size, 0, none⟩ qj_0
  have rj := Nat.lt_succ_of_lt pj
  go_wp2_with fail
  with_reducible refine (live03 _).mono ?_
  rintro e w7 ⟨rfl, hb7⟩
  have hx7 : Ext w6 w7 := by repeat (first | with_reducible exact Ext.refl _ | with_reducible assumption | with_reducible refine Ext.alloc ?_ _ | with_reducible refine Ext.drew ?_ | with_reducible refine Ext.drewN ?_ _ | with_reducible refine Ext.setCell ?_ (by simp <;> omega) _ | with_reducible refine Ext.trans ?_ (by assumption))
  replace qa_0 := hx7.cell qa_0
  replace qa_1 := hx7.cell qa_1
  replace pa := Nat.lt_of_lt_of_le pa hx7.size
  replace ra := Nat.lt_succ_of_lt pa
  replace qb_0 := hx7.cell qb_0
  replace qb_1 := hx7.cell qb_1
  replace pb := Nat.lt_of_lt_of_le pb hx7.size
  replace rb := Nat.lt_succ_of_lt pb
  replace qx_0 := hx7.cell qx_0
  replace qx_1 := hx7.cell qx_1
  replace px := Nat.lt_of_lt_of_le px hx7.size
  replace rx := Nat.lt_succ_of_lt px
  replace qy_0 := hx7.cell qy_0
  replace qy_1 := hx7.cell qy_1
  replace py := Nat.lt_of_lt_of_le py hx7.size
  replace ry := Nat.lt_succ_of_lt py
  replace qp_0 := hx7.cell qp_0
  replace qp_1 := hx7.cell qp_1
  replace pp := Nat.lt_of_lt_of_le pp hx7.size
  replace rp := Nat.lt_succ_of_lt pp
  replace qq_0 := hx7.cell qq_0
  replace qq_1 := hx7.cell qq_1
  replace pq := Nat.lt_of_lt_of_le pq hx7.size
  replace rq := Nat.lt_succ_of_lt pq
  replace qj_0 := hx7.cell qj_0
  replace qj_1 := hx7.cell qj_1
  replace pj := Nat.lt_of_lt_of_le pj hx7.size
  replace rj := Nat.lt_succ_of_lt pj
  clear hx7
  go_wp2
  go_ret
  refine ⟨rfl, Ext.below ?_⟩
  repeat (first | with_reducible exact Ext.refl _ | with_reducible assumption | with_reducible refine Ext.alloc ?_ _ | with_reducible refine Ext.drew ?_ | with_reducible refine Ext.drewN ?_ _ | with_reducible refine Ext.setCell ?_ (by simp <;> omega) _ | with_reducible refine Ext.trans ?_ (by assumption))
theorem spanBack_walk (n i f : Int) (w : World) (w0 : (Lit.int .i64 n).wf = true) (w1 : (Lit.int .i64 i).wf = true) (w2 : (Lit.int .u64 f).wf = true) :
    Calls Try.prog 5 #[.int .i64 n, .int .i64 i, .int .u64 f] w fun e w' => e = .returned (.bool true) ∧ Below w.heap.size w w' := by
  by_cases h : okN n = true ∧ 0 ≤ i ∧ i ≤ n
  · exact spanBack_yes n i f w h.1 h.2.1 h.2.2
  · refine spanBack_no n i f w ?_
    cases hk : okN n
    · exact .inl rfl
    · refine .inr ?_
      by_cases h0 : 0 ≤ i
      · refine .inr ?_
        by_cases h1 : i ≤ n
        · exact absurd ⟨hk, h0, h1⟩ h
        · omega
      · exact .inl (by omega)
end Go.Proofs.Ytclhbdedibcgjaa

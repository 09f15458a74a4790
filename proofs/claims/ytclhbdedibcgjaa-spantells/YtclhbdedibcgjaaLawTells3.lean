/- The walk of SpanTells. -/
import Derived.Test.YtclhbdedibcgjaaRef03
import Derived.Test.YtclhbdedibcgjaaLaw03a
import Derived.Test.YtclhbdedibcgjaaFree
namespace Go.Proofs.Ytclhbdedibcgjaa
open Go.RowKit Go.Shelf
set_option linter.unusedVariables false
set_option maxHeartbeats 2000000
attribute [local go_sem] later_cell later_frozen later_const
theorem inN_place32 (x f : Int) (n : Nat) (hn : n ≤ 1000) : inN ((x - f) % 4294967296) n = decide (0 ≤ placeOf ((x - f) % 4294967296) n) := by
  have h0 : 0 ≤ ((x - f) % 4294967296) := by first | omega | exact (U64_range _).1
  unfold inN placeOf
  by_cases h : ((x - f) % 4294967296) < n
  · rw [if_pos h]
    simp [h, h0]
    omega
  · rw [if_neg h]
    simp [h]
theorem sPlace32_k (x f : Int) (n : Nat) (w : World) (hn : n ≤ 1000) : Calls Try.prog 13 #[.agg #[.int .u32 f, .int .i64 n], .int .u32 x] w fun e w' => e = .returned (.tuple #[.int .i64 (if placeOf ((x - f) % 4294967296) n < 0 then 0 else placeOf ((x - f) % 4294967296) n), .bool (decide (0 ≤ placeOf ((x - f) % 4294967296) n))]) ∧ Ext w w' := by
  have hi := inN_place32 x f n hn
  have h0 : 0 ≤ ((x - f) % 4294967296) := by first | omega | exact (U64_range _).1
  by_cases h : ((x - f) % 4294967296) < n
  · have e : placeOf ((x - f) % 4294967296) n = ((x - f) % 4294967296) := by unfold placeOf; rw [if_pos h]
    rw [e] at hi ⊢
    have hd : D32 (x - f) = ((x - f) % 4294967296) := by
      unfold D32
      try unfold U64 at *
      omega
    have := sPlace32_yes f n x w (by rw [hi]; simpa using h0)
    rw [hd] at this
    rw [if_neg (by omega), show decide (0 ≤ ((x - f) % 4294967296)) = true by simpa using h0]
    exact this
  · have e : placeOf ((x - f) % 4294967296) n = -1 := by unfold placeOf; rw [if_neg h]
    rw [e] at hi ⊢
    exact sPlace32_no f n x w (by rw [hi]; rfl)
theorem sHas32_k (x f : Int) (n : Nat) (w : World) (hn : n ≤ 1000) : Calls Try.prog 18 #[.agg #[.int .u32 f, .int .i64 n], .int .u32 x] w fun e w' => e = .returned (.bool (decide (0 ≤ placeOf ((x - f) % 4294967296) n))) ∧ Ext w w' := by
  have := sHas32 f n x w
  rwa [inN_place32 x f n hn] at this
theorem inN_bad32 (x f n : Int) (h : okN n = false) : inN ((x - f) % 4294967296) n = false := by
  unfold okN at h
  unfold inN
  simp at h ⊢
  omega
theorem inN_place64 (x f : Int) (n : Nat) (hn : n ≤ 1000) : inN (U64 (x - f)) n = decide (0 ≤ placeOf (U64 (x - f)) n) := by
  have h0 : 0 ≤ (U64 (x - f)) := by first | omega | exact (U64_range _).1
  unfold inN placeOf
  by_cases h : (U64 (x - f)) < n
  · rw [if_pos h]
    simp [h, h0]
    omega
  · rw [if_neg h]
    simp [h]
theorem sPlace64_k (x f : Int) (n : Nat) (w : World) (hn : n ≤ 1000) : Calls Try.prog 15 #[.agg #[.int .u64 f, .int .i64 n], .int .u64 x] w fun e w' => e = .returned (.tuple #[.int .i64 (if placeOf (U64 (x - f)) n < 0 then 0 else placeOf (U64 (x - f)) n), .bool (decide (0 ≤ placeOf (U64 (x - f)) n))]) ∧ Ext w w' := by
  have hi := inN_place64 x f n hn
  have h0 : 0 ≤ (U64 (x - f)) := by first | omega | exact (U64_range _).1
  by_cases h : (U64 (x - f)) < n
  · have e : placeOf (U64 (x - f)) n = (U64 (x - f)) := by unfold placeOf; rw [if_pos h]
    rw [e] at hi ⊢
    have hd : D64 (x - f) = (U64 (x - f)) := by
      unfold D64
      try unfold U64 at *
      omega
    have := sPlace64_yes f n x w (by rw [hi]; simpa using h0)
    rw [hd] at this
    rw [if_neg (by omega), show decide (0 ≤ (U64 (x - f))) = true by simpa using h0]
    exact this
  · have e : placeOf (U64 (x - f)) n = -1 := by unfold placeOf; rw [if_neg h]
    rw [e] at hi ⊢
    exact sPlace64_no f n x w (by rw [hi]; rfl)
theorem sHas64_k (x f : Int) (n : Nat) (w : World) (hn : n ≤ 1000) : Calls Try.prog 19 #[.agg #[.int .u64 f, .int .i64 n], .int .u64 x] w fun e w' => e = .returned (.bool (decide (0 ≤ placeOf (U64 (x - f)) n))) ∧ Ext w w' := by
  have := sHas64 f n x w
  rwa [inN_place64 x f n hn] at this
theorem inN_bad64 (x f n : Int) (h : okN n = false) : inN (U64 (x - f)) n = false := by
  unfold okN at h
  unfold inN
  simp at h ⊢
  omega
set_option maxRecDepth 100000 in
theorem none03 (n f p i : Int) (w : World) (hk : okN n = false) : Calls Try.prog 8 #[.int .i64 n, .int .u64 f, .int .u64 p, .int .i64 i] w fun e w' => e = .returned (.bool true) ∧ Ext w w' := by
  have hi1 := inN_bad32 (p % 4294967296) (f % 4294967296) n hk
  have hi2 := inN_bad64 p f n hk
  have HI1 := Lib.hid hi1
  have HI2 := Lib.hid hi2
  clear hi1 hi2
  go_enter Try.func8, Try.ntmps8
  go_wp2_with fail
  with_reducible refine (small03 _ _ _).mono ?_
  rintro e w1 ⟨rfl, hb1⟩
  obtain ⟨hc1, hf1⟩ := hb1.cells
  go_wp2_with fail
  with_reducible refine (great03 _ _ _).mono ?_
  rintro e w2 ⟨rfl, hb2⟩
  obtain ⟨hc2, hf2⟩ := hb2.cells
  go_wp2
  clear hc2 hf2
  refine settle_wp ?_
  intro w3 hb3
  have qa_0 : w3.cell? ⟨w2.heap.size, 0, none⟩ = some (.int .u32 (f % 4294967296)) := (hb3.cells.1 _ _ (by simp <;> omega)).trans (by simp [go_sem])
  have qa_1 : w3.cell? ⟨w2.heap.size, 1, none⟩ = some (.int .i64 n) := (hb3.cells.1 _ _ (by simp <;> omega)).trans (by simp [go_sem])
  have pa := World.block_lt_of_cell? _ ⟨w2.heap.size, 0, none⟩ qa_0
  have ra := Nat.lt_succ_of_lt pa
  have qb_0 : w3.cell? ⟨w2.heap.size + 1, 0, none⟩ = some (.int .u64 f) := (hb3.cells.1 _ _ (by simp <;> omega)).trans (by simp [go_sem])
  have qb_1 : w3.cell? ⟨w2.heap.size + 1, 1, none⟩ = some (.int .i64 n) := (hb3.cells.1 _ _ (by simp <;> omega)).trans (by simp [go_sem])
  have pb := World.block_lt_of_cell? _ ⟨w2.heap.size + 1, 0, none⟩ qb_0
  have rb := Nat.lt_succ_of_lt pb
  refine wp_region_later (by kernel_rfl) (by kernel_rfl) ?_
  have la_0 := fun (g : Later w3) => g.ok.cell qa_0
  have la_1 := fun (g : Later w3) => g.ok.cell qa_1
  have lb_0 := fun (g : Later w3) => g.ok.cell qb_0
  have lb_1 := fun (g : Later w3) => g.ok.cell qb_1
  repeat (go_big_quiet_step ((fail)))
  go_big_quiet_step ((go_at_call 14; exact laterS (ofU32 _ _)))
  repeat (go_big_quiet_step ((fail)))
  go_big_quiet_step ((go_at_call 13; exact laterC (sPlace32_no _ _ _ _ HI1.out)))
  repeat (go_big_quiet_step ((fail)))
  refine wpQuiet_nil ?_
  intro w4 hl4
  have hb4 := laters_ext hl4
  clear hl4 la_0 la_1 lb_0 lb_1
  have hx4 : Ext w3 w4 := by repeat (first | with_reducible exact Ext.refl _ | with_reducible assumption | with_reducible refine Ext.alloc ?_ _ | with_reducible refine Ext.drew ?_ | with_reducible refine Ext.drewN ?_ _ | with_reducible refine Ext.setCell ?_ (by simp <;> omega) _ | with_reducible refine Ext.trans ?_ (by assumption))
  replace qa_0 := hx4.cell qa_0
  replace qa_1 := hx4.cell qa_1
  replace pa := Nat.lt_of_lt_of_le pa hx4.size
  replace ra := Nat.lt_succ_of_lt pa
  replace qb_0 := hx4.cell qb_0
  replace qb_1 := hx4.cell qb_1
  replace pb := Nat.lt_of_lt_of_le pb hx4.size
  replace rb := Nat.lt_succ_of_lt pb
  clear hx4
  go_wp2_with fail
  with_reducible refine (sAt64_no _ _ _ _ (.inl hk)).mono ?_
  rintro e w5 ⟨rfl, hb5⟩
  have hx5 : Ext w4 w5 := by repeat (first | with_reducible exact Ext.refl _ | with_reducible assumption | with_reducible refine Ext.alloc ?_ _ | with_reducible refine Ext.drew ?_ | with_reducible refine Ext.drewN ?_ _ | with_reducible refine Ext.setCell ?_ (by simp <;> omega) _ | with_reducible refine Ext.trans ?_ (by assumption))
  replace qa_0 := hx5.cell qa_0
  replace qa_1 := hx5.cell qa_1
  replace pa := Nat.lt_of_lt_of_le pa hx5.size
  replace ra := Nat.lt_succ_of_lt pa
  replace qb_0 := hx5.cell qb_0
  replace qb_1 := hx5.cell qb_1
  replace pb := Nat.lt_of_lt_of_le pb hx5.size
  replace rb := Nat.lt_succ_of_lt pb
  clear hx5
  go_wp2_with fail
  with_reducible refine (sCut32_no _ _ _ _ (.inl hk)).mono ?_
  rintro e w6 ⟨rfl, hb6⟩
  have hx6 : Ext w5 w6 := by repeat (first | with_reducible exact Ext.refl _ | with_reducible assumption | with_reducible refine Ext.alloc ?_ _ | with_reducible refine Ext.drew ?_ | with_reducible refine Ext.drewN ?_ _ | with_reducible refine Ext.setCell ?_ (by simp <;> omega) _ | with_reducible refine Ext.trans ?_ (by assumption))
  replace qa_0 := hx6.cell qa_0
  replace qa_1 := hx6.cell qa_1
  replace pa := Nat.lt_of_lt_of_le pa hx6.size
  replace ra := Nat.lt_succ_of_lt pa
  replace qb_0 := hx6.cell qb_0
  replace qb_1 := hx6.cell qb_1
  replace pb := Nat.lt_of_lt_of_le pb hx6.size
  replace rb := Nat.lt_succ_of_lt pb
  clear hx6
  go_wp2
  refine settle_wp ?_
  intro w7 hb7
  have hx7 : Ext w6 w7 := by repeat (first | with_reducible exact Ext.refl _ | with_reducible assumption | with_reducible refine Ext.alloc ?_ _ | with_reducible refine Ext.drew ?_ | with_reducible refine Ext.drewN ?_ _ | with_reducible refine Ext.setCell ?_ (by simp <;> omega) _ | with_reducible refine Ext.trans ?_ (by assumption))
  replace qa_0 := hx7.cell qa_0
  replace qa_1 := hx7.cell qa_1
  replace pa := Nat.lt_of_lt_of_le pa hx7.size
  replace ra := Nat.lt_succ_of_lt pa
  replace qb_0 := hx7.cell qb_0
  replace qb_1 := hx7.cell qb_1
  replace pb := Nat.lt_of_lt_of_le pb hx7.size
  replace rb := Nat.lt_succ_of_lt pb
  clear hx7
  refine wp_freeE [.quiet, .quiet, .quiet, .quiet, .quiet, .quiet, .quiet, .new (.cells #[.int .u64 0, .int .i64 0] 32), .set 7 (.cells #[.int .u64 0, .int .i64 0] 32), .quiet] [(7, 18)] 97 (by kernel_rfl) (by kernel_rfl) (by kernel_rfl) rfl ?hnew1 ?_
  case hnew1 =>
    intro i o op hr ho ρ w
    match i, hr, ho with
    | 0, hr, ho => exact absurd hr (by intro h; cases h)
    | 1, hr, ho => exact absurd hr (by intro h; cases h)
    | 2, hr, ho => exact absurd hr (by intro h; cases h)
    | 3, hr, ho => exact absurd hr (by intro h; cases h)
    | 4, hr, ho => exact absurd hr (by intro h; cases h)
    | 5, hr, ho => exact absurd hr (by intro h; cases h)
    | 6, hr, ho => exact absurd hr (by intro h; cases h)
    | 7, hr, ho => cases hr; cases ho; simp [go_sem]
    | 8, hr, ho => exact absurd hr (by intro h; cases h)
    | 9, hr, ho => exact absurd hr (by intro h; cases h)
    | i + 10, hr, ho => exact absurd hr (by intro h; cases h)
  apply Exists.intro
  refine ⟨?hwalk1, ?hset1, ?_⟩
  case hwalk1 =>
    intro F hF g0
    have hconst : ∀ p : Prop, (LaterF _ F → p) ↔ p := fun p => ⟨fun h => h g0, fun h _ => h⟩
    have la_0 := fun (g : LaterF w7 F) => g.ok.cell qa_0
    have la_1 := fun (g : LaterF w7 F) => g.ok.cell qa_1
    have lb_0 := fun (g : LaterF w7 F) => g.ok.cell qb_0
    have lb_1 := fun (g : LaterF w7 F) => g.ok.cell qb_1
    simp only [keepQ]
    repeat (go_big_quiet_step ((fail)))
    go_big_quiet_step ((go_at_call 11; exact laterFC hF (great03 _ _ _)))
    repeat (go_big_quiet_step ((fail)))
    go_big_quiet_step ((go_at_call 31; exact laterFC hF (sJoin64_bad _ _ _ _ _ hk)))
    repeat (go_big_quiet_step ((fail)))
    exact wpQuiet_nil rfl
  case hset1 =>
    intro B i s o' op hr ho o hz w hw
    match i, hr, ho with
    | 0, hr, ho => exact absurd hr (by intro h; cases h)
    | 1, hr, ho => exact absurd hr (by intro h; cases h)
    | 2, hr, ho => exact absurd hr (by intro h; cases h)
    | 3, hr, ho => exact absurd hr (by intro h; cases h)
    | 4, hr, ho => exact absurd hr (by intro h; cases h)
    | 5, hr, ho => exact absurd hr (by intro h; cases h)
    | 6, hr, ho => exact absurd hr (by intro h; cases h)
    | 7, hr, ho => exact absurd hr (by intro h; cases h)
    | 8, hr, ho => cases hr; cases ho; cases hz; obtain ⟨⟨c0, c1⟩, ⟨z0, z1⟩, hh, hbut⟩ := store2 (.int .u64 0) (.int .i64 0) hw; exact ⟨.skip, _, by simp [go_sem, withNews, Act.put, c0, c1, z0, z1], .inl rfl, hh, hbut⟩
    | 9, hr, ho => exact absurd hr (by intro h; cases h)
    | i + 10, hr, ho => exact absurd hr (by intro h; cases h)
  intro B w8 hb8 hN1
  have hhj : w8.heap[B 7]? = some (.cells #[.int .u64 0, .int .i64 0] 32) := hN1.holds 7 _ rfl rfl
  have hyj : w7.heap.size ≤ B 7 := hN1.beyond 7 _ rfl rfl
  clear hN1
  simp only [withNews, List.foldl_cons, List.foldl_nil, Act.put, List.setIfInBounds_toArray, List.set_cons_succ, List.set_cons_zero]
  generalize B 7 = bj at *
  have hx8 : Ext w7 w8 := by repeat (first | with_reducible exact Ext.refl _ | with_reducible assumption | with_reducible refine Ext.alloc ?_ _ | with_reducible refine Ext.drew ?_ | with_reducible refine Ext.drewN ?_ _ | with_reducible refine Ext.setCell ?_ (by simp <;> omega) _ | with_reducible refine Ext.trans ?_ (by assumption))
  replace qa_0 := hx8.cell qa_0
  replace qa_1 := hx8.cell qa_1
  replace pa := Nat.lt_of_lt_of_le pa hx8.size
  replace ra := Nat.lt_succ_of_lt pa
  replace qb_0 := hx8.cell qb_0
  replace qb_1 := hx8.cell qb_1
  replace pb := Nat.lt_of_lt_of_le pb hx8.size
  replace rb := Nat.lt_succ_of_lt pb
  clear hx8
  have qj_0 := (cell_of_heap (j := 0) (v := .int .u64 0) hhj rfl).1
  have qj_1 := (cell_of_heap (j := 1) (v := .int .i64 0) hhj rfl).1
  have pj := World.block_lt_of_cell? _ ⟨bj, 0, none⟩ qj_0
  have rj := Nat.lt_succ_of_lt pj
  clear hhj hyj
  go_wp2_with fail
  with_reducible refine (sRight32_no _ _ _ hk).mono ?_
  rintro e w9 ⟨rfl, hb9⟩
  have hx9 : Ext w8 w9 := by repeat (first | with_reducible exact Ext.refl _ | with_reducible assumption | with_reducible refine Ext.alloc ?_ _ | with_reducible refine Ext.drew ?_ | with_reducible refine Ext.drewN ?_ _ | with_reducible refine Ext.setCell ?_ (by simp <;> omega) _ | with_reducible refine Ext.trans ?_ (by assumption))
  replace qa_0 := hx9.cell qa_0
  replace qa_1 := hx9.cell qa_1
  replace pa := Nat.lt_of_lt_of_le pa hx9.size
  replace ra := Nat.lt_succ_of_lt pa
  replace qb_0 := hx9.cell qb_0
  replace qb_1 := hx9.cell qb_1
  replace pb := Nat.lt_of_lt_of_le pb hx9.size
  replace rb := Nat.lt_succ_of_lt pb
  replace qj_0 := hx9.cell qj_0
  replace qj_1 := hx9.cell qj_1
  replace pj := Nat.lt_of_lt_of_le pj hx9.size
  replace rj := Nat.lt_succ_of_lt pj
  clear hx9
  go_wp2_with fail
  with_reducible refine (sEnd32_no _ _ _ hk).mono ?_
  rintro e w10 ⟨rfl, hb10⟩
  have hx10 : Ext w9 w10 := by repeat (first | with_reducible exact Ext.refl _ | with_reducible assumption | with_reducible refine Ext.alloc ?_ _ | with_reducible refine Ext.drew ?_ | with_reducible refine Ext.drewN ?_ _ | with_reducible refine Ext.setCell ?_ (by simp <;> omega) _ | with_reducible refine Ext.trans ?_ (by assumption))
  replace qa_0 := hx10.cell qa_0
  replace qa_1 := hx10.cell qa_1
  replace pa := Nat.lt_of_lt_of_le pa hx10.size
  replace ra := Nat.lt_succ_of_lt pa
  replace qb_0 := hx10.cell qb_0
  replace qb_1 := hx10.cell qb_1
  replace pb := Nat.lt_of_lt_of_le pb hx10.size
  replace rb := Nat.lt_succ_of_lt pb
  replace qj_0 := hx10.cell qj_0
  replace qj_1 := hx10.cell qj_1
  replace pj := Nat.lt_of_lt_of_le pj hx10.size
  replace rj := Nat.lt_succ_of_lt pj
  clear hx10
  go_wp2_with fail
  with_reducible refine (sHas64 _ _ _ _).mono ?_
  rintro e w11 ⟨rfl, hb11⟩
  have hx11 : Ext w10 w11 := by repeat (first | with_reducible exact Ext.refl _ | with_reducible assumption | with_reducible refine Ext.alloc ?_ _ | with_reducible refine Ext.drew ?_ | with_reducible refine Ext.drewN ?_ _ | with_reducible refine Ext.setCell ?_ (by simp <;> omega) _ | with_reducible refine Ext.trans ?_ (by assumption))
  replace qa_0 := hx11.cell qa_0
  replace qa_1 := hx11.cell qa_1
  replace pa := Nat.lt_of_lt_of_le pa hx11.size
  replace ra := Nat.lt_succ_of_lt pa
  replace qb_0 := hx11.cell qb_0
  replace qb_1 := hx11.cell qb_1
  replace pb := Nat.lt_of_lt_of_le pb hx11.size
  replace rb := Nat.lt_succ_of_lt pb
  replace qj_0 := hx11.cell qj_0
  replace qj_1 := hx11.cell qj_1
  replace pj := Nat.lt_of_lt_of_le pj hx11.size
  replace rj := Nat.lt_succ_of_lt pj
  clear hx11
  rw [HI2.out]
  go_wp2_with fail
  with_reducible refine (sPieces64_no _ _ _ _ (.inl hk)).mono ?_
  rintro e w12 ⟨rfl, hb12⟩
  have hx12 : Ext w11 w12 := by repeat (first | with_reducible exact Ext.refl _ | with_reducible assumption | with_reducible refine Ext.alloc ?_ _ | with_reducible refine Ext.drew ?_ | with_reducible refine Ext.drewN ?_ _ | with_reducible refine Ext.setCell ?_ (by simp <;> omega) _ | with_reducible refine Ext.trans ?_ (by assumption))
  replace qa_0 := hx12.cell qa_0
  replace qa_1 := hx12.cell qa_1
  replace pa := Nat.lt_of_lt_of_le pa hx12.size
  replace ra := Nat.lt_succ_of_lt pa
  replace qb_0 := hx12.cell qb_0
  replace qb_1 := hx12.cell qb_1
  replace pb := Nat.lt_of_lt_of_le pb hx12.size
  replace rb := Nat.lt_succ_of_lt pb
  replace qj_0 := hx12.cell qj_0
  replace qj_1 := hx12.cell qj_1
  replace pj := Nat.lt_of_lt_of_le pj hx12.size
  replace rj := Nat.lt_succ_of_lt pj
  clear hx12
  go_wp2
  go_ret
  refine ⟨rfl, ?_⟩
  repeat (first | with_reducible exact Ext.refl _ | with_reducible assumption | with_reducible refine Ext.alloc ?_ _ | with_reducible refine Ext.drew ?_ | with_reducible refine Ext.drewN ?_ _ | with_reducible refine Ext.setCell ?_ (by simp <;> omega) _ | with_reducible refine Ext.trans ?_ (by assumption))
end Go.Proofs.Ytclhbdedibcgjaa

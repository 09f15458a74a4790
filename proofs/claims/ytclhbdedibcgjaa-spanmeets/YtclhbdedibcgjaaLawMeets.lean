/- The walk of SpanMeets. -/
import Derived.Test.YtclhbdedibcgjaaRef03b
import Derived.Test.YtclhbdedibcgjaaLaw03a
import Derived.Test.YtclhbdedibcgjaaFree
namespace Go.Proofs.Ytclhbdedibcgjaa
open Go.RowKit Go.Shelf
set_option linter.unusedVariables false
set_option maxHeartbeats 4000000
attribute [local go_sem] later_cell later_frozen later_const
theorem meetsB_comm (d1 d2 n m : Int) : meetsB d1 d2 n m = meetsB d2 d1 m n := by
  unfold meetsB
  rw [Bool.and_comm (decide (0 < n)), Bool.or_comm]
set_option maxRecDepth 100000 in
theorem spanMeets_out (n m f g : Int) (w : World) (h : n < 0 ∨ m < 0 ∨ 60 < n ∨ 60 < m) : Calls Try.prog 4 #[.int .i64 n, .int .i64 m, .agg #[.int .u64 f, .int .u64 g]] w fun e w' => e = .returned (.bool true) ∧ Below w.heap.size w w' := by
  by_cases h1 : n < 0
  · have d1 : decide (n < 0) = true := by simpa using h1
    clear h
    go_enter Try.func4, Try.ntmps4
    go_wp2_with fail
    with_reducible refine (live03 _).mono ?_
    rintro e w1 ⟨rfl, hb1⟩
    obtain ⟨hc1, hf1⟩ := hb1.cells
    go_wp2
    go_ret
    refine ⟨rfl, Ext.below ?_⟩
    repeat (first | with_reducible exact Ext.refl _ | with_reducible assumption | with_reducible refine Ext.alloc ?_ _ | with_reducible refine Ext.drew ?_ | with_reducible refine Ext.drewN ?_ _ | with_reducible refine Ext.setCell ?_ (by simp <;> omega) _ | with_reducible refine Ext.trans ?_ (by assumption))
  have d1 : decide (n < 0) = false := by simpa using h1
  by_cases h2 : m < 0
  · have d2 : decide (m < 0) = true := by simpa using h2
    clear h
    go_enter Try.func4, Try.ntmps4
    go_wp2_with fail
    with_reducible refine (live03 _).mono ?_
    rintro e w2 ⟨rfl, hb2⟩
    obtain ⟨hc2, hf2⟩ := hb2.cells
    go_wp2
    go_ret
    refine ⟨rfl, Ext.below ?_⟩
    repeat (first | with_reducible exact Ext.refl _ | with_reducible assumption | with_reducible refine Ext.alloc ?_ _ | with_reducible refine Ext.drew ?_ | with_reducible refine Ext.drewN ?_ _ | with_reducible refine Ext.setCell ?_ (by simp <;> omega) _ | with_reducible refine Ext.trans ?_ (by assumption))
  have d2 : decide (m < 0) = false := by simpa using h2
  by_cases h3 : 60 < n
  · have d3 : decide (60 < n) = true := by simpa using h3
    clear h
    go_enter Try.func4, Try.ntmps4
    go_wp2_with fail
    with_reducible refine (live03 _).mono ?_
    rintro e w3 ⟨rfl, hb3⟩
    obtain ⟨hc3, hf3⟩ := hb3.cells
    go_wp2
    go_ret
    refine ⟨rfl, Ext.below ?_⟩
    repeat (first | with_reducible exact Ext.refl _ | with_reducible assumption | with_reducible refine Ext.alloc ?_ _ | with_reducible refine Ext.drew ?_ | with_reducible refine Ext.drewN ?_ _ | with_reducible refine Ext.setCell ?_ (by simp <;> omega) _ | with_reducible refine Ext.trans ?_ (by assumption))
  have d3 : decide (60 < n) = false := by simpa using h3
  have d4 : decide (60 < m) = true := by simp; omega
  clear h
  go_enter Try.func4, Try.ntmps4
  go_wp2_with fail
  with_reducible refine (live03 _).mono ?_
  rintro e w4 ⟨rfl, hb4⟩
  obtain ⟨hc4, hf4⟩ := hb4.cells
  go_wp2
  go_ret
  refine ⟨rfl, Ext.below ?_⟩
  repeat (first | with_reducible exact Ext.refl _ | with_reducible assumption | with_reducible refine Ext.alloc ?_ _ | with_reducible refine Ext.drew ?_ | with_reducible refine Ext.drewN ?_ _ | with_reducible refine Ext.setCell ?_ (by simp <;> omega) _ | with_reducible refine Ext.trans ?_ (by assumption))
set_option maxRecDepth 100000 in
theorem spanMeets_yes (n m : Nat) (f g : Int) (w : World) (hn : n ≤ 60) (hm : m ≤ 60) (hf : 0 ≤ f) (hg : 0 ≤ g) (he : (f + (n : Int)) % 4294967296 = g % 4294967296) :
    Calls Try.prog 4 #[.int .i64 n, .int .i64 m, .agg #[.int .u64 f, .int .u64 g]] w fun e w' => e = .returned (.bool true) ∧ Below w.heap.size w w' := by
  have kn : okN n = true := okN_of (by omega) (by omega)
  have km : okN m = true := okN_of (by omega) (by omega)
  have ks : okN ((n : Int) + (m : Int)) = true := okN_of (by omega) (by omega)
  have d1 : decide ((n : Int) < 0) = false := by simp
  have d2 : decide ((m : Int) < 0) = false := by simp
  have d3 : decide (60 < (n : Int)) = false := by simp; omega
  have d4 : decide (60 < (m : Int)) = false := by simp; omega
  have hd : (g % 4294967296 != (f % 4294967296 + (n : Int)) % 4294967296) = false := by simp; omega
  have de : ((f + (n : Int)) % 4294967296 == g % 4294967296) = true := by simpa using he
  have HD := Lib.hid hd
  clear hd he
  have c1 := fun w => sMeets32 (f % 4294967296) n (g % 4294967296) m w kn km
  have c2 := fun w => sMeets32 (g % 4294967296) m (f % 4294967296) n w km kn
  have c3 := fun w => rMeets32 (f % 4294967296) (g % 4294967296) n m w (by omega) (by omega)
  have c4 := fun w => sMeets64 f n g m w kn km
  have c5 := fun w => rMeets64 f g n m w (by omega) (by omega)
  rw [meetsB_comm ((f % 4294967296 - g % 4294967296) % 4294967296)] at c2
  generalize meetsB ((g % 4294967296 - f % 4294967296) % 4294967296) ((f % 4294967296 - g % 4294967296) % 4294967296) n m = b1 at c1 c2 c3
  generalize meetsB (U64 (g - f)) (U64 (f - g)) n m = b2 at c4 c5
  have C1 := Lib.hid c1
  have C2 := Lib.hid c2
  have C3 := Lib.hid c3
  have C4 := Lib.hid c4
  have C5 := Lib.hid c5
  clear c1 c2 c3 c4 c5
  go_enter Try.func4, Try.ntmps4
  go_wp2
  refine settle_wp ?_
  intro w1 hb1
  have qt_0 : w1.cell? ⟨w.heap.size, 0, none⟩ = some (.int .u64 f) := (hb1.cells.1 _ _ (by simp <;> omega)).trans (by simp [go_sem])
  have qt_1 : w1.cell? ⟨w.heap.size, 1, none⟩ = some (.int .u64 g) := (hb1.cells.1 _ _ (by simp <;> omega)).trans (by simp [go_sem])
  have pt := World.block_lt_of_cell? _ ⟨w.heap.size, 0, none⟩ qt_0
  have rt := Nat.lt_succ_of_lt pt
  refine wp_freeE [.quiet, .quiet, .quiet, .quiet, .quiet, .quiet, .quiet, .quiet, .new (.cells #[.int .u32 0, .int .i64 0] 29), .new (.cells #[.int .u32 0, .int .i64 0] 29), .set 8 (.cells #[.int .u32 (f % 4294967296), .int .i64 n] 29), .set 9 (.cells #[.int .u32 (g % 4294967296), .int .i64 m] 29)] [(8, 7), (9, 8)] 133 (by kernel_rfl) (by kernel_rfl) (by kernel_rfl) rfl ?hnew1 ?_
  case hnew1 =>
    intro i o op hr ho ρ w
    match i, hr, ho with
    | 0, hr, ho => exact absurd hr (by intro h; cases h)
    | 1, hr, ho => exact absurd hr (by intro h; cases h)
    | 2, hr, ho => exact absurd hr (by intro h; cases h)
    | 3, hr, ho => exact absurd hr (by intro h; cases h)
    | 4, hr, ho => exact absurd hr (by intro h; cases h)
    | 5, hr, ho => exact absurd hr (by intro h; cases h)
    | 6, hr, ho => exact absurd hr (by intro h; cases h)
    | 7, hr, ho => exact absurd hr (by intro h; cases h)
    | 8, hr, ho => cases hr; cases ho; simp [go_sem]
    | 9, hr, ho => cases hr; cases ho; simp [go_sem]
    | 10, hr, ho => exact absurd hr (by intro h; cases h)
    | 11, hr, ho => exact absurd hr (by intro h; cases h)
    | i + 12, hr, ho => exact absurd hr (by intro h; cases h)
  apply Exists.intro
  refine ⟨?hwalk1, ?hset1, ?_⟩
  case hwalk1 =>
    intro F hF g0
    have hconst : ∀ p : Prop, (LaterF _ F → p) ↔ p := fun p => ⟨fun h => h g0, fun h _ => h⟩
    have lt_0 := fun (g : LaterF w1 F) => g.ok.cell qt_0
    have lt_1 := fun (g : LaterF w1 F) => g.ok.cell qt_1
    simp only [keepQ]
    repeat (go_big_quiet_step ((fail)))
    go_big_quiet_step ((go_at_call 10; exact laterFC hF (small03 _ _ _)))
    repeat (go_big_quiet_step ((fail)))
    go_big_quiet_step ((go_at_call 10; exact laterFC hF (small03 _ _ _)))
    repeat (go_big_quiet_step ((fail)))
    exact wpQuiet_nil rfl
  case hset1 =>
    intro B i s o' op hr ho o hz w hw
    match i, hr, ho with
    | 0, hr, ho => exact absurd hr (by intro h; cases h)
    | 1, hr, ho => exact absurd hr (by intro h; cases h)
    | 2, hr, ho => exact absurd hr (by intro h; cases h)
    | 3, hr, ho => exact absurd hr (by intro h; cases h)
    | 4, hr, ho => exact absurd hr (by intro h; cases h)
    | 5, hr, ho => exact absurd hr (by intro h; cases h)
    | 6, hr, ho => exact absurd hr (by intro h; cases h)
    | 7, hr, ho => exact absurd hr (by intro h; cases h)
    | 8, hr, ho => exact absurd hr (by intro h; cases h)
    | 9, hr, ho => exact absurd hr (by intro h; cases h)
    | 10, hr, ho => cases hr; cases ho; cases hz; obtain ⟨⟨c0, c1⟩, ⟨z0, z1⟩, hh, hbut⟩ := store2 (.int .u32 (f % 4294967296)) (.int .i64 n) hw; exact ⟨.skip, _, by simp [go_sem, withNews, Act.put, c0, c1, z0, z1], .inl rfl, hh, hbut⟩
    | 11, hr, ho => cases hr; cases ho; cases hz; obtain ⟨⟨c0, c1⟩, ⟨z0, z1⟩, hh, hbut⟩ := store2 (.int .u32 (g % 4294967296)) (.int .i64 m) hw; exact ⟨.skip, _, by simp [go_sem, withNews, Act.put, c0, c1, z0, z1], .inl rfl, hh, hbut⟩
    | i + 12, hr, ho => exact absurd hr (by intro h; cases h)
  intro B w2 hb2 hN1
  have hha : w2.heap[B 8]? = some (.cells #[.int .u32 (f % 4294967296), .int .i64 n] 29) := hN1.holds 8 _ rfl rfl
  have hya : w1.heap.size ≤ B 8 := hN1.beyond 8 _ rfl rfl
  have hhb : w2.heap[B 9]? = some (.cells #[.int .u32 (g % 4294967296), .int .i64 m] 29) := hN1.holds 9 _ rfl rfl
  have hyb : w1.heap.size ≤ B 9 := hN1.beyond 9 _ rfl rfl
  have hneab : B 8 ≠ B 9 := hN1.apart 8 9 _ _ rfl rfl rfl rfl (by decide)
  clear hN1
  simp only [withNews, List.foldl_cons, List.foldl_nil, Act.put, List.setIfInBounds_toArray, List.set_cons_succ, List.set_cons_zero]
  generalize B 8 = bka at *
  generalize B 9 = bkb at *
  have hx2 : Ext w1 w2 := by repeat (first | with_reducible exact Ext.refl _ | with_reducible assumption | with_reducible refine Ext.alloc ?_ _ | with_reducible refine Ext.drew ?_ | with_reducible refine Ext.drewN ?_ _ | with_reducible refine Ext.setCell ?_ (by simp <;> omega) _ | with_reducible refine Ext.trans ?_ (by assumption))
  replace qt_0 := hx2.cell qt_0
  replace qt_1 := hx2.cell qt_1
  replace pt := Nat.lt_of_lt_of_le pt hx2.size
  replace rt := Nat.lt_succ_of_lt pt
  clear hx2
  have qa_0 := (cell_of_heap (j := 0) (v := .int .u32 (f % 4294967296)) hha rfl).1
  have qa_1 := (cell_of_heap (j := 1) (v := .int .i64 n) hha rfl).1
  have pa := World.block_lt_of_cell? _ ⟨bka, 0, none⟩ qa_0
  have ra := Nat.lt_succ_of_lt pa
  clear hha hya
  have qb_0 := (cell_of_heap (j := 0) (v := .int .u32 (g % 4294967296)) hhb rfl).1
  have qb_1 := (cell_of_heap (j := 1) (v := .int .i64 m) hhb rfl).1
  have pb := World.block_lt_of_cell? _ ⟨bkb, 0, none⟩ qb_0
  have rb := Nat.lt_succ_of_lt pb
  clear hhb hyb
  go_wp2
  refine wp_freeE [.quiet, .quiet, .quiet, .quiet, .quiet, .quiet, .quiet, .quiet, .new (.cells #[.int .u64 0, .int .i64 0] 32), .new (.cells #[.int .u64 0, .int .i64 0] 32), .set 8 (.cells #[.int .u64 f, .int .i64 n] 32), .set 9 (.cells #[.int .u64 g, .int .i64 m] 32)] [(8, 9), (9, 10)] 133 (by kernel_rfl) (by kernel_rfl) (by kernel_rfl) rfl ?hnew2 ?_
  case hnew2 =>
    intro i o op hr ho ρ w
    match i, hr, ho with
    | 0, hr, ho => exact absurd hr (by intro h; cases h)
    | 1, hr, ho => exact absurd hr (by intro h; cases h)
    | 2, hr, ho => exact absurd hr (by intro h; cases h)
    | 3, hr, ho => exact absurd hr (by intro h; cases h)
    | 4, hr, ho => exact absurd hr (by intro h; cases h)
    | 5, hr, ho => exact absurd hr (by intro h; cases h)
    | 6, hr, ho => exact absurd hr (by intro h; cases h)
    | 7, hr, ho => exact absurd hr (by intro h; cases h)
    | 8, hr, ho => cases hr; cases ho; simp [go_sem]
    | 9, hr, ho => cases hr; cases ho; simp [go_sem]
    | 10, hr, ho => exact absurd hr (by intro h; cases h)
    | 11, hr, ho => exact absurd hr (by intro h; cases h)
    | i + 12, hr, ho => exact absurd hr (by intro h; cases h)
  apply Exists.intro
  refine ⟨?hwalk2, ?hset2, ?_⟩
  case hwalk2 =>
    intro F hF g0
    have hconst : ∀ p : Prop, (LaterF _ F → p) ↔ p := fun p => ⟨fun h => h g0, fun h _ => h⟩
    have lt_0 := fun (g : LaterF w2 F) => g.ok.cell qt_0
    have lt_1 := fun (g : LaterF w2 F) => g.ok.cell qt_1
    have la_0 := fun (g : LaterF w2 F) => g.ok.cell qa_0
    have la_1 := fun (g : LaterF w2 F) => g.ok.cell qa_1
    have lb_0 := fun (g : LaterF w2 F) => g.ok.cell qb_0
    have lb_1 := fun (g : LaterF w2 F) => g.ok.cell qb_1
    simp only [keepQ]
    repeat (go_big_quiet_step ((fail)))
    go_big_quiet_step ((go_at_call 11; exact laterFC hF (great03 _ _ _)))
    repeat (go_big_quiet_step ((fail)))
    go_big_quiet_step ((go_at_call 11; exact laterFC hF (great03 _ _ _)))
    repeat (go_big_quiet_step ((fail)))
    exact wpQuiet_nil rfl
  case hset2 =>
    intro B i s o' op hr ho o hz w hw
    match i, hr, ho with
    | 0, hr, ho => exact absurd hr (by intro h; cases h)
    | 1, hr, ho => exact absurd hr (by intro h; cases h)
    | 2, hr, ho => exact absurd hr (by intro h; cases h)
    | 3, hr, ho => exact absurd hr (by intro h; cases h)
    | 4, hr, ho => exact absurd hr (by intro h; cases h)
    | 5, hr, ho => exact absurd hr (by intro h; cases h)
    | 6, hr, ho => exact absurd hr (by intro h; cases h)
    | 7, hr, ho => exact absurd hr (by intro h; cases h)
    | 8, hr, ho => exact absurd hr (by intro h; cases h)
    | 9, hr, ho => exact absurd hr (by intro h; cases h)
    | 10, hr, ho => cases hr; cases ho; cases hz; obtain ⟨⟨c0, c1⟩, ⟨z0, z1⟩, hh, hbut⟩ := store2 (.int .u64 f) (.int .i64 n) hw; exact ⟨.skip, _, by simp [go_sem, withNews, Act.put, c0, c1, z0, z1], .inl rfl, hh, hbut⟩
    | 11, hr, ho => cases hr; cases ho; cases hz; obtain ⟨⟨c0, c1⟩, ⟨z0, z1⟩, hh, hbut⟩ := store2 (.int .u64 g) (.int .i64 m) hw; exact ⟨.skip, _, by simp [go_sem, withNews, Act.put, c0, c1, z0, z1], .inl rfl, hh, hbut⟩
    | i + 12, hr, ho => exact absurd hr (by intro h; cases h)
  intro B w3 hb3 hN2
  have hhc : w3.heap[B 8]? = some (.cells #[.int .u64 f, .int .i64 n] 32) := hN2.holds 8 _ rfl rfl
  have hyc : w2.heap.size ≤ B 8 := hN2.beyond 8 _ rfl rfl
  have hhd : w3.heap[B 9]? = some (.cells #[.int .u64 g, .int .i64 m] 32) := hN2.holds 9 _ rfl rfl
  have hyd : w2.heap.size ≤ B 9 := hN2.beyond 9 _ rfl rfl
  have hnecd : B 8 ≠ B 9 := hN2.apart 8 9 _ _ rfl rfl rfl rfl (by decide)
  clear hN2
  simp only [withNews, List.foldl_cons, List.foldl_nil, Act.put, List.setIfInBounds_toArray, List.set_cons_succ, List.set_cons_zero]
  generalize B 8 = bkc at *
  generalize B 9 = bkd at *
  have hx3 : Ext w2 w3 := by repeat (first | with_reducible exact Ext.refl _ | with_reducible assumption | with_reducible refine Ext.alloc ?_ _ | with_reducible refine Ext.drew ?_ | with_reducible refine Ext.drewN ?_ _ | with_reducible refine Ext.setCell ?_ (by simp <;> omega) _ | with_reducible refine Ext.trans ?_ (by assumption))
  replace qt_0 := hx3.cell qt_0
  replace qt_1 := hx3.cell qt_1
  replace pt := Nat.lt_of_lt_of_le pt hx3.size
  replace rt := Nat.lt_succ_of_lt pt
  replace qa_0 := hx3.cell qa_0
  replace qa_1 := hx3.cell qa_1
  replace pa := Nat.lt_of_lt_of_le pa hx3.size
  replace ra := Nat.lt_succ_of_lt pa
  replace qb_0 := hx3.cell qb_0
  replace qb_1 := hx3.cell qb_1
  replace pb := Nat.lt_of_lt_of_le pb hx3.size
  replace rb := Nat.lt_succ_of_lt pb
  clear hx3
  have qc_0 := (cell_of_heap (j := 0) (v := .int .u64 f) hhc rfl).1
  have qc_1 := (cell_of_heap (j := 1) (v := .int .i64 n) hhc rfl).1
  have pc := World.block_lt_of_cell? _ ⟨bkc, 0, none⟩ qc_0
  have rc := Nat.lt_succ_of_lt pc
  clear hhc hyc
  have qd_0 := (cell_of_heap (j := 0) (v := .int .u64 g) hhd rfl).1
  have qd_1 := (cell_of_heap (j := 1) (v := .int .i64 m) hhd rfl).1
  have pd := World.block_lt_of_cell? _ ⟨bkd, 0, none⟩ qd_0
  have rd := Nat.lt_succ_of_lt pd
  clear hhd hyd
  go_wp2
  refine wp_freeE [.quiet, .quiet, .quiet, .quiet, .quiet, .quiet, .quiet, .quiet, .quiet, .quiet, .new (.cells #[.int .i64 0, .int .u64 0, .int .i64 0] 36), .new (.cells #[.int .i64 0, .int .u64 0, .int .i64 0] 36), .set 10 (.cells #[.int .i64 32, .int .u64 (f % 4294967296), .int .i64 n] 36), .set 11 (.cells #[.int .i64 32, .int .u64 (g % 4294967296), .int .i64 m] 36)] [(10, 11), (11, 12)] 133 (by kernel_rfl) (by kernel_rfl) (by kernel_rfl) rfl ?hnew3 ?_
  case hnew3 =>
    intro i o op hr ho ρ w
    match i, hr, ho with
    | 0, hr, ho => exact absurd hr (by intro h; cases h)
    | 1, hr, ho => exact absurd hr (by intro h; cases h)
    | 2, hr, ho => exact absurd hr (by intro h; cases h)
    | 3, hr, ho => exact absurd hr (by intro h; cases h)
    | 4, hr, ho => exact absurd hr (by intro h; cases h)
    | 5, hr, ho => exact absurd hr (by intro h; cases h)
    | 6, hr, ho => exact absurd hr (by intro h; cases h)
    | 7, hr, ho => exact absurd hr (by intro h; cases h)
    | 8, hr, ho => exact absurd hr (by intro h; cases h)
    | 9, hr, ho => exact absurd hr (by intro h; cases h)
    | 10, hr, ho => cases hr; cases ho; simp [go_sem]
    | 11, hr, ho => cases hr; cases ho; simp [go_sem]
    | 12, hr, ho => exact absurd hr (by intro h; cases h)
    | 13, hr, ho => exact absurd hr (by intro h; cases h)
    | i + 14, hr, ho => exact absurd hr (by intro h; cases h)
  apply Exists.intro
  refine ⟨?hwalk3, ?hset3, ?_⟩
  case hwalk3 =>
    intro F hF g0
    have hconst : ∀ p : Prop, (LaterF _ F → p) ↔ p := fun p => ⟨fun h => h g0, fun h _ => h⟩
    have lt_0 := fun (g : LaterF w3 F) => g.ok.cell qt_0
    have lt_1 := fun (g : LaterF w3 F) => g.ok.cell qt_1
    have la_0 := fun (g : LaterF w3 F) => g.ok.cell qa_0
    have la_1 := fun (g : LaterF w3 F) => g.ok.cell qa_1
    have lb_0 := fun (g : LaterF w3 F) => g.ok.cell qb_0
    have lb_1 := fun (g : LaterF w3 F) => g.ok.cell qb_1
    have lc_0 := fun (g : LaterF w3 F) => g.ok.cell qc_0
    have lc_1 := fun (g : LaterF w3 F) => g.ok.cell qc_1
    have ld_0 := fun (g : LaterF w3 F) => g.ok.cell qd_0
    have ld_1 := fun (g : LaterF w3 F) => g.ok.cell qd_1
    simp only [keepQ]
    repeat (go_big_quiet_step ((fail)))
    go_big_quiet_step ((go_at_call 12; exact laterFS (rCut_32 _ _ hf)))
    repeat (go_big_quiet_step ((fail)))
    go_big_quiet_step ((go_at_call 12; exact laterFS (rCut_32 _ _ hg)))
    repeat (go_big_quiet_step ((fail)))
    exact wpQuiet_nil rfl
  case hset3 =>
    intro B i s o' op hr ho o hz w hw
    match i, hr, ho with
    | 0, hr, ho => exact absurd hr (by intro h; cases h)
    | 1, hr, ho => exact absurd hr (by intro h; cases h)
    | 2, hr, ho => exact absurd hr (by intro h; cases h)
    | 3, hr, ho => exact absurd hr (by intro h; cases h)
    | 4, hr, ho => exact absurd hr (by intro h; cases h)
    | 5, hr, ho => exact absurd hr (by intro h; cases h)
    | 6, hr, ho => exact absurd hr (by intro h; cases h)
    | 7, hr, ho => exact absurd hr (by intro h; cases h)
    | 8, hr, ho => exact absurd hr (by intro h; cases h)
    | 9, hr, ho => exact absurd hr (by intro h; cases h)
    | 10, hr, ho => exact absurd hr (by intro h; cases h)
    | 11, hr, ho => exact absurd hr (by intro h; cases h)
    | 12, hr, ho => cases hr; cases ho; cases hz; obtain ⟨⟨c0, c1, c2⟩, ⟨z0, z1, z2⟩, hh, hbut⟩ := store3 (.int .i64 32) (.int .u64 (f % 4294967296)) (.int .i64 n) hw; exact ⟨.skip, _, by simp [go_sem, withNews, Act.put, c0, c1, c2, z0, z1, z2], .inl rfl, hh, hbut⟩
    | 13, hr, ho => cases hr; cases ho; cases hz; obtain ⟨⟨c0, c1, c2⟩, ⟨z0, z1, z2⟩, hh, hbut⟩ := store3 (.int .i64 32) (.int .u64 (g % 4294967296)) (.int .i64 m) hw; exact ⟨.skip, _, by simp [go_sem, withNews, Act.put, c0, c1, c2, z0, z1, z2], .inl rfl, hh, hbut⟩
    | i + 14, hr, ho => exact absurd hr (by intro h; cases h)
  intro B w4 hb4 hN3
  have hhx : w4.heap[B 10]? = some (.cells #[.int .i64 32, .int .u64 (f % 4294967296), .int .i64 n] 36) := hN3.holds 10 _ rfl rfl
  have hyx : w3.heap.size ≤ B 10 := hN3.beyond 10 _ rfl rfl
  have hhy : w4.heap[B 11]? = some (.cells #[.int .i64 32, .int .u64 (g % 4294967296), .int .i64 m] 36) := hN3.holds 11 _ rfl rfl
  have hyy : w3.heap.size ≤ B 11 := hN3.beyond 11 _ rfl rfl
  have hnexy : B 10 ≠ B 11 := hN3.apart 10 11 _ _ rfl rfl rfl rfl (by decide)
  clear hN3
  simp only [withNews, List.foldl_cons, List.foldl_nil, Act.put, List.setIfInBounds_toArray, List.set_cons_succ, List.set_cons_zero]
  generalize B 10 = bkx at *
  generalize B 11 = bky at *
  have hx4 : Ext w3 w4 := by repeat (first | with_reducible exact Ext.refl _ | with_reducible assumption | with_reducible refine Ext.alloc ?_ _ | with_reducible refine Ext.drew ?_ | with_reducible refine Ext.drewN ?_ _ | with_reducible refine Ext.setCell ?_ (by simp <;> omega) _ | with_reducible refine Ext.trans ?_ (by assumption))
  replace qt_0 := hx4.cell qt_0
  replace qt_1 := hx4.cell qt_1
  replace pt := Nat.lt_of_lt_of_le pt hx4.size
  replace rt := Nat.lt_succ_of_lt pt
  replace qa_0 := hx4.cell qa_0
  replace qa_1 := hx4.cell qa_1
  replace pa := Nat.lt_of_lt_of_le pa hx4.size
  replace ra := Nat.lt_succ_of_lt pa
  replace qb_0 := hx4.cell qb_0
  replace qb_1 := hx4.cell qb_1
  replace pb := Nat.lt_of_lt_of_le pb hx4.size
  replace rb := Nat.lt_succ_of_lt pb
  replace qc_0 := hx4.cell qc_0
  replace qc_1 := hx4.cell qc_1
  replace pc := Nat.lt_of_lt_of_le pc hx4.size
  replace rc := Nat.lt_succ_of_lt pc
  replace qd_0 := hx4.cell qd_0
  replace qd_1 := hx4.cell qd_1
  replace pd := Nat.lt_of_lt_of_le pd hx4.size
  replace rd := Nat.lt_succ_of_lt pd
  clear hx4
  have qx_0 := (cell_of_heap (j := 0) (v := .int .i64 32) hhx rfl).1
  have qx_1 := (cell_of_heap (j := 1) (v := .int .u64 (f % 4294967296)) hhx rfl).1
  have qx_2 := (cell_of_heap (j := 2) (v := .int .i64 n) hhx rfl).1
  have px := World.block_lt_of_cell? _ ⟨bkx, 0, none⟩ qx_0
  have rx := Nat.lt_succ_of_lt px
  clear hhx hyx
  have qy_0 := (cell_of_heap (j := 0) (v := .int .i64 32) hhy rfl).1
  have qy_1 := (cell_of_heap (j := 1) (v := .int .u64 (g % 4294967296)) hhy rfl).1
  have qy_2 := (cell_of_heap (j := 2) (v := .int .i64 m) hhy rfl).1
  have py := World.block_lt_of_cell? _ ⟨bky, 0, none⟩ qy_0
  have ry := Nat.lt_succ_of_lt py
  clear hhy hyy
  go_wp2
  refine wp_region_later (by kernel_rfl) (by kernel_rfl) ?_
  have lt_0 := fun (g : Later w4) => g.ok.cell qt_0
  have lt_1 := fun (g : Later w4) => g.ok.cell qt_1
  have la_0 := fun (g : Later w4) => g.ok.cell qa_0
  have la_1 := fun (g : Later w4) => g.ok.cell qa_1
  have lb_0 := fun (g : Later w4) => g.ok.cell qb_0
  have lb_1 := fun (g : Later w4) => g.ok.cell qb_1
  have lc_0 := fun (g : Later w4) => g.ok.cell qc_0
  have lc_1 := fun (g : Later w4) => g.ok.cell qc_1
  have ld_0 := fun (g : Later w4) => g.ok.cell qd_0
  have ld_1 := fun (g : Later w4) => g.ok.cell qd_1
  have lx_0 := fun (g : Later w4) => g.ok.cell qx_0
  have lx_1 := fun (g : Later w4) => g.ok.cell qx_1
  have lx_2 := fun (g : Later w4) => g.ok.cell qx_2
  have ly_0 := fun (g : Later w4) => g.ok.cell qy_0
  have ly_1 := fun (g : Later w4) => g.ok.cell qy_1
  have ly_2 := fun (g : Later w4) => g.ok.cell qy_2
  repeat (go_big_quiet_step ((fail)))
  go_big_quiet_step ((go_at_call 25; exact laterC (C1.out _)))
  repeat (go_big_quiet_step ((fail)))
  go_big_quiet_step ((go_at_call 26; exact laterC (C3.out _)))
  repeat (go_big_quiet_step ((fail)))
  go_big_quiet_step ((go_at_call 25; exact laterC (C2.out _)))
  repeat (go_big_quiet_step ((fail)))
  go_big_quiet_step ((go_at_call 25; exact laterC (C1.out _)))
  repeat (go_big_quiet_step ((fail)))
  go_big_quiet_step ((go_at_call 27; exact laterC (C4.out _)))
  repeat (go_big_quiet_step ((fail)))
  go_big_quiet_step ((go_at_call 26; exact laterC (C5.out _)))
  repeat (go_big_quiet_step ((fail)))
  refine wpQuiet_nil ?_
  intro w5 hl5
  have hb5 := laters_ext hl5
  clear hl5 lt_0 lt_1 la_0 la_1 lb_0 lb_1 lc_0 lc_1 ld_0 ld_1 lx_0 lx_1 lx_2 ly_0 ly_1 ly_2
  have hx5 : Ext w4 w5 := by repeat (first | with_reducible exact Ext.refl _ | with_reducible assumption | with_reducible refine Ext.alloc ?_ _ | with_reducible refine Ext.drew ?_ | with_reducible refine Ext.drewN ?_ _ | with_reducible refine Ext.setCell ?_ (by simp <;> omega) _ | with_reducible refine Ext.trans ?_ (by assumption))
  replace qt_0 := hx5.cell qt_0
  replace qt_1 := hx5.cell qt_1
  replace pt := Nat.lt_of_lt_of_le pt hx5.size
  replace rt := Nat.lt_succ_of_lt pt
  replace qa_0 := hx5.cell qa_0
  replace qa_1 := hx5.cell qa_1
  replace pa := Nat.lt_of_lt_of_le pa hx5.size
  replace ra := Nat.lt_succ_of_lt pa
  replace qb_0 := hx5.cell qb_0
  replace qb_1 := hx5.cell qb_1
  replace pb := Nat.lt_of_lt_of_le pb hx5.size
  replace rb := Nat.lt_succ_of_lt pb
  replace qc_0 := hx5.cell qc_0
  replace qc_1 := hx5.cell qc_1
  replace pc := Nat.lt_of_lt_of_le pc hx5.size
  replace rc := Nat.lt_succ_of_lt pc
  replace qd_0 := hx5.cell qd_0
  replace qd_1 := hx5.cell qd_1
  replace pd := Nat.lt_of_lt_of_le pd hx5.size
  replace rd := Nat.lt_succ_of_lt pd
  replace qx_0 := hx5.cell qx_0
  replace qx_1 := hx5.cell qx_1
  replace qx_2 := hx5.cell qx_2
  replace px := Nat.lt_of_lt_of_le px hx5.size
  replace rx := Nat.lt_succ_of_lt px
  replace qy_0 := hx5.cell qy_0
  replace qy_1 := hx5.cell qy_1
  replace qy_2 := hx5.cell qy_2
  replace py := Nat.lt_of_lt_of_le py hx5.size
  replace ry := Nat.lt_succ_of_lt py
  clear hx5
  go_wp2_with fail
  with_reducible refine (sJoin32_yes _ _ _ _ _ kn km HD.out ks).mono ?_
  rintro e w6 ⟨rfl, hb6⟩
  have hx6 : Ext w5 w6 := by repeat (first | with_reducible exact Ext.refl _ | with_reducible assumption | with_reducible refine Ext.alloc ?_ _ | with_reducible refine Ext.drew ?_ | with_reducible refine Ext.drewN ?_ _ | with_reducible refine Ext.setCell ?_ (by simp <;> omega) _ | with_reducible refine Ext.trans ?_ (by assumption))
  replace qt_0 := hx6.cell qt_0
  replace qt_1 := hx6.cell qt_1
  replace pt := Nat.lt_of_lt_of_le pt hx6.size
  replace rt := Nat.lt_succ_of_lt pt
  replace qa_0 := hx6.cell qa_0
  replace qa_1 := hx6.cell qa_1
  replace pa := Nat.lt_of_lt_of_le pa hx6.size
  replace ra := Nat.lt_succ_of_lt pa
  replace qb_0 := hx6.cell qb_0
  replace qb_1 := hx6.cell qb_1
  replace pb := Nat.lt_of_lt_of_le pb hx6.size
  replace rb := Nat.lt_succ_of_lt pb
  replace qc_0 := hx6.cell qc_0
  replace qc_1 := hx6.cell qc_1
  replace pc := Nat.lt_of_lt_of_le pc hx6.size
  replace rc := Nat.lt_succ_of_lt pc
  replace qd_0 := hx6.cell qd_0
  replace qd_1 := hx6.cell qd_1
  replace pd := Nat.lt_of_lt_of_le pd hx6.size
  replace rd := Nat.lt_succ_of_lt pd
  replace qx_0 := hx6.cell qx_0
  replace qx_1 := hx6.cell qx_1
  replace qx_2 := hx6.cell qx_2
  replace px := Nat.lt_of_lt_of_le px hx6.size
  replace rx := Nat.lt_succ_of_lt px
  replace qy_0 := hx6.cell qy_0
  replace qy_1 := hx6.cell qy_1
  replace qy_2 := hx6.cell qy_2
  replace py := Nat.lt_of_lt_of_le py hx6.size
  replace ry := Nat.lt_succ_of_lt py
  clear hx6
  go_wp2
  refine settle_wp ?_
  intro w7 hb7
  have hx7 : Ext w6 w7 := by repeat (first | with_reducible exact Ext.refl _ | with_reducible assumption | with_reducible refine Ext.alloc ?_ _ | with_reducible refine Ext.drew ?_ | with_reducible refine Ext.drewN ?_ _ | with_reducible refine Ext.setCell ?_ (by simp <;> omega) _ | with_reducible refine Ext.trans ?_ (by assumption))
  replace qt_0 := hx7.cell qt_0
  replace qt_1 := hx7.cell qt_1
  replace pt := Nat.lt_of_lt_of_le pt hx7.size
  replace rt := Nat.lt_succ_of_lt pt
  replace qa_0 := hx7.cell qa_0
  replace qa_1 := hx7.cell qa_1
  replace pa := Nat.lt_of_lt_of_le pa hx7.size
  replace ra := Nat.lt_succ_of_lt pa
  replace qb_0 := hx7.cell qb_0
  replace qb_1 := hx7.cell qb_1
  replace pb := Nat.lt_of_lt_of_le pb hx7.size
  replace rb := Nat.lt_succ_of_lt pb
  replace qc_0 := hx7.cell qc_0
  replace qc_1 := hx7.cell qc_1
  replace pc := Nat.lt_of_lt_of_le pc hx7.size
  replace rc := Nat.lt_succ_of_lt pc
  replace qd_0 := hx7.cell qd_0
  replace qd_1 := hx7.cell qd_1
  replace pd := Nat.lt_of_lt_of_le pd hx7.size
  replace rd := Nat.lt_succ_of_lt pd
  replace qx_0 := hx7.cell qx_0
  replace qx_1 := hx7.cell qx_1
  replace qx_2 := hx7.cell qx_2
  replace px := Nat.lt_of_lt_of_le px hx7.size
  replace rx := Nat.lt_succ_of_lt px
  replace qy_0 := hx7.cell qy_0
  replace qy_1 := hx7.cell qy_1
  replace qy_2 := hx7.cell qy_2
  replace py := Nat.lt_of_lt_of_le py hx7.size
  replace ry := Nat.lt_succ_of_lt py
  clear hx7
  have qj_0 : w7.cell? ⟨w6.heap.size, 0, none⟩ = some (.int .u32 (f % 4294967296)) := (hb7.cells.1 _ _ (by simp <;> omega)).trans (by simp [go_sem])
  have qj_1 : w7.cell? ⟨w6.heap.size, 1, none⟩ = some (.int .i64 ((n : Int) + (m : Int))) := (hb7.cells.1 _ _ (by simp <;> omega)).trans (by simp [go_sem])
  have pj := World.block_lt_of_cell? _ ⟨w6.heap.size, 0, none⟩ qj_0
  have rj := Nat.lt_succ_of_lt pj
  go_wp2
  refine wp_region_later (by kernel_rfl) (by kernel_rfl) ?_
  have lt_0 := fun (g : Later w7) => g.ok.cell qt_0
  have lt_1 := fun (g : Later w7) => g.ok.cell qt_1
  have la_0 := fun (g : Later w7) => g.ok.cell qa_0
  have la_1 := fun (g : Later w7) => g.ok.cell qa_1
  have lb_0 := fun (g : Later w7) => g.ok.cell qb_0
  have lb_1 := fun (g : Later w7) => g.ok.cell qb_1
  have lc_0 := fun (g : Later w7) => g.ok.cell qc_0
  have lc_1 := fun (g : Later w7) => g.ok.cell qc_1
  have ld_0 := fun (g : Later w7) => g.ok.cell qd_0
  have ld_1 := fun (g : Later w7) => g.ok.cell qd_1
  have lx_0 := fun (g : Later w7) => g.ok.cell qx_0
  have lx_1 := fun (g : Later w7) => g.ok.cell qx_1
  have lx_2 := fun (g : Later w7) => g.ok.cell qx_2
  have ly_0 := fun (g : Later w7) => g.ok.cell qy_0
  have ly_1 := fun (g : Later w7) => g.ok.cell qy_1
  have ly_2 := fun (g : Later w7) => g.ok.cell qy_2
  have lj_0 := fun (g : Later w7) => g.ok.cell qj_0
  have lj_1 := fun (g : Later w7) => g.ok.cell qj_1
  repeat (go_big_quiet_step ((fail)))
  go_big_quiet_step ((go_at_call 22; exact laterS (rPlus_32 _ _ _)))
  repeat (go_big_quiet_step ((fail)))
  refine wpQuiet_nil ?_
  intro w8 hl8
  have hb8 := laters_ext hl8
  clear hl8 lt_0 lt_1 la_0 la_1 lb_0 lb_1 lc_0 lc_1 ld_0 ld_1 lx_0 lx_1 lx_2 ly_0 ly_1 ly_2 lj_0 lj_1
  have hx8 : Ext w7 w8 := by repeat (first | with_reducible exact Ext.refl _ | with_reducible assumption | with_reducible refine Ext.alloc ?_ _ | with_reducible refine Ext.drew ?_ | with_reducible refine Ext.drewN ?_ _ | with_reducible refine Ext.setCell ?_ (by simp <;> omega) _ | with_reducible refine Ext.trans ?_ (by assumption))
  replace qt_0 := hx8.cell qt_0
  replace qt_1 := hx8.cell qt_1
  replace pt := Nat.lt_of_lt_of_le pt hx8.size
  replace rt := Nat.lt_succ_of_lt pt
  replace qa_0 := hx8.cell qa_0
  replace qa_1 := hx8.cell qa_1
  replace pa := Nat.lt_of_lt_of_le pa hx8.size
  replace ra := Nat.lt_succ_of_lt pa
  replace qb_0 := hx8.cell qb_0
  replace qb_1 := hx8.cell qb_1
  replace pb := Nat.lt_of_lt_of_le pb hx8.size
  replace rb := Nat.lt_succ_of_lt pb
  replace qc_0 := hx8.cell qc_0
  replace qc_1 := hx8.cell qc_1
  replace pc := Nat.lt_of_lt_of_le pc hx8.size
  replace rc := Nat.lt_succ_of_lt pc
  replace qd_0 := hx8.cell qd_0
  replace qd_1 := hx8.cell qd_1
  replace pd := Nat.lt_of_lt_of_le pd hx8.size
  replace rd := Nat.lt_succ_of_lt pd
  replace qx_0 := hx8.cell qx_0
  replace qx_1 := hx8.cell qx_1
  replace qx_2 := hx8.cell qx_2
  replace px := Nat.lt_of_lt_of_le px hx8.size
  replace rx := Nat.lt_succ_of_lt px
  replace qy_0 := hx8.cell qy_0
  replace qy_1 := hx8.cell qy_1
  replace qy_2 := hx8.cell qy_2
  replace py := Nat.lt_of_lt_of_le py hx8.size
  replace ry := Nat.lt_succ_of_lt py
  replace qj_0 := hx8.cell qj_0
  replace qj_1 := hx8.cell qj_1
  replace pj := Nat.lt_of_lt_of_le pj hx8.size
  replace rj := Nat.lt_succ_of_lt pj
  clear hx8
  go_wp2_with fail
  with_reducible refine (live03 _).mono ?_
  rintro e w9 ⟨rfl, hb9⟩
  have hx9 : Ext w8 w9 := by repeat (first | with_reducible exact Ext.refl _ | with_reducible assumption | with_reducible refine Ext.alloc ?_ _ | with_reducible refine Ext.drew ?_ | with_reducible refine Ext.drewN ?_ _ | with_reducible refine Ext.setCell ?_ (by simp <;> omega) _ | with_reducible refine Ext.trans ?_ (by assumption))
  replace qt_0 := hx9.cell qt_0
  replace qt_1 := hx9.cell qt_1
  replace pt := Nat.lt_of_lt_of_le pt hx9.size
  replace rt := Nat.lt_succ_of_lt pt
  replace qa_0 := hx9.cell qa_0
  replace qa_1 := hx9.cell qa_1
  replace pa := Nat.lt_of_lt_of_le pa hx9.size
  replace ra := Nat.lt_succ_of_lt pa
  replace qb_0 := hx9.cell qb_0
  replace qb_1 := hx9.cell qb_1
  replace pb := Nat.lt_of_lt_of_le pb hx9.size
  replace rb := Nat.lt_succ_of_lt pb
  replace qc_0 := hx9.cell qc_0
  replace qc_1 := hx9.cell qc_1
  replace pc := Nat.lt_of_lt_of_le pc hx9.size
  replace rc := Nat.lt_succ_of_lt pc
  replace qd_0 := hx9.cell qd_0
  replace qd_1 := hx9.cell qd_1
  replace pd := Nat.lt_of_lt_of_le pd hx9.size
  replace rd := Nat.lt_succ_of_lt pd
  replace qx_0 := hx9.cell qx_0
  replace qx_1 := hx9.cell qx_1
  replace qx_2 := hx9.cell qx_2
  replace px := Nat.lt_of_lt_of_le px hx9.size
  replace rx := Nat.lt_succ_of_lt px
  replace qy_0 := hx9.cell qy_0
  replace qy_1 := hx9.cell qy_1
  replace qy_2 := hx9.cell qy_2
  replace py := Nat.lt_of_lt_of_le py hx9.size
  replace ry := Nat.lt_succ_of_lt py
  replace qj_0 := hx9.cell qj_0
  replace qj_1 := hx9.cell qj_1
  replace pj := Nat.lt_of_lt_of_le pj hx9.size
  replace rj := Nat.lt_succ_of_lt pj
  clear hx9
  go_wp2
  go_ret
  refine ⟨rfl, Ext.below ?_⟩
  repeat (first | with_reducible exact Ext.refl _ | with_reducible assumption | with_reducible refine Ext.alloc ?_ _ | with_reducible refine Ext.drew ?_ | with_reducible refine Ext.drewN ?_ _ | with_reducible refine Ext.setCell ?_ (by simp <;> omega) _ | with_reducible refine Ext.trans ?_ (by assumption))
set_option maxRecDepth 100000 in
theorem spanMeets_no (n m : Nat) (f g : Int) (w : World) (hn : n ≤ 60) (hm : m ≤ 60) (hf : 0 ≤ f) (hg : 0 ≤ g) (he : (f + (n : Int)) % 4294967296 ≠ g % 4294967296) :
    Calls Try.prog 4 #[.int .i64 n, .int .i64 m, .agg #[.int .u64 f, .int .u64 g]] w fun e w' => e = .returned (.bool true) ∧ Below w.heap.size w w' := by
  have kn : okN n = true := okN_of (by omega) (by omega)
  have km : okN m = true := okN_of (by omega) (by omega)
  have ks : okN ((n : Int) + (m : Int)) = true := okN_of (by omega) (by omega)
  have d1 : decide ((n : Int) < 0) = false := by simp
  have d2 : decide ((m : Int) < 0) = false := by simp
  have d3 : decide (60 < (n : Int)) = false := by simp; omega
  have d4 : decide (60 < (m : Int)) = false := by simp; omega
  have hd : (g % 4294967296 != (f % 4294967296 + (n : Int)) % 4294967296) = true := by simp; omega
  have de : ((f + (n : Int)) % 4294967296 == g % 4294967296) = false := by simpa using he
  have HD := Lib.hid hd
  clear hd he
  have c1 := fun w => sMeets32 (f % 4294967296) n (g % 4294967296) m w kn km
  have c2 := fun w => sMeets32 (g % 4294967296) m (f % 4294967296) n w km kn
  have c3 := fun w => rMeets32 (f % 4294967296) (g % 4294967296) n m w (by omega) (by omega)
  have c4 := fun w => sMeets64 f n g m w kn km
  have c5 := fun w => rMeets64 f g n m w (by omega) (by omega)
  rw [meetsB_comm ((f % 4294967296 - g % 4294967296) % 4294967296)] at c2
  generalize meetsB ((g % 4294967296 - f % 4294967296) % 4294967296) ((f % 4294967296 - g % 4294967296) % 4294967296) n m = b1 at c1 c2 c3
  generalize meetsB (U64 (g - f)) (U64 (f - g)) n m = b2 at c4 c5
  have C1 := Lib.hid c1
  have C2 := Lib.hid c2
  have C3 := Lib.hid c3
  have C4 := Lib.hid c4
  have C5 := Lib.hid c5
  clear c1 c2 c3 c4 c5
  go_enter Try.func4, Try.ntmps4
  go_wp2
  refine settle_wp ?_
  intro w1 hb1
  have qt_0 : w1.cell? ⟨w.heap.size, 0, none⟩ = some (.int .u64 f) := (hb1.cells.1 _ _ (by simp <;> omega)).trans (by simp [go_sem])
  have qt_1 : w1.cell? ⟨w.heap.size, 1, none⟩ = some (.int .u64 g) := (hb1.cells.1 _ _ (by simp <;> omega)).trans (by simp [go_sem])
  have pt := World.block_lt_of_cell? _ ⟨w.heap.size, 0, none⟩ qt_0
  have rt := Nat.lt_succ_of_lt pt
  refine wp_freeE [.quiet, .quiet, .quiet, .quiet, .quiet, .quiet, .quiet, .quiet, .new (.cells #[.int .u32 0, .int .i64 0] 29), .new (.cells #[.int .u32 0, .int .i64 0] 29), .set 8 (.cells #[.int .u32 (f % 4294967296), .int .i64 n] 29), .set 9 (.cells #[.int .u32 (g % 4294967296), .int .i64 m] 29)] [(8, 7), (9, 8)] 133 (by kernel_rfl) (by kernel_rfl) (by kernel_rfl) rfl ?hnew4 ?_
  case hnew4 =>
    intro i o op hr ho ρ w
    match i, hr, ho with
    | 0, hr, ho => exact absurd hr (by intro h; cases h)
    | 1, hr, ho => exact absurd hr (by intro h; cases h)
    | 2, hr, ho => exact absurd hr (by intro h; cases h)
    | 3, hr, ho => exact absurd hr (by intro h; cases h)
    | 4, hr, ho => exact absurd hr (by intro h; cases h)
    | 5, hr, ho => exact absurd hr (by intro h; cases h)
    | 6, hr, ho => exact absurd hr (by intro h; cases h)
    | 7, hr, ho => exact absurd hr (by intro h; cases h)
    | 8, hr, ho => cases hr; cases ho; simp [go_sem]
    | 9, hr, ho => cases hr; cases ho; simp [go_sem]
    | 10, hr, ho => exact absurd hr (by intro h; cases h)
    | 11, hr, ho => exact absurd hr (by intro h; cases h)
    | i + 12, hr, ho => exact absurd hr (by intro h; cases h)
  apply Exists.intro
  refine ⟨?hwalk4, ?hset4, ?_⟩
  case hwalk4 =>
    intro F hF g0
    have hconst : ∀ p : Prop, (LaterF _ F → p) ↔ p := fun p => ⟨fun h => h g0, fun h _ => h⟩
    have lt_0 := fun (g : LaterF w1 F) => g.ok.cell qt_0
    have lt_1 := fun (g : LaterF w1 F) => g.ok.cell qt_1
    simp only [keepQ]
    repeat (go_big_quiet_step ((fail)))
    go_big_quiet_step ((go_at_call 10; exact laterFC hF (small03 _ _ _)))
    repeat (go_big_quiet_step ((fail)))
    go_big_quiet_step ((go_at_call 10; exact laterFC hF (small03 _ _ _)))
    repeat (go_big_quiet_step ((fail)))
    exact wpQuiet_nil rfl
  case hset4 =>
    intro B i s o' op hr ho o hz w hw
    match i, hr, ho with
    | 0, hr, ho => exact absurd hr (by intro h; cases h)
    | 1, hr, ho => exact absurd hr (by intro h; cases h)
    | 2, hr, ho => exact absurd hr (by intro h; cases h)
    | 3, hr, ho => exact absurd hr (by intro h; cases h)
    | 4, hr, ho => exact absurd hr (by intro h; cases h)
    | 5, hr, ho => exact absurd hr (by intro h; cases h)
    | 6, hr, ho => exact absurd hr (by intro h; cases h)
    | 7, hr, ho => exact absurd hr (by intro h; cases h)
    | 8, hr, ho => exact absurd hr (by intro h; cases h)
    | 9, hr, ho => exact absurd hr (by intro h; cases h)
    | 10, hr, ho => cases hr; cases ho; cases hz; obtain ⟨⟨c0, c1⟩, ⟨z0, z1⟩, hh, hbut⟩ := store2 (.int .u32 (f % 4294967296)) (.int .i64 n) hw; exact ⟨.skip, _, by simp [go_sem, withNews, Act.put, c0, c1, z0, z1], .inl rfl, hh, hbut⟩
    | 11, hr, ho => cases hr; cases ho; cases hz; obtain ⟨⟨c0, c1⟩, ⟨z0, z1⟩, hh, hbut⟩ := store2 (.int .u32 (g % 4294967296)) (.int .i64 m) hw; exact ⟨.skip, _, by simp [go_sem, withNews, Act.put, c0, c1, z0, z1], .inl rfl, hh, hbut⟩
    | i + 12, hr, ho => exact absurd hr (by intro h; cases h)
  intro B w2 hb2 hN4
  have hha : w2.heap[B 8]? = some (.cells #[.int .u32 (f % 4294967296), .int .i64 n] 29) := hN4.holds 8 _ rfl rfl
  have hya : w1.heap.size ≤ B 8 := hN4.beyond 8 _ rfl rfl
  have hhb : w2.heap[B 9]? = some (.cells #[.int .u32 (g % 4294967296), .int .i64 m] 29) := hN4.holds 9 _ rfl rfl
  have hyb : w1.heap.size ≤ B 9 := hN4.beyond 9 _ rfl rfl
  have hneab : B 8 ≠ B 9 := hN4.apart 8 9 _ _ rfl rfl rfl rfl (by decide)
  clear hN4
  simp only [withNews, List.foldl_cons, List.foldl_nil, Act.put, List.setIfInBounds_toArray, List.set_cons_succ, List.set_cons_zero]
  generalize B 8 = bka at *
  generalize B 9 = bkb at *
  have hx2 : Ext w1 w2 := by repeat (first | with_reducible exact Ext.refl _ | with_reducible assumption | with_reducible refine Ext.alloc ?_ _ | with_reducible refine Ext.drew ?_ | with_reducible refine Ext.drewN ?_ _ | with_reducible refine Ext.setCell ?_ (by simp <;> omega) _ | with_reducible refine Ext.trans ?_ (by assumption))
  replace qt_0 := hx2.cell qt_0
  replace qt_1 := hx2.cell qt_1
  replace pt := Nat.lt_of_lt_of_le pt hx2.size
  replace rt := Nat.lt_succ_of_lt pt
  clear hx2
  have qa_0 := (cell_of_heap (j := 0) (v := .int .u32 (f % 4294967296)) hha rfl).1
  have qa_1 := (cell_of_heap (j := 1) (v := .int .i64 n) hha rfl).1
  have pa := World.block_lt_of_cell? _ ⟨bka, 0, none⟩ qa_0
  have ra := Nat.lt_succ_of_lt pa
  clear hha hya
  have qb_0 := (cell_of_heap (j := 0) (v := .int .u32 (g % 4294967296)) hhb rfl).1
  have qb_1 := (cell_of_heap (j := 1) (v := .int .i64 m) hhb rfl).1
  have pb := World.block_lt_of_cell? _ ⟨bkb, 0, none⟩ qb_0
  have rb := Nat.lt_succ_of_lt pb
  clear hhb hyb
  go_wp2
  refine wp_freeE [.quiet, .quiet, .quiet, .quiet, .quiet, .quiet, .quiet, .quiet, .new (.cells #[.int .u64 0, .int .i64 0] 32), .new (.cells #[.int .u64 0, .int .i64 0] 32), .set 8 (.cells #[.int .u64 f, .int .i64 n] 32), .set 9 (.cells #[.int .u64 g, .int .i64 m] 32)] [(8, 9), (9, 10)] 133 (by kernel_rfl) (by kernel_rfl) (by kernel_rfl) rfl ?hnew5 ?_
  case hnew5 =>
    intro i o op hr ho ρ w
    match i, hr, ho with
    | 0, hr, ho => exact absurd hr (by intro h; cases h)
    | 1, hr, ho => exact absurd hr (by intro h; cases h)
    | 2, hr, ho => exact absurd hr (by intro h; cases h)
    | 3, hr, ho => exact absurd hr (by intro h; cases h)
    | 4, hr, ho => exact absurd hr (by intro h; cases h)
    | 5, hr, ho => exact absurd hr (by intro h; cases h)
    | 6, hr, ho => exact absurd hr (by intro h; cases h)
    | 7, hr, ho => exact absurd hr (by intro h; cases h)
    | 8, hr, ho => cases hr; cases ho; simp [go_sem]
    | 9, hr, ho => cases hr; cases ho; simp [go_sem]
    | 10, hr, ho => exact absurd hr (by intro h; cases h)
    | 11, hr, ho => exact absurd hr (by intro h; cases h)
    | i + 12, hr, ho => exact absurd hr (by intro h; cases h)
  apply Exists.intro
  refine ⟨?hwalk5, ?hset5, ?_⟩
  case hwalk5 =>
    intro F hF g0
    have hconst : ∀ p : Prop, (LaterF _ F → p) ↔ p := fun p => ⟨fun h => h g0, fun h _ => h⟩
    have lt_0 := fun (g : LaterF w2 F) => g.ok.cell qt_0
    have lt_1 := fun (g : LaterF w2 F) => g.ok.cell qt_1
    have la_0 := fun (g : LaterF w2 F) => g.ok.cell qa_0
    have la_1 := fun (g : LaterF w2 F) => g.ok.cell qa_1
    have lb_0 := fun (g : LaterF w2 F) => g.ok.cell qb_0
    have lb_1 := fun (g : LaterF w2 F) => g.ok.cell qb_1
    simp only [keepQ]
    repeat (go_big_quiet_step ((fail)))
    go_big_quiet_step ((go_at_call 11; exact laterFC hF (great03 _ _ _)))
    repeat (go_big_quiet_step ((fail)))
    go_big_quiet_step ((go_at_call 11; exact laterFC hF (great03 _ _ _)))
    repeat (go_big_quiet_step ((fail)))
    exact wpQuiet_nil rfl
  case hset5 =>
    intro B i s o' op hr ho o hz w hw
    match i, hr, ho with
    | 0, hr, ho => exact absurd hr (by intro h; cases h)
    | 1, hr, ho => exact absurd hr (by intro h; cases h)
    | 2, hr, ho => exact absurd hr (by intro h; cases h)
    | 3, hr, ho => exact absurd hr (by intro h; cases h)
    | 4, hr, ho => exact absurd hr (by intro h; cases h)
    | 5, hr, ho => exact absurd hr (by intro h; cases h)
    | 6, hr, ho => exact absurd hr (by intro h; cases h)
    | 7, hr, ho => exact absurd hr (by intro h; cases h)
    | 8, hr, ho => exact absurd hr (by intro h; cases h)
    | 9, hr, ho => exact absurd hr (by intro h; cases h)
    | 10, hr, ho => cases hr; cases ho; cases hz; obtain ⟨⟨c0, c1⟩, ⟨z0, z1⟩, hh, hbut⟩ := store2 (.int .u64 f) (.int .i64 n) hw; exact ⟨.skip, _, by simp [go_sem, withNews, Act.put, c0, c1, z0, z1], .inl rfl, hh, hbut⟩
    | 11, hr, ho => cases hr; cases ho; cases hz; obtain ⟨⟨c0, c1⟩, ⟨z0, z1⟩, hh, hbut⟩ := store2 (.int .u64 g) (.int .i64 m) hw; exact ⟨.skip, _, by simp [go_sem, withNews, Act.put, c0, c1, z0, z1], .inl rfl, hh, hbut⟩
    | i + 12, hr, ho => exact absurd hr (by intro h; cases h)
  intro B w3 hb3 hN5
  have hhc : w3.heap[B 8]? = some (.cells #[.int .u64 f, .int .i64 n] 32) := hN5.holds 8 _ rfl rfl
  have hyc : w2.heap.size ≤ B 8 := hN5.beyond 8 _ rfl rfl
  have hhd : w3.heap[B 9]? = some (.cells #[.int .u64 g, .int .i64 m] 32) := hN5.holds 9 _ rfl rfl
  have hyd : w2.heap.size ≤ B 9 := hN5.beyond 9 _ rfl rfl
  have hnecd : B 8 ≠ B 9 := hN5.apart 8 9 _ _ rfl rfl rfl rfl (by decide)
  clear hN5
  simp only [withNews, List.foldl_cons, List.foldl_nil, Act.put, List.setIfInBounds_toArray, List.set_cons_succ, List.set_cons_zero]
  generalize B 8 = bkc at *
  generalize B 9 = bkd at *
  have hx3 : Ext w2 w3 := by repeat (first | with_reducible exact Ext.refl _ | with_reducible assumption | with_reducible refine Ext.alloc ?_ _ | with_reducible refine Ext.drew ?_ | with_reducible refine Ext.drewN ?_ _ | with_reducible refine Ext.setCell ?_ (by simp <;> omega) _ | with_reducible refine Ext.trans ?_ (by assumption))
  replace qt_0 := hx3.cell qt_0
  replace qt_1 := hx3.cell qt_1
  replace pt := Nat.lt_of_lt_of_le pt hx3.size
  replace rt := Nat.lt_succ_of_lt pt
  replace qa_0 := hx3.cell qa_0
  replace qa_1 := hx3.cell qa_1
  replace pa := Nat.lt_of_lt_of_le pa hx3.size
  replace ra := Nat.lt_succ_of_lt pa
  replace qb_0 := hx3.cell qb_0
  replace qb_1 := hx3.cell qb_1
  replace pb := Nat.lt_of_lt_of_le pb hx3.size
  replace rb := Nat.lt_succ_of_lt pb
  clear hx3
  have qc_0 := (cell_of_heap (j := 0) (v := .int .u64 f) hhc rfl).1
  have qc_1 := (cell_of_heap (j := 1) (v := .int .i64 n) hhc rfl).1
  have pc := World.block_lt_of_cell? _ ⟨bkc, 0, none⟩ qc_0
  have rc := Nat.lt_succ_of_lt pc
  clear hhc hyc
  have qd_0 := (cell_of_heap (j := 0) (v := .int .u64 g) hhd rfl).1
  have qd_1 := (cell_of_heap (j := 1) (v := .int .i64 m) hhd rfl).1
  have pd := World.block_lt_of_cell? _ ⟨bkd, 0, none⟩ qd_0
  have rd := Nat.lt_succ_of_lt pd
  clear hhd hyd
  go_wp2
  refine wp_freeE [.quiet, .quiet, .quiet, .quiet, .quiet, .quiet, .quiet, .quiet, .quiet, .quiet, .new (.cells #[.int .i64 0, .int .u64 0, .int .i64 0] 36), .new (.cells #[.int .i64 0, .int .u64 0, .int .i64 0] 36), .set 10 (.cells #[.int .i64 32, .int .u64 (f % 4294967296), .int .i64 n] 36), .set 11 (.cells #[.int .i64 32, .int .u64 (g % 4294967296), .int .i64 m] 36)] [(10, 11), (11, 12)] 133 (by kernel_rfl) (by kernel_rfl) (by kernel_rfl) rfl ?hnew6 ?_
  case hnew6 =>
    intro i o op hr ho ρ w
    match i, hr, ho with
    | 0, hr, ho => exact absurd hr (by intro h; cases h)
    | 1, hr, ho => exact absurd hr (by intro h; cases h)
    | 2, hr, ho => exact absurd hr (by intro h; cases h)
    | 3, hr, ho => exact absurd hr (by intro h; cases h)
    | 4, hr, ho => exact absurd hr (by intro h; cases h)
    | 5, hr, ho => exact absurd hr (by intro h; cases h)
    | 6, hr, ho => exact absurd hr (by intro h; cases h)
    | 7, hr, ho => exact absurd hr (by intro h; cases h)
    | 8, hr, ho => exact absurd hr (by intro h; cases h)
    | 9, hr, ho => exact absurd hr (by intro h; cases h)
    | 10, hr, ho => cases hr; cases ho; simp [go_sem]
    | 11, hr, ho => cases hr; cases ho; simp [go_sem]
    | 12, hr, ho => exact absurd hr (by intro h; cases h)
    | 13, hr, ho => exact absurd hr (by intro h; cases h)
    | i + 14, hr, ho => exact absurd hr (by intro h; cases h)
  apply Exists.intro
  refine ⟨?hwalk6, ?hset6, ?_⟩
  case hwalk6 =>
    intro F hF g0
    have hconst : ∀ p : Prop, (LaterF _ F → p) ↔ p := fun p => ⟨fun h => h g0, fun h _ => h⟩
    have lt_0 := fun (g : LaterF w3 F) => g.ok.cell qt_0
    have lt_1 := fun (g : LaterF w3 F) => g.ok.cell qt_1
    have la_0 := fun (g : LaterF w3 F) => g.ok.cell qa_0
    have la_1 := fun (g : LaterF w3 F) => g.ok.cell qa_1
    have lb_0 := fun (g : LaterF w3 F) => g.ok.cell qb_0
    have lb_1 := fun (g : LaterF w3 F) => g.ok.cell qb_1
    have lc_0 := fun (g : LaterF w3 F) => g.ok.cell qc_0
    have lc_1 := fun (g : LaterF w3 F) => g.ok.cell qc_1
    have ld_0 := fun (g : LaterF w3 F) => g.ok.cell qd_0
    have ld_1 := fun (g : LaterF w3 F) => g.ok.cell qd_1
    simp only [keepQ]
    repeat (go_big_quiet_step ((fail)))
    go_big_quiet_step ((go_at_call 12; exact laterFS (rCut_32 _ _ hf)))
    repeat (go_big_quiet_step ((fail)))
    go_big_quiet_step ((go_at_call 12; exact laterFS (rCut_32 _ _ hg)))
    repeat (go_big_quiet_step ((fail)))
    exact wpQuiet_nil rfl
  case hset6 =>
    intro B i s o' op hr ho o hz w hw
    match i, hr, ho with
    | 0, hr, ho => exact absurd hr (by intro h; cases h)
    | 1, hr, ho => exact absurd hr (by intro h; cases h)
    | 2, hr, ho => exact absurd hr (by intro h; cases h)
    | 3, hr, ho => exact absurd hr (by intro h; cases h)
    | 4, hr, ho => exact absurd hr (by intro h; cases h)
    | 5, hr, ho => exact absurd hr (by intro h; cases h)
    | 6, hr, ho => exact absurd hr (by intro h; cases h)
    | 7, hr, ho => exact absurd hr (by intro h; cases h)
    | 8, hr, ho => exact absurd hr (by intro h; cases h)
    | 9, hr, ho => exact absurd hr (by intro h; cases h)
    | 10, hr, ho => exact absurd hr (by intro h; cases h)
    | 11, hr, ho => exact absurd hr (by intro h; cases h)
    | 12, hr, ho => cases hr; cases ho; cases hz; obtain ⟨⟨c0, c1, c2⟩, ⟨z0, z1, z2⟩, hh, hbut⟩ := store3 (.int .i64 32) (.int .u64 (f % 4294967296)) (.int .i64 n) hw; exact ⟨.skip, _, by simp [go_sem, withNews, Act.put, c0, c1, c2, z0, z1, z2], .inl rfl, hh, hbut⟩
    | 13, hr, ho => cases hr; cases ho; cases hz; obtain ⟨⟨c0, c1, c2⟩, ⟨z0, z1, z2⟩, hh, hbut⟩ := store3 (.int .i64 32) (.int .u64 (g % 4294967296)) (.int .i64 m) hw; exact ⟨.skip, _, by simp [go_sem, withNews, Act.put, c0, c1, c2, z0, z1, z2], .inl rfl, hh, hbut⟩
    | i + 14, hr, ho => exact absurd hr (by intro h; cases h)
  intro B w4 hb4 hN6
  have hhx : w4.heap[B 10]? = some (.cells #[.int .i64 32, .int .u64 (f % 4294967296), .int .i64 n] 36) := hN6.holds 10 _ rfl rfl
  have hyx : w3.heap.size ≤ B 10 := hN6.beyond 10 _ rfl rfl
  have hhy : w4.heap[B 11]? = some (.cells #[.int .i64 32, .int .u64 (g % 4294967296), .int .i64 m] 36) := hN6.holds 11 _ rfl rfl
  have hyy : w3.heap.size ≤ B 11 := hN6.beyond 11 _ rfl rfl
  have hnexy : B 10 ≠ B 11 := hN6.apart 10 11 _ _ rfl rfl rfl rfl (by decide)
  clear hN6
  simp only [withNews, List.foldl_cons, List.foldl_nil, Act.put, List.setIfInBounds_toArray, List.set_cons_succ, List.set_cons_zero]
  generalize B 10 = bkx at *
  generalize B 11 = bky at *
  have hx4 : Ext w3 w4 := by repeat (first | with_reducible exact Ext.refl _ | with_reducible assumption | with_reducible refine Ext.alloc ?_ _ | with_reducible refine Ext.drew ?_ | with_reducible refine Ext.drewN ?_ _ | with_reducible refine Ext.setCell ?_ (by simp <;> omega) _ | with_reducible refine Ext.trans ?_ (by assumption))
  replace qt_0 := hx4.cell qt_0
  replace qt_1 := hx4.cell qt_1
  replace pt := Nat.lt_of_lt_of_le pt hx4.size
  replace rt := Nat.lt_succ_of_lt pt
  replace qa_0 := hx4.cell qa_0
  replace qa_1 := hx4.cell qa_1
  replace pa := Nat.lt_of_lt_of_le pa hx4.size
  replace ra := Nat.lt_succ_of_lt pa
  replace qb_0 := hx4.cell qb_0
  replace qb_1 := hx4.cell qb_1
  replace pb := Nat.lt_of_lt_of_le pb hx4.size
  replace rb := Nat.lt_succ_of_lt pb
  replace qc_0 := hx4.cell qc_0
  replace qc_1 := hx4.cell qc_1
  replace pc := Nat.lt_of_lt_of_le pc hx4.size
  replace rc := Nat.lt_succ_of_lt pc
  replace qd_0 := hx4.cell qd_0
  replace qd_1 := hx4.cell qd_1
  replace pd := Nat.lt_of_lt_of_le pd hx4.size
  replace rd := Nat.lt_succ_of_lt pd
  clear hx4
  have qx_0 := (cell_of_heap (j := 0) (v := .int .i64 32) hhx rfl).1
  have qx_1 := (cell_of_heap (j := 1) (v := .int .u64 (f % 4294967296)) hhx rfl).1
  have qx_2 := (cell_of_heap (j := 2) (v := .int .i64 n) hhx rfl).1
  have px := World.block_lt_of_cell? _ ⟨bkx, 0, none⟩ qx_0
  have rx := Nat.lt_succ_of_lt px
  clear hhx hyx
  have qy_0 := (cell_of_heap (j := 0) (v := .int .i64 32) hhy rfl).1
  have qy_1 := (cell_of_heap (j := 1) (v := .int .u64 (g % 4294967296)) hhy rfl).1
  have qy_2 := (cell_of_heap (j := 2) (v := .int .i64 m) hhy rfl).1
  have py := World.block_lt_of_cell? _ ⟨bky, 0, none⟩ qy_0
  have ry := Nat.lt_succ_of_lt py
  clear hhy hyy
  go_wp2
  refine wp_region_later (by kernel_rfl) (by kernel_rfl) ?_
  have lt_0 := fun (g : Later w4) => g.ok.cell qt_0
  have lt_1 := fun (g : Later w4) => g.ok.cell qt_1
  have la_0 := fun (g : Later w4) => g.ok.cell qa_0
  have la_1 := fun (g : Later w4) => g.ok.cell qa_1
  have lb_0 := fun (g : Later w4) => g.ok.cell qb_0
  have lb_1 := fun (g : Later w4) => g.ok.cell qb_1
  have lc_0 := fun (g : Later w4) => g.ok.cell qc_0
  have lc_1 := fun (g : Later w4) => g.ok.cell qc_1
  have ld_0 := fun (g : Later w4) => g.ok.cell qd_0
  have ld_1 := fun (g : Later w4) => g.ok.cell qd_1
  have lx_0 := fun (g : Later w4) => g.ok.cell qx_0
  have lx_1 := fun (g : Later w4) => g.ok.cell qx_1
  have lx_2 := fun (g : Later w4) => g.ok.cell qx_2
  have ly_0 := fun (g : Later w4) => g.ok.cell qy_0
  have ly_1 := fun (g : Later w4) => g.ok.cell qy_1
  have ly_2 := fun (g : Later w4) => g.ok.cell qy_2
  repeat (go_big_quiet_step ((fail)))
  go_big_quiet_step ((go_at_call 25; exact laterC (C1.out _)))
  repeat (go_big_quiet_step ((fail)))
  go_big_quiet_step ((go_at_call 26; exact laterC (C3.out _)))
  repeat (go_big_quiet_step ((fail)))
  go_big_quiet_step ((go_at_call 25; exact laterC (C2.out _)))
  repeat (go_big_quiet_step ((fail)))
  go_big_quiet_step ((go_at_call 25; exact laterC (C1.out _)))
  repeat (go_big_quiet_step ((fail)))
  go_big_quiet_step ((go_at_call 27; exact laterC (C4.out _)))
  repeat (go_big_quiet_step ((fail)))
  go_big_quiet_step ((go_at_call 26; exact laterC (C5.out _)))
  repeat (go_big_quiet_step ((fail)))
  refine wpQuiet_nil ?_
  intro w5 hl5
  have hb5 := laters_ext hl5
  clear hl5 lt_0 lt_1 la_0 la_1 lb_0 lb_1 lc_0 lc_1 ld_0 ld_1 lx_0 lx_1 lx_2 ly_0 ly_1 ly_2
  have hx5 : Ext w4 w5 := by repeat (first | with_reducible exact Ext.refl _ | with_reducible assumption | with_reducible refine Ext.alloc ?_ _ | with_reducible refine Ext.drew ?_ | with_reducible refine Ext.drewN ?_ _ | with_reducible refine Ext.setCell ?_ (by simp <;> omega) _ | with_reducible refine Ext.trans ?_ (by assumption))
  replace qt_0 := hx5.cell qt_0
  replace qt_1 := hx5.cell qt_1
  replace pt := Nat.lt_of_lt_of_le pt hx5.size
  replace rt := Nat.lt_succ_of_lt pt
  replace qa_0 := hx5.cell qa_0
  replace qa_1 := hx5.cell qa_1
  replace pa := Nat.lt_of_lt_of_le pa hx5.size
  replace ra := Nat.lt_succ_of_lt pa
  replace qb_0 := hx5.cell qb_0
  replace qb_1 := hx5.cell qb_1
  replace pb := Nat.lt_of_lt_of_le pb hx5.size
  replace rb := Nat.lt_succ_of_lt pb
  replace qc_0 := hx5.cell qc_0
  replace qc_1 := hx5.cell qc_1
  replace pc := Nat.lt_of_lt_of_le pc hx5.size
  replace rc := Nat.lt_succ_of_lt pc
  replace qd_0 := hx5.cell qd_0
  replace qd_1 := hx5.cell qd_1
  replace pd := Nat.lt_of_lt_of_le pd hx5.size
  replace rd := Nat.lt_succ_of_lt pd
  replace qx_0 := hx5.cell qx_0
  replace qx_1 := hx5.cell qx_1
  replace qx_2 := hx5.cell qx_2
  replace px := Nat.lt_of_lt_of_le px hx5.size
  replace rx := Nat.lt_succ_of_lt px
  replace qy_0 := hx5.cell qy_0
  replace qy_1 := hx5.cell qy_1
  replace qy_2 := hx5.cell qy_2
  replace py := Nat.lt_of_lt_of_le py hx5.size
  replace ry := Nat.lt_succ_of_lt py
  clear hx5
  go_wp2_with fail
  with_reducible refine (sJoin32_apart _ _ _ _ _ kn km HD.out).mono ?_
  rintro e w6 ⟨rfl, hb6⟩
  have hx6 : Ext w5 w6 := by repeat (first | with_reducible exact Ext.refl _ | with_reducible assumption | with_reducible refine Ext.alloc ?_ _ | with_reducible refine Ext.drew ?_ | with_reducible refine Ext.drewN ?_ _ | with_reducible refine Ext.setCell ?_ (by simp <;> omega) _ | with_reducible refine Ext.trans ?_ (by assumption))
  replace qt_0 := hx6.cell qt_0
  replace qt_1 := hx6.cell qt_1
  replace pt := Nat.lt_of_lt_of_le pt hx6.size
  replace rt := Nat.lt_succ_of_lt pt
  replace qa_0 := hx6.cell qa_0
  replace qa_1 := hx6.cell qa_1
  replace pa := Nat.lt_of_lt_of_le pa hx6.size
  replace ra := Nat.lt_succ_of_lt pa
  replace qb_0 := hx6.cell qb_0
  replace qb_1 := hx6.cell qb_1
  replace pb := Nat.lt_of_lt_of_le pb hx6.size
  replace rb := Nat.lt_succ_of_lt pb
  replace qc_0 := hx6.cell qc_0
  replace qc_1 := hx6.cell qc_1
  replace pc := Nat.lt_of_lt_of_le pc hx6.size
  replace rc := Nat.lt_succ_of_lt pc
  replace qd_0 := hx6.cell qd_0
  replace qd_1 := hx6.cell qd_1
  replace pd := Nat.lt_of_lt_of_le pd hx6.size
  replace rd := Nat.lt_succ_of_lt pd
  replace qx_0 := hx6.cell qx_0
  replace qx_1 := hx6.cell qx_1
  replace qx_2 := hx6.cell qx_2
  replace px := Nat.lt_of_lt_of_le px hx6.size
  replace rx := Nat.lt_succ_of_lt px
  replace qy_0 := hx6.cell qy_0
  replace qy_1 := hx6.cell qy_1
  replace qy_2 := hx6.cell qy_2
  replace py := Nat.lt_of_lt_of_le py hx6.size
  replace ry := Nat.lt_succ_of_lt py
  clear hx6
  go_wp2
  refine settle_wp ?_
  intro w7 hb7
  have hx7 : Ext w6 w7 := by repeat (first | with_reducible exact Ext.refl _ | with_reducible assumption | with_reducible refine Ext.alloc ?_ _ | with_reducible refine Ext.drew ?_ | with_reducible refine Ext.drewN ?_ _ | with_reducible refine Ext.setCell ?_ (by simp <;> omega) _ | with_reducible refine Ext.trans ?_ (by assumption))
  replace qt_0 := hx7.cell qt_0
  replace qt_1 := hx7.cell qt_1
  replace pt := Nat.lt_of_lt_of_le pt hx7.size
  replace rt := Nat.lt_succ_of_lt pt
  replace qa_0 := hx7.cell qa_0
  replace qa_1 := hx7.cell qa_1
  replace pa := Nat.lt_of_lt_of_le pa hx7.size
  replace ra := Nat.lt_succ_of_lt pa
  replace qb_0 := hx7.cell qb_0
  replace qb_1 := hx7.cell qb_1
  replace pb := Nat.lt_of_lt_of_le pb hx7.size
  replace rb := Nat.lt_succ_of_lt pb
  replace qc_0 := hx7.cell qc_0
  replace qc_1 := hx7.cell qc_1
  replace pc := Nat.lt_of_lt_of_le pc hx7.size
  replace rc := Nat.lt_succ_of_lt pc
  replace qd_0 := hx7.cell qd_0
  replace qd_1 := hx7.cell qd_1
  replace pd := Nat.lt_of_lt_of_le pd hx7.size
  replace rd := Nat.lt_succ_of_lt pd
  replace qx_0 := hx7.cell qx_0
  replace qx_1 := hx7.cell qx_1
  replace qx_2 := hx7.cell qx_2
  replace px := Nat.lt_of_lt_of_le px hx7.size
  replace rx := Nat.lt_succ_of_lt px
  replace qy_0 := hx7.cell qy_0
  replace qy_1 := hx7.cell qy_1
  replace qy_2 := hx7.cell qy_2
  replace py := Nat.lt_of_lt_of_le py hx7.size
  replace ry := Nat.lt_succ_of_lt py
  clear hx7
  have qj_0 : w7.cell? ⟨w6.heap.size, 0, none⟩ = some (.int .u32 0) := (hb7.cells.1 _ _ (by simp <;> omega)).trans (by simp [go_sem])
  have qj_1 : w7.cell? ⟨w6.heap.size, 1, none⟩ = some (.int .i64 0) := (hb7.cells.1 _ _ (by simp <;> omega)).trans (by simp [go_sem])
  have pj := World.block_lt_of_cell? _ ⟨w6.heap.size, 0, none⟩ qj_0
  have rj := Nat.lt_succ_of_lt pj
  go_wp2
  refine wp_region_later (by kernel_rfl) (by kernel_rfl) ?_
  have lt_0 := fun (g : Later w7) => g.ok.cell qt_0
  have lt_1 := fun (g : Later w7) => g.ok.cell qt_1
  have la_0 := fun (g : Later w7) => g.ok.cell qa_0
  have la_1 := fun (g : Later w7) => g.ok.cell qa_1
  have lb_0 := fun (g : Later w7) => g.ok.cell qb_0
  have lb_1 := fun (g : Later w7) => g.ok.cell qb_1
  have lc_0 := fun (g : Later w7) => g.ok.cell qc_0
  have lc_1 := fun (g : Later w7) => g.ok.cell qc_1
  have ld_0 := fun (g : Later w7) => g.ok.cell qd_0
  have ld_1 := fun (g : Later w7) => g.ok.cell qd_1
  have lx_0 := fun (g : Later w7) => g.ok.cell qx_0
  have lx_1 := fun (g : Later w7) => g.ok.cell qx_1
  have lx_2 := fun (g : Later w7) => g.ok.cell qx_2
  have ly_0 := fun (g : Later w7) => g.ok.cell qy_0
  have ly_1 := fun (g : Later w7) => g.ok.cell qy_1
  have ly_2 := fun (g : Later w7) => g.ok.cell qy_2
  have lj_0 := fun (g : Later w7) => g.ok.cell qj_0
  have lj_1 := fun (g : Later w7) => g.ok.cell qj_1
  repeat (go_big_quiet_step ((fail)))
  go_big_quiet_step ((go_at_call 22; exact laterS (rPlus_32 _ _ _)))
  repeat (go_big_quiet_step ((fail)))
  refine wpQuiet_nil ?_
  intro w8 hl8
  have hb8 := laters_ext hl8
  clear hl8 lt_0 lt_1 la_0 la_1 lb_0 lb_1 lc_0 lc_1 ld_0 ld_1 lx_0 lx_1 lx_2 ly_0 ly_1 ly_2 lj_0 lj_1
  have hx8 : Ext w7 w8 := by repeat (first | with_reducible exact Ext.refl _ | with_reducible assumption | with_reducible refine Ext.alloc ?_ _ | with_reducible refine Ext.drew ?_ | with_reducible refine Ext.drewN ?_ _ | with_reducible refine Ext.setCell ?_ (by simp <;> omega) _ | with_reducible refine Ext.trans ?_ (by assumption))
  replace qt_0 := hx8.cell qt_0
  replace qt_1 := hx8.cell qt_1
  replace pt := Nat.lt_of_lt_of_le pt hx8.size
  replace rt := Nat.lt_succ_of_lt pt
  replace qa_0 := hx8.cell qa_0
  replace qa_1 := hx8.cell qa_1
  replace pa := Nat.lt_of_lt_of_le pa hx8.size
  replace ra := Nat.lt_succ_of_lt pa
  replace qb_0 := hx8.cell qb_0
  replace qb_1 := hx8.cell qb_1
  replace pb := Nat.lt_of_lt_of_le pb hx8.size
  replace rb := Nat.lt_succ_of_lt pb
  replace qc_0 := hx8.cell qc_0
  replace qc_1 := hx8.cell qc_1
  replace pc := Nat.lt_of_lt_of_le pc hx8.size
  replace rc := Nat.lt_succ_of_lt pc
  replace qd_0 := hx8.cell qd_0
  replace qd_1 := hx8.cell qd_1
  replace pd := Nat.lt_of_lt_of_le pd hx8.size
  replace rd := Nat.lt_succ_of_lt pd
  replace qx_0 := hx8.cell qx_0
  replace qx_1 := hx8.cell qx_1
  replace qx_2 := hx8.cell qx_2
  replace px := Nat.lt_of_lt_of_le px hx8.size
  replace rx := Nat.lt_succ_of_lt px
  replace qy_0 := hx8.cell qy_0
  replace qy_1 := hx8.cell qy_1
  replace qy_2 := hx8.cell qy_2
  replace py := Nat.lt_of_lt_of_le py hx8.size
  replace ry := Nat.lt_succ_of_lt py
  replace qj_0 := hx8.cell qj_0
  replace qj_1 := hx8.cell qj_1
  replace pj := Nat.lt_of_lt_of_le pj hx8.size
  replace rj := Nat.lt_succ_of_lt pj
  clear hx8
  go_wp2_with fail
  with_reducible refine (live03 _).mono ?_
  rintro e w9 ⟨rfl, hb9⟩
  have hx9 : Ext w8 w9 := by repeat (first | with_reducible exact Ext.refl _ | with_reducible assumption | with_reducible refine Ext.alloc ?_ _ | with_reducible refine Ext.drew ?_ | with_reducible refine Ext.drewN ?_ _ | with_reducible refine Ext.setCell ?_ (by simp <;> omega) _ | with_reducible refine Ext.trans ?_ (by assumption))
  replace qt_0 := hx9.cell qt_0
  replace qt_1 := hx9.cell qt_1
  replace pt := Nat.lt_of_lt_of_le pt hx9.size
  replace rt := Nat.lt_succ_of_lt pt
  replace qa_0 := hx9.cell qa_0
  replace qa_1 := hx9.cell qa_1
  replace pa := Nat.lt_of_lt_of_le pa hx9.size
  replace ra := Nat.lt_succ_of_lt pa
  replace qb_0 := hx9.cell qb_0
  replace qb_1 := hx9.cell qb_1
  replace pb := Nat.lt_of_lt_of_le pb hx9.size
  replace rb := Nat.lt_succ_of_lt pb
  replace qc_0 := hx9.cell qc_0
  replace qc_1 := hx9.cell qc_1
  replace pc := Nat.lt_of_lt_of_le pc hx9.size
  replace rc := Nat.lt_succ_of_lt pc
  replace qd_0 := hx9.cell qd_0
  replace qd_1 := hx9.cell qd_1
  replace pd := Nat.lt_of_lt_of_le pd hx9.size
  replace rd := Nat.lt_succ_of_lt pd
  replace qx_0 := hx9.cell qx_0
  replace qx_1 := hx9.cell qx_1
  replace qx_2 := hx9.cell qx_2
  replace px := Nat.lt_of_lt_of_le px hx9.size
  replace rx := Nat.lt_succ_of_lt px
  replace qy_0 := hx9.cell qy_0
  replace qy_1 := hx9.cell qy_1
  replace qy_2 := hx9.cell qy_2
  replace py := Nat.lt_of_lt_of_le py hx9.size
  replace ry := Nat.lt_succ_of_lt py
  replace qj_0 := hx9.cell qj_0
  replace qj_1 := hx9.cell qj_1
  replace pj := Nat.lt_of_lt_of_le pj hx9.size
  replace rj := Nat.lt_succ_of_lt pj
  clear hx9
  go_wp2
  go_ret
  refine ⟨rfl, Ext.below ?_⟩
  repeat (first | with_reducible exact Ext.refl _ | with_reducible assumption | with_reducible refine Ext.alloc ?_ _ | with_reducible refine Ext.drew ?_ | with_reducible refine Ext.drewN ?_ _ | with_reducible refine Ext.setCell ?_ (by simp <;> omega) _ | with_reducible refine Ext.trans ?_ (by assumption))
theorem spanMeets_walk (n m f g : Int) (w : World) (w0 : (Lit.int .i64 n).wf = true) (w1 : (Lit.int .i64 m).wf = true) (w2 : (Lit.int .u64 f).wf = true) (w3 : (Lit.int .u64 g).wf = true) :
    Calls Try.prog 4 #[.int .i64 n, .int .i64 m, .agg #[.int .u64 f, .int .u64 g]] w fun e w' => e = .returned (.bool true) ∧ Below w.heap.size w w' := by
  by_cases h : n < 0 ∨ m < 0 ∨ 60 < n ∨ 60 < m
  · exact spanMeets_out n m f g w h
  · obtain ⟨a, rfl⟩ := Int.eq_ofNat_of_zero_le (show 0 ≤ n by omega)
    obtain ⟨b, rfl⟩ := Int.eq_ofNat_of_zero_le (show 0 ≤ m by omega)
    by_cases he : (f + (a : Int)) % 4294967296 = g % 4294967296
    · exact spanMeets_yes a b f g w (by omega) (by omega) (wf_u64 w2).1 (wf_u64 w3).1 he
    · exact spanMeets_no a b f g w (by omega) (by omega) (wf_u64 w2).1 (wf_u64 w3).1 he
end Go.Proofs.Ytclhbdedibcgjaa

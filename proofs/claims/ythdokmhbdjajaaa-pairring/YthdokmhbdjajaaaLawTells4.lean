/- The walk of PairTells. -/
import Derived.Test.YthdokmhbdjajaaaLaw04a
namespace Go.Proofs.Ythdokmhbdjajaaa
open Go.RowKit
set_option linter.unusedVariables false
set_option maxHeartbeats 4000000
attribute [local go_sem] later_cell later_frozen later_const
/-- a pair, and the document's, are two counts -/
theorem of_both (a b : Int) : ∃ a' b', inB a' = true ∧ inB b' = true ∧ (∀ w, Calls Try.prog 7 #[.int .i64 a, .int .i64 b] w fun e w' => e = .returned (.complex .f64 (F a') (F b')) ∧ w = w') ∧
    (∀ w, Calls Try.prog 8 #[.int .i64 a, .int .i64 b] w fun e w' => e = .returned (.agg #[.int .i64 a', .int .i64 b', .bool false]) ∧ Ext w w') := by
  by_cases h : inB a = true ∧ inB b = true
  · refine ⟨a, b, h.1, h.2, fun w => ?_, fun w => rOf_yes a b w h.1 h.2⟩
    have h1 := (inB_iff a).1 h.1
    have h2 := (inB_iff b).1 h.2
    exact of_yes a b w h1.1 h1.2 h2.1 h2.2
  · refine ⟨0, 0, rfl, rfl, fun w => of_no a b w (fun g => h ⟨(inB_iff a).2 ⟨g.1, g.2.1⟩, (inB_iff b).2 g.2.2⟩), fun w => rOf_no a b w ?_⟩
    cases h1 : inB a
    · exact .inl rfl
    · cases h2 : inB b
      · exact .inr rfl
      · exact absurd ⟨h1, h2⟩ h
theorem times_both (a b k : Int) (ha : inB a = true) (hb : inB b = true) : ∃ u v, inB u = true ∧ inB v = true ∧ (∀ w, Calls Try.prog 14 #[.complex .f64 (F a) (F b), .int .i64 k] w fun e w' => e = .returned (.complex .f64 (F u) (F v)) ∧ w = w') ∧
    (∀ w, Calls Try.prog 15 #[.agg #[.int .i64 a, .int .i64 b, .bool false], .int .i64 k] w fun e w' => e = .returned (.agg #[.int .i64 u, .int .i64 v, .bool false]) ∧ Ext w w') := by
  have ca : Cnt (F a) a := cnt_F ((inB_iff a).1 ha).1 ((inB_iff a).1 ha).2
  have cb : Cnt (F b) b := cnt_F ((inB_iff b).1 hb).1 ((inB_iff b).1 hb).2
  cases hk : inB k
  · exact ⟨0, 0, rfl, rfl, fun w => times_wide _ _ _ _ _ w ca cb hk, fun w => rTimes_wide a b k w hk⟩
  · by_cases h : inB (a * k) = true ∧ inB (b * k) = true
    · exact ⟨_, _, h.1, h.2, fun w => times_yes _ _ _ _ _ w ca cb hk h.1 h.2, fun w => rTimes_yes a b k w ha hb hk h.1 h.2⟩
    · have h' : inB (a * k) = false ∨ inB (b * k) = false := by
        cases h1 : inB (a * k)
        · exact .inl rfl
        · cases h2 : inB (b * k)
          · exact .inr rfl
          · exact absurd ⟨h1, h2⟩ h
      exact ⟨0, 0, rfl, rfl, fun w => times_great _ _ _ _ _ w ca cb hk h', fun w => rTimes_great a b k w ha hb hk h'⟩
theorem inB_neg {a : Int} (h : inB a = true) : inB (-a) = true := by rw [inB_iff] at *; omega
set_option maxRecDepth 100000 in
theorem pairTells_walk (x0 y0 x1 y1 k : Int) (w : World) (wx0 : (Lit.int .i64 x0).wf = true) (wy0 : (Lit.int .i64 y0).wf = true) (wx1 : (Lit.int .i64 x1).wf = true) (wy1 : (Lit.int .i64 y1).wf = true) (wk : (Lit.int .i64 k).wf = true) :
    Calls Try.prog 3 #[.agg #[.int .i64 x0, .int .i64 y0], .agg #[.int .i64 x1, .int .i64 y1], .int .i64 k] w fun e w' => e = .returned (.bool true) ∧ Below w.heap.size w w' := by
  obtain ⟨a, b, ha, hb, c1, r1⟩ := of_both x0 y0
  obtain ⟨c, d, hc, hd, c2, r2⟩ := of_both x1 y1
  obtain ⟨u, v, hu, hv, c3, r3⟩ := times_both a b k ha hb
  have ca : Cnt (F a) a := cnt_F ((inB_iff a).1 ha).1 ((inB_iff a).1 ha).2
  have cb : Cnt (F b) b := cnt_F ((inB_iff b).1 hb).1 ((inB_iff b).1 hb).2
  have cc : Cnt (F c) c := cnt_F ((inB_iff c).1 hc).1 ((inB_iff c).1 hc).2
  have cd : Cnt (F d) d := cnt_F ((inB_iff d).1 hd).1 ((inB_iff d).1 hd).2
  have hnb := inB_neg hb
  have a1 := ((inB_iff a).1 ha).1
  have a2 := ((inB_iff a).1 ha).2
  have b1 := ((inB_iff b).1 hb).1
  have b2 := ((inB_iff b).1 hb).2
  have hl := fun w => least_yes _ _ _ _ _ _ _ _ w ca cb cc cd
  obtain ⟨m, hm, im⟩ : ∃ m, min a c = m ∧ inB m = true := ⟨_, rfl, by rw [inB_iff] at *; omega⟩
  obtain ⟨n, hn, jn⟩ : ∃ m, min b d = m ∧ inB m = true := ⟨_, rfl, by rw [inB_iff] at *; omega⟩
  rw [hm, hn] at hl
  have hm' : (if c < a then c else a) = m := by rw [← hm]; split <;> omega
  have hn' : (if d < b then d else b) = n := by rw [← hn]; split <;> omega
  have C1 := Lib.hid c1
  have R1 := Lib.hid r1
  have C2 := Lib.hid c2
  have R2 := Lib.hid r2
  have C3 := Lib.hid c3
  have R3 := Lib.hid r3
  have HL := Lib.hid hl
  clear c1 r1 c2 r2 c3 r3 hl hm hn
  go_enter Try.func3, Try.ntmps3
  go_wp2
  refine settle_wp ?_
  intro w1 hb1
  have qx_0 : w1.cell? ⟨w.heap.size, 0, none⟩ = some (.int .i64 x0) := (hb1.cells.1 _ _ (by simp <;> omega)).trans (by simp [go_sem])
  have qx_1 : w1.cell? ⟨w.heap.size, 1, none⟩ = some (.int .i64 y0) := (hb1.cells.1 _ _ (by simp <;> omega)).trans (by simp [go_sem])
  have px := World.block_lt_of_cell? _ ⟨w.heap.size, 0, none⟩ qx_0
  have rx := Nat.lt_succ_of_lt px
  have qy_0 : w1.cell? ⟨w.heap.size + 1, 0, none⟩ = some (.int .i64 x1) := (hb1.cells.1 _ _ (by simp <;> omega)).trans (by simp [go_sem])
  have qy_1 : w1.cell? ⟨w.heap.size + 1, 1, none⟩ = some (.int .i64 y1) := (hb1.cells.1 _ _ (by simp <;> omega)).trans (by simp [go_sem])
  have py := World.block_lt_of_cell? _ ⟨w.heap.size + 1, 0, none⟩ qy_0
  have ry := Nat.lt_succ_of_lt py
  refine wp_freeE [.quiet, .quiet, .quiet, .quiet, .quiet, .quiet, .quiet, .quiet, .quiet, .quiet, .new (.cells #[.int .i64 0, .int .i64 0, .bool false] 27), .quiet, .set 10 (.cells #[.int .i64 a, .int .i64 b, .bool false] 27)] [(10, 8)] 100 (by kernel_rfl) (by kernel_rfl) (by kernel_rfl) rfl ?hnew1 ?_
  case hnew1 =>
    intro i o op hr ho ρ w
    match i, hr, ho with
    | 0, hr, ho => exact absurd hr (by intro h; cases h)
    | 1, hr, ho => exact absurd hr (by intro h; cases h)
    | 2, hr, ho => exact absurd hr (by intro h; cases h)
    | 3, hr, ho => exact absurd hr (by intro h; cases h)
    | 4, hr, ho => exact absurd hr (by intro h; cases h)
    | 5, hr, ho => exact absurd hr (by intro h; cases h)
    | 6, hr, ho => exact absurd hr (by intro h; cases h)
    | 7, hr, ho => exact absurd hr (by intro h; cases h)
    | 8, hr, ho => exact absurd hr (by intro h; cases h)
    | 9, hr, ho => exact absurd hr (by intro h; cases h)
    | 10, hr, ho => cases hr; cases ho; simp [go_sem]
    | 11, hr, ho => exact absurd hr (by intro h; cases h)
    | 12, hr, ho => exact absurd hr (by intro h; cases h)
    | i + 13, hr, ho => exact absurd hr (by intro h; cases h)
  apply Exists.intro
  refine ⟨?hwalk1, ?hset1, ?_⟩
  case hwalk1 =>
    intro F hF g0
    have hconst : ∀ p : Prop, (LaterF _ F → p) ↔ p := fun p => ⟨fun h => h g0, fun h _ => h⟩
    have lx_0 := fun (g : LaterF w1 F) => g.ok.cell qx_0
    have lx_1 := fun (g : LaterF w1 F) => g.ok.cell qx_1
    have ly_0 := fun (g : LaterF w1 F) => g.ok.cell qy_0
    have ly_1 := fun (g : LaterF w1 F) => g.ok.cell qy_1
    simp only [keepQ]
    repeat (go_big_quiet_step ((fail)))
    go_big_quiet_step ((go_at_call 7; exact laterFS (C1.out _)))
    repeat (go_big_quiet_step ((fail)))
    go_big_quiet_step ((go_at_call 8; exact laterFC hF (R1.out _)))
    repeat (go_big_quiet_step ((fail)))
    exact wpQuiet_nil rfl
  case hset1 =>
    intro B i s o' op hr ho o hz w hw
    match i, hr, ho with
    | 0, hr, ho => exact absurd hr (by intro h; cases h)
    | 1, hr, ho => exact absurd hr (by intro h; cases h)
    | 2, hr, ho => exact absurd hr (by intro h; cases h)
    | 3, hr, ho => exact absurd hr (by intro h; cases h)
    | 4, hr, ho => exact absurd hr (by intro h; cases h)
    | 5, hr, ho => exact absurd hr (by intro h; cases h)
    | 6, hr, ho => exact absurd hr (by intro h; cases h)
    | 7, hr, ho => exact absurd hr (by intro h; cases h)
    | 8, hr, ho => exact absurd hr (by intro h; cases h)
    | 9, hr, ho => exact absurd hr (by intro h; cases h)
    | 10, hr, ho => exact absurd hr (by intro h; cases h)
    | 11, hr, ho => exact absurd hr (by intro h; cases h)
    | 12, hr, ho => cases hr; cases ho; cases hz; obtain ⟨⟨c0, c1, c2⟩, ⟨z0, z1, z2⟩, hh, hbut⟩ := store3 (.int .i64 a) (.int .i64 b) (.bool false) hw; exact ⟨.skip, _, by simp [go_sem, withNews, Act.put, c0, c1, c2, z0, z1, z2], .inl rfl, hh, hbut⟩
    | i + 13, hr, ho => exact absurd hr (by intro h; cases h)
  intro B w2 hb2 hN1
  have hhp : w2.heap[B 10]? = some (.cells #[.int .i64 a, .int .i64 b, .bool false] 27) := hN1.holds 10 _ rfl rfl
  have hyp : w1.heap.size ≤ B 10 := hN1.beyond 10 _ rfl rfl
  clear hN1
  simp only [withNews, List.foldl_cons, List.foldl_nil, Act.put, List.setIfInBounds_toArray, List.set_cons_succ, List.set_cons_zero]
  generalize B 10 = bkp at *
  have hx2 : Ext w1 w2 := by repeat (first | with_reducible exact Ext.refl _ | with_reducible assumption | with_reducible refine Ext.alloc ?_ _ | with_reducible refine Ext.drew ?_ | with_reducible refine Ext.drewN ?_ _ | with_reducible refine Ext.setCell ?_ (by simp <;> omega) _ | with_reducible refine Ext.trans ?_ (by assumption))
  replace qx_0 := hx2.cell qx_0
  replace qx_1 := hx2.cell qx_1
  replace px := Nat.lt_of_lt_of_le px hx2.size
  replace rx := Nat.lt_succ_of_lt px
  replace qy_0 := hx2.cell qy_0
  replace qy_1 := hx2.cell qy_1
  replace py := Nat.lt_of_lt_of_le py hx2.size
  replace ry := Nat.lt_succ_of_lt py
  clear hx2
  have qp_0 := (cell_of_heap (j := 0) (v := .int .i64 a) hhp rfl).1
  have qp_1 := (cell_of_heap (j := 1) (v := .int .i64 b) hhp rfl).1
  have qp_2 := (cell_of_heap (j := 2) (v := .bool false) hhp rfl).1
  have pp := World.block_lt_of_cell? _ ⟨bkp, 0, none⟩ qp_0
  have rp := Nat.lt_succ_of_lt pp
  clear hhp hyp
  go_wp2
  refine wp_freeE [.quiet, .quiet, .quiet, .quiet, .quiet, .quiet, .quiet, .quiet, .quiet, .quiet, .new (.cells #[.int .i64 0, .int .i64 0, .bool false] 27), .quiet, .set 10 (.cells #[.int .i64 c, .int .i64 d, .bool false] 27)] [(10, 10)] 100 (by kernel_rfl) (by kernel_rfl) (by kernel_rfl) rfl ?hnew2 ?_
  case hnew2 =>
    intro i o op hr ho ρ w
    match i, hr, ho with
    | 0, hr, ho => exact absurd hr (by intro h; cases h)
    | 1, hr, ho => exact absurd hr (by intro h; cases h)
    | 2, hr, ho => exact absurd hr (by intro h; cases h)
    | 3, hr, ho => exact absurd hr (by intro h; cases h)
    | 4, hr, ho => exact absurd hr (by intro h; cases h)
    | 5, hr, ho => exact absurd hr (by intro h; cases h)
    | 6, hr, ho => exact absurd hr (by intro h; cases h)
    | 7, hr, ho => exact absurd hr (by intro h; cases h)
    | 8, hr, ho => exact absurd hr (by intro h; cases h)
    | 9, hr, ho => exact absurd hr (by intro h; cases h)
    | 10, hr, ho => cases hr; cases ho; simp [go_sem]
    | 11, hr, ho => exact absurd hr (by intro h; cases h)
    | 12, hr, ho => exact absurd hr (by intro h; cases h)
    | i + 13, hr, ho => exact absurd hr (by intro h; cases h)
  apply Exists.intro
  refine ⟨?hwalk2, ?hset2, ?_⟩
  case hwalk2 =>
    intro F hF g0
    have hconst : ∀ p : Prop, (LaterF _ F → p) ↔ p := fun p => ⟨fun h => h g0, fun h _ => h⟩
    have lx_0 := fun (g : LaterF w2 F) => g.ok.cell qx_0
    have lx_1 := fun (g : LaterF w2 F) => g.ok.cell qx_1
    have ly_0 := fun (g : LaterF w2 F) => g.ok.cell qy_0
    have ly_1 := fun (g : LaterF w2 F) => g.ok.cell qy_1
    have lp_0 := fun (g : LaterF w2 F) => g.ok.cell qp_0
    have lp_1 := fun (g : LaterF w2 F) => g.ok.cell qp_1
    have lp_2 := fun (g : LaterF w2 F) => g.ok.cell qp_2
    simp only [keepQ]
    repeat (go_big_quiet_step ((fail)))
    go_big_quiet_step ((go_at_call 7; exact laterFS (C2.out _)))
    repeat (go_big_quiet_step ((fail)))
    go_big_quiet_step ((go_at_call 8; exact laterFC hF (R2.out _)))
    repeat (go_big_quiet_step ((fail)))
    exact wpQuiet_nil rfl
  case hset2 =>
    intro B i s o' op hr ho o hz w hw
    match i, hr, ho with
    | 0, hr, ho => exact absurd hr (by intro h; cases h)
    | 1, hr, ho => exact absurd hr (by intro h; cases h)
    | 2, hr, ho => exact absurd hr (by intro h; cases h)
    | 3, hr, ho => exact absurd hr (by intro h; cases h)
    | 4, hr, ho => exact absurd hr (by intro h; cases h)
    | 5, hr, ho => exact absurd hr (by intro h; cases h)
    | 6, hr, ho => exact absurd hr (by intro h; cases h)
    | 7, hr, ho => exact absurd hr (by intro h; cases h)
    | 8, hr, ho => exact absurd hr (by intro h; cases h)
    | 9, hr, ho => exact absurd hr (by intro h; cases h)
    | 10, hr, ho => exact absurd hr (by intro h; cases h)
    | 11, hr, ho => exact absurd hr (by intro h; cases h)
    | 12, hr, ho => cases hr; cases ho; cases hz; obtain ⟨⟨c0, c1, c2⟩, ⟨z0, z1, z2⟩, hh, hbut⟩ := store3 (.int .i64 c) (.int .i64 d) (.bool false) hw; exact ⟨.skip, _, by simp [go_sem, withNews, Act.put, c0, c1, c2, z0, z1, z2], .inl rfl, hh, hbut⟩
    | i + 13, hr, ho => exact absurd hr (by intro h; cases h)
  intro B w3 hb3 hN2
  have hhq : w3.heap[B 10]? = some (.cells #[.int .i64 c, .int .i64 d, .bool false] 27) := hN2.holds 10 _ rfl rfl
  have hyq : w2.heap.size ≤ B 10 := hN2.beyond 10 _ rfl rfl
  clear hN2
  simp only [withNews, List.foldl_cons, List.foldl_nil, Act.put, List.setIfInBounds_toArray, List.set_cons_succ, List.set_cons_zero]
  generalize B 10 = bkq at *
  have hx3 : Ext w2 w3 := by repeat (first | with_reducible exact Ext.refl _ | with_reducible assumption | with_reducible refine Ext.alloc ?_ _ | with_reducible refine Ext.drew ?_ | with_reducible refine Ext.drewN ?_ _ | with_reducible refine Ext.setCell ?_ (by simp <;> omega) _ | with_reducible refine Ext.trans ?_ (by assumption))
  replace qx_0 := hx3.cell qx_0
  replace qx_1 := hx3.cell qx_1
  replace px := Nat.lt_of_lt_of_le px hx3.size
  replace rx := Nat.lt_succ_of_lt px
  replace qy_0 := hx3.cell qy_0
  replace qy_1 := hx3.cell qy_1
  replace py := Nat.lt_of_lt_of_le py hx3.size
  replace ry := Nat.lt_succ_of_lt py
  replace qp_0 := hx3.cell qp_0
  replace qp_1 := hx3.cell qp_1
  replace qp_2 := hx3.cell qp_2
  replace pp := Nat.lt_of_lt_of_le pp hx3.size
  replace rp := Nat.lt_succ_of_lt pp
  clear hx3
  have qq_0 := (cell_of_heap (j := 0) (v := .int .i64 c) hhq rfl).1
  have qq_1 := (cell_of_heap (j := 1) (v := .int .i64 d) hhq rfl).1
  have qq_2 := (cell_of_heap (j := 2) (v := .bool false) hhq rfl).1
  have pq := World.block_lt_of_cell? _ ⟨bkq, 0, none⟩ qq_0
  have rq := Nat.lt_succ_of_lt pq
  clear hhq hyq
  go_wp2
  refine wp_region_later (by kernel_rfl) (by kernel_rfl) ?_
  have lx_0 := fun (g : Later w3) => g.ok.cell qx_0
  have lx_1 := fun (g : Later w3) => g.ok.cell qx_1
  have ly_0 := fun (g : Later w3) => g.ok.cell qy_0
  have ly_1 := fun (g : Later w3) => g.ok.cell qy_1
  have lp_0 := fun (g : Later w3) => g.ok.cell qp_0
  have lp_1 := fun (g : Later w3) => g.ok.cell qp_1
  have lp_2 := fun (g : Later w3) => g.ok.cell qp_2
  have lq_0 := fun (g : Later w3) => g.ok.cell qq_0
  have lq_1 := fun (g : Later w3) => g.ok.cell qq_1
  have lq_2 := fun (g : Later w3) => g.ok.cell qq_2
  repeat (go_big_quiet_step ((fail)))
  go_big_quiet_step ((go_at_call 9; exact laterC (is_yes _ _ _ _ ha hb)))
  repeat (go_big_quiet_step ((fail)))
  go_big_quiet_step ((go_at_call 10; exact laterS (whole_yes _ _ _ _ _ ca cb)))
  repeat (go_big_quiet_step ((fail)))
  go_big_quiet_step ((go_at_call 11; exact laterS (turn_yes _ _ _ _ _ ca cb)))
  repeat (go_big_quiet_step ((fail)))
  go_big_quiet_step ((go_at_call 9; exact laterC (is_yes _ _ _ _ hnb ha)))
  repeat (go_big_quiet_step ((fail)))
  go_big_quiet_step ((go_at_call 12; exact laterS (mirror_yes _ _ _ _ _ ca cb)))
  repeat (go_big_quiet_step ((fail)))
  go_big_quiet_step ((go_at_call 9; exact laterC (is_yes _ _ _ _ hb ha)))
  repeat (go_big_quiet_step ((fail)))
  refine wpQuiet_nil ?_
  intro w4 hl4
  have hb4 := laters_ext hl4
  clear hl4 lx_0 lx_1 ly_0 ly_1 lp_0 lp_1 lp_2 lq_0 lq_1 lq_2
  have hx4 : Ext w3 w4 := by repeat (first | with_reducible exact Ext.refl _ | with_reducible assumption | with_reducible refine Ext.alloc ?_ _ | with_reducible refine Ext.drew ?_ | with_reducible refine Ext.drewN ?_ _ | with_reducible refine Ext.setCell ?_ (by simp <;> omega) _ | with_reducible refine Ext.trans ?_ (by assumption))
  replace qx_0 := hx4.cell qx_0
  replace qx_1 := hx4.cell qx_1
  replace px := Nat.lt_of_lt_of_le px hx4.size
  replace rx := Nat.lt_succ_of_lt px
  replace qy_0 := hx4.cell qy_0
  replace qy_1 := hx4.cell qy_1
  replace py := Nat.lt_of_lt_of_le py hx4.size
  replace ry := Nat.lt_succ_of_lt py
  replace qp_0 := hx4.cell qp_0
  replace qp_1 := hx4.cell qp_1
  replace qp_2 := hx4.cell qp_2
  replace pp := Nat.lt_of_lt_of_le pp hx4.size
  replace rp := Nat.lt_succ_of_lt pp
  replace qq_0 := hx4.cell qq_0
  replace qq_1 := hx4.cell qq_1
  replace qq_2 := hx4.cell qq_2
  replace pq := Nat.lt_of_lt_of_le pq hx4.size
  replace rq := Nat.lt_succ_of_lt pq
  clear hx4
  go_wp2
  refine wp_region_later (by kernel_rfl) (by kernel_rfl) ?_
  have lx_0 := fun (g : Later w4) => g.ok.cell qx_0
  have lx_1 := fun (g : Later w4) => g.ok.cell qx_1
  have ly_0 := fun (g : Later w4) => g.ok.cell qy_0
  have ly_1 := fun (g : Later w4) => g.ok.cell qy_1
  have lp_0 := fun (g : Later w4) => g.ok.cell qp_0
  have lp_1 := fun (g : Later w4) => g.ok.cell qp_1
  have lp_2 := fun (g : Later w4) => g.ok.cell qp_2
  have lq_0 := fun (g : Later w4) => g.ok.cell qq_0
  have lq_1 := fun (g : Later w4) => g.ok.cell qq_1
  have lq_2 := fun (g : Later w4) => g.ok.cell qq_2
  repeat (go_big_quiet_step ((fail)))
  go_big_quiet_step ((go_at_call 13; exact laterS (total_yes _ _ _ _ _ ca cb)))
  repeat (go_big_quiet_step ((fail)))
  go_big_quiet_step ((go_at_call 14; exact laterS (C3.out _)))
  repeat (go_big_quiet_step ((fail)))
  go_big_quiet_step ((go_at_call 15; exact laterC (R3.out _)))
  repeat (go_big_quiet_step ((fail)))
  go_big_quiet_step ((go_at_call 9; exact laterC (is_yes _ _ _ _ hu hv)))
  repeat (go_big_quiet_step ((fail)))
  go_big_quiet_step ((go_at_call 16; exact laterS (HL.out _)))
  repeat (go_big_quiet_step ((fail)))
  go_big_quiet_step ((go_at_call 9; exact laterC (is_yes _ _ _ _ im jn)))
  repeat (go_big_quiet_step ((fail)))
  go_big_quiet_step ((go_at_call 17; exact laterC (live04 _)))
  repeat (go_big_quiet_step ((fail)))
  refine wpQuiet_nil ?_
  intro w5 hl5
  have hb5 := laters_ext hl5
  clear hl5 lx_0 lx_1 ly_0 ly_1 lp_0 lp_1 lp_2 lq_0 lq_1 lq_2
  have hx5 : Ext w4 w5 := by repeat (first | with_reducible exact Ext.refl _ | with_reducible assumption | with_reducible refine Ext.alloc ?_ _ | with_reducible refine Ext.drew ?_ | with_reducible refine Ext.drewN ?_ _ | with_reducible refine Ext.setCell ?_ (by simp <;> omega) _ | with_reducible refine Ext.trans ?_ (by assumption))
  replace qx_0 := hx5.cell qx_0
  replace qx_1 := hx5.cell qx_1
  replace px := Nat.lt_of_lt_of_le px hx5.size
  replace rx := Nat.lt_succ_of_lt px
  replace qy_0 := hx5.cell qy_0
  replace qy_1 := hx5.cell qy_1
  replace py := Nat.lt_of_lt_of_le py hx5.size
  replace ry := Nat.lt_succ_of_lt py
  replace qp_0 := hx5.cell qp_0
  replace qp_1 := hx5.cell qp_1
  replace qp_2 := hx5.cell qp_2
  replace pp := Nat.lt_of_lt_of_le pp hx5.size
  replace rp := Nat.lt_succ_of_lt pp
  replace qq_0 := hx5.cell qq_0
  replace qq_1 := hx5.cell qq_1
  replace qq_2 := hx5.cell qq_2
  replace pq := Nat.lt_of_lt_of_le pq hx5.size
  replace rq := Nat.lt_succ_of_lt pq
  clear hx5
  go_wp2
  go_ret
  refine ⟨rfl, Ext.below ?_⟩
  repeat (first | with_reducible exact Ext.refl _ | with_reducible assumption | with_reducible refine Ext.alloc ?_ _ | with_reducible refine Ext.drew ?_ | with_reducible refine Ext.drewN ?_ _ | with_reducible refine Ext.setCell ?_ (by simp <;> omega) _ | with_reducible refine Ext.trans ?_ (by assumption))
end Go.Proofs.Ythdokmhbdjajaaa

import Derived.Test.YtkmfamidahlgiaaDoorJI
/- The walk of OneNone. -/
namespace Go.Proofs.YtkmfamidahlgiaaDoor
open Go.RowKit
set_option linter.unusedVariables false
set_option linter.unusedSimpArgs false
set_option maxHeartbeats 8000000
attribute [local go_sem] later_cell later_frozen later_const
theorem conf19_is (wd : Bool) (l p r : Nat) (S : Int) (w : World) (hl : l < 256) (hr : r < 256) : Calls Tryd.prog 4 #[.agg #[.bool wd, .int .u8 l, .int .u8 p, .int .u8 r, .int .u64 S]] w (ConfDoes (if wd then 64 else 32) (capS l) S (r % 3 + 1) w) := by
  cases wd
  · exact conf19_32 l p r S w hl hr
  · exact conf19_64 l p r S w hl hr
set_option maxRecDepth 100000 in
theorem oneNone_walk (wd : Bool) (l q k : Nat) (S va tt n : Int) (w : World) (hc : l < 256 ∧ q < 256 ∧ k < 256 ∧ 0 ≤ S ∧ S < 18446744073709551616) (wx : (Lit.int .i64 va).wf = true) (wy : (Lit.int .i64 tt).wf = true) (wn : (Lit.int .i64 n).wf = true) (E : Parts w ∧ Tab w) :
    Calls Tryd.prog 3 #[.agg #[.bool wd, .int .u8 l, .int .u8 q, .int .u8 k, .int .u64 S], .agg #[.int .i64 va, .int .i64 tt], .int .i64 n] w fun e w' => e = .returned (.bool true) ∧ Below w.heap.size w w' := by
  obtain ⟨hl, -, hk, hS0, hS1⟩ := hc
  clear wx wy wn
  have HE := Lib.hid (fun w' (hx : Ext w w') => E.1.ext hx)
  have HT := Lib.hid (fun w' (hx : Ext w w') => E.2.ext hx)
  have HS := Lib.hid (And.intro hS0 hS1)
  obtain ⟨W0, CC⟩ : ∃ W0 : Int, Hid (∀ w', Calls Tryd.prog 4 #[.agg #[.bool wd, .int .u8 l, .int .u8 q, .int .u8 k, .int .u64 S]] w' (ConfDoes W0 (capS l) S (k % 3 + 1) w')) := ⟨_, Lib.hid (fun w' => conf19_is wd l q k S w' hl hk)⟩
  have CV := Lib.hid (fun w' (hx : Ext w w') => live19 w' (E.1.ext hx) (E.2.ext hx))
  obtain ⟨V, hV1, hV5, hcase⟩ : ∃ V : Int, 1 ≤ V ∧ V ≤ 5 ∧ ((V = 1 ∧ decide (1 ≤ va) = false) ∨ (V = 1 ∧ decide (1 ≤ va) = true ∧ decide (va ≤ 5) = false) ∨ (V = 1 ∧ va = 1) ∨ (V = va ∧ decide (1 ≤ va) = true ∧ decide (va ≤ 5) = true ∧ (va == 1) = false)) := by
    by_cases h1 : 1 ≤ va
    · by_cases h5 : va ≤ 5
      · by_cases e : va = 1
        · exact ⟨1, by omega, by omega, .inr (.inr (.inl ⟨rfl, e⟩))⟩
        · exact ⟨va, h1, h5, .inr (.inr (.inr ⟨rfl, by simpa using h1, by simpa using h5, by simpa using e⟩))⟩
      · exact ⟨1, by omega, by omega, .inr (.inl ⟨rfl, by simpa using h1, by simpa using h5⟩)⟩
    · exact ⟨1, by omega, by omega, .inl ⟨rfl, by simpa using h1⟩⟩
  have hck : ckC V 32 (capS l) 1 (List.replicate (k % 3 + 1) []) = 0 := case_ok l (k % 3 + 1) ⟨hV1, hV5⟩ (.inl rfl) ⟨by decide, by unfold mostOf; split <;> omega⟩ (by omega) (by omega)
  have hll : ∀ x ∈ List.replicate (k % 3 + 1) ([] : List Int), x.length ≤ 1000000 := fun x hx => by rw [List.eq_of_mem_replicate hx]; simp
  have hnn : (List.replicate (k % 3 + 1) ([] : List Int)).length ≤ 1000000 := by simp; omega
  have CO := Lib.hid (fun w' u (hL : ListsV w' u (List.replicate (k % 3 + 1) [])) => of_board V 32 (capS l) 1 S u (List.replicate (k % 3 + 1) []) w' hL hll hnn hck)
  have CN := Lib.hid (fun (y : LY) w' (K : BK y (List.replicate (k % 3 + 1) [])) hw hL h0 h1 => new_board32 y (List.replicate (k % 3 + 1) []) w' K hw hL h0 h1)
  have CNo := Lib.hid (fun b g y f lv log pl w' (K : BK y (List.replicate (k % 3 + 1) [])) h hV => soNew32_no b g y f lv log (List.replicate (k % 3 + 1) []) pl w' K h hV)
  have CYes := Lib.hid (fun b g lb y f lv vL log EL w' (K : BK y (List.replicate (k % 3 + 1) [])) hW h hV G X hob T h0 h1 => soNew32_yes w b g lb y f lv vL log EL (List.replicate (k % 3 + 1) []) w' K hW h hV G X hob T h0 h1)
  have CM := Lib.hid (fun w' {b g sb lb y f lv log su ev N L vL EL fb F} (K : BK y (List.replicate (k % 3 + 1) [])) hV (h : ST32 w w' b g sb lb y f lv log (List.replicate (k % 3 + 1) []) su ev (endsG (List.replicate (k % 3 + 1) [])) N L vL EL) (hF : FB32 w w' b g sb lb lv vL fb 11 F) => soMay32 K hV h hF (t := 0) (by decide) tt)
  have hcap := capS_is l
  have HCAP := Lib.hid hcap
  clear hll hnn hck hcap hk hl E hS0 hS1 hV1 hV5
  generalize hups : List.replicate (k % 3 + 1) ([] : List Int) = ups at *
  have HUPS := Lib.hid hups
  clear hups
  rcases hcase with ⟨rfl, d1⟩ | ⟨rfl, d1, d5⟩ | ⟨rfl, rfl⟩ | ⟨rfl, d1, d5, d0⟩
  · skip
    go_enter Tryd.func3, Tryd.ntmps3
    go_upto_region 1 with (fail)
    refine settle_wp ?_
    intro w1 hb1
    have qv_0 : w1.cell? ⟨w.heap.size + 1, 0, none⟩ = some (.int .i64 va) := hb1.cell (by simp [go_sem])
    have qv_1 : w1.cell? ⟨w.heap.size + 1, 1, none⟩ = some (.int .i64 tt) := hb1.cell (by simp [go_sem])
    have qs_0 : w1.cell? ⟨w.heap.size, 0, none⟩ = some (.bool wd) := hb1.cell (by simp [go_sem])
    have qs_1 : w1.cell? ⟨w.heap.size, 1, none⟩ = some (.int .u8 l) := hb1.cell (by simp [go_sem])
    have qs_2 : w1.cell? ⟨w.heap.size, 2, none⟩ = some (.int .u8 q) := hb1.cell (by simp [go_sem])
    have qs_3 : w1.cell? ⟨w.heap.size, 3, none⟩ = some (.int .u8 k) := hb1.cell (by simp [go_sem])
    have qs_4 : w1.cell? ⟨w.heap.size, 4, none⟩ = some (.int .u64 S) := hb1.cell (by simp [go_sem])
    have X1 : Ext w w1 := Ext.trans (by repeat (first | with_reducible exact Ext.refl _ | with_reducible assumption | with_reducible refine Ext.alloc ?_ _ | with_reducible refine Ext.drew ?_ | with_reducible refine Ext.drewN ?_ _ | with_reducible refine Ext.setCell ?_ (by simp <;> omega) _ | with_reducible refine Ext.trans ?_ (by assumption))) hb1
    have HX1 := Lib.hid X1
    clear hb1 X1
    have k0 := fun w' (hx : Ext w1 w') => hx.cell qv_0
    have k1 := fun w' (hx : Ext w1 w') => hx.cell qv_1
    refine wp_region_held_drew (S := fun w' => Ext w1 w') (by kernel_rfl) ?hbeg (fun hHeld => ?_)
    case hbeg => exact (Ext.refl w1).drew
    have hHeld0 : Ext w1 w1 := by first | exact Ext.refl _ | assumption
    first
      | (refine take_at (i := 0) (v := ?_) rfl rfl (by kernel_rfl) (by kernel_rfl) (by kernel_rfl) (fun _ _ _ h => h) (Or.inl ⟨by rfl, ?hy⟩) (by assumption) ?_
         case hy => (intro wz hSw; (try dsimp only at hSw); go_simp <;> with_reducible rfl)
         simp only [List.setIfInBounds_toArray, List.set_cons_zero, List.set_cons_succ])
      | (refine take_at (i := 0) (v := undef) rfl rfl (by kernel_rfl) (by kernel_rfl) (by kernel_rfl) (fun _ _ _ h => h) (Or.inr ⟨by rfl, rfl⟩) (by assumption) ?_
         simp only [List.setIfInBounds_toArray, List.set_cons_zero, List.set_cons_succ])
    first
      | (refine take_at (i := 1) (v := ?_) rfl rfl (by kernel_rfl) (by kernel_rfl) (by kernel_rfl) (fun _ _ _ h => h) (Or.inl ⟨by rfl, ?hy⟩) (by assumption) ?_
         case hy => (intro wz hSw; (try dsimp only at hSw); go_simp <;> with_reducible rfl)
         simp only [List.setIfInBounds_toArray, List.set_cons_zero, List.set_cons_succ])
      | (refine take_at (i := 1) (v := undef) rfl rfl (by kernel_rfl) (by kernel_rfl) (by kernel_rfl) (fun _ _ _ h => h) (Or.inr ⟨by rfl, rfl⟩) (by assumption) ?_
         simp only [List.setIfInBounds_toArray, List.set_cons_zero, List.set_cons_succ])
    first
      | (refine take_at (i := 2) (v := ?_) rfl rfl (by kernel_rfl) (by kernel_rfl) (by kernel_rfl) (fun _ _ _ h => h) (Or.inl ⟨by rfl, ?hy⟩) (by assumption) ?_
         case hy => (intro wz hSw; (try dsimp only at hSw); go_simp <;> with_reducible rfl)
         simp only [List.setIfInBounds_toArray, List.set_cons_zero, List.set_cons_succ])
      | (refine take_at (i := 2) (v := undef) rfl rfl (by kernel_rfl) (by kernel_rfl) (by kernel_rfl) (fun _ _ _ h => h) (Or.inr ⟨by rfl, rfl⟩) (by assumption) ?_
         simp only [List.setIfInBounds_toArray, List.set_cons_zero, List.set_cons_succ])
    first
      | (refine take_at (i := 3) (v := ?_) rfl rfl (by kernel_rfl) (by kernel_rfl) (by kernel_rfl) (fun _ _ _ h => h) (Or.inl ⟨by rfl, ?hy⟩) (by assumption) ?_
         case hy => (intro wz hSw; (try dsimp only at hSw); go_simp <;> with_reducible rfl)
         simp only [List.setIfInBounds_toArray, List.set_cons_zero, List.set_cons_succ])
      | (refine take_at (i := 3) (v := undef) rfl rfl (by kernel_rfl) (by kernel_rfl) (by kernel_rfl) (fun _ _ _ h => h) (Or.inr ⟨by rfl, rfl⟩) (by assumption) ?_
         simp only [List.setIfInBounds_toArray, List.set_cons_zero, List.set_cons_succ])
    first
      | (refine take_at (i := 4) (v := ?_) rfl rfl (by kernel_rfl) (by kernel_rfl) (by kernel_rfl) (fun _ _ _ h => h) (Or.inl ⟨by rfl, ?hy⟩) (by assumption) ?_
         case hy => (intro wz hSw; (try dsimp only at hSw); go_simp <;> with_reducible rfl)
         simp only [List.setIfInBounds_toArray, List.set_cons_zero, List.set_cons_succ])
      | (refine take_at (i := 4) (v := undef) rfl rfl (by kernel_rfl) (by kernel_rfl) (by kernel_rfl) (fun _ _ _ h => h) (Or.inr ⟨by rfl, rfl⟩) (by assumption) ?_
         simp only [List.setIfInBounds_toArray, List.set_cons_zero, List.set_cons_succ])
    first
      | (refine take_at (i := 5) (v := ?_) rfl rfl (by kernel_rfl) (by kernel_rfl) (by kernel_rfl) (fun _ _ _ h => h) (Or.inl ⟨by rfl, ?hy⟩) (by assumption) ?_
         case hy => (intro wz hSw; (try dsimp only at hSw); go_simp <;> with_reducible rfl)
         simp only [List.setIfInBounds_toArray, List.set_cons_zero, List.set_cons_succ])
      | (refine take_at (i := 5) (v := undef) rfl rfl (by kernel_rfl) (by kernel_rfl) (by kernel_rfl) (fun _ _ _ h => h) (Or.inr ⟨by rfl, rfl⟩) (by assumption) ?_
         simp only [List.setIfInBounds_toArray, List.set_cons_zero, List.set_cons_succ])
    refine wpAnyH_done (by kernel_rfl) ?_ _
    replace qs_0 := hHeld.cell qs_0
    replace qs_1 := hHeld.cell qs_1
    replace qs_2 := hHeld.cell qs_2
    replace qs_3 := hHeld.cell qs_3
    replace qs_4 := hHeld.cell qs_4
    have HX2 := Lib.hid (HX1.out.trans hHeld)
    clear k0 k1 qv_0 qv_1 hHeld HX1
    go_wp2_with fail
    refine (CC.out _).mono ?_
    rintro e w3 ⟨ca, ccap, rfl, hL, X3⟩
    rw [HUPS.out] at hL
    have HL := Lib.hid hL
    have HX3 := Lib.hid (HX2.out.trans X3)
    clear hL X3 HX2 CC qs_0 qs_1 qs_2 qs_3 qs_4
    go_upto_region 8 with (fail)
    refine settle_wp ?_
    intro w4 hb4
    have qc_0 : w4.cell? ⟨w3.heap.size, 0, none⟩ = some (.int .i64 1) := hb4.cell (by simp [go_sem])
    have qc_1 : w4.cell? ⟨w3.heap.size, 1, none⟩ = some (.int .i64 32) := hb4.cell (by simp [go_sem])
    have qc_2 : w4.cell? ⟨w3.heap.size, 2, none⟩ = some (.int .i64 (capS l)) := hb4.cell (by simp [go_sem])
    have qc_3 : w4.cell? ⟨w3.heap.size, 3, none⟩ = some (.int .i64 1) := hb4.cell (by simp [go_sem])
    have qc_4 : w4.cell? ⟨w3.heap.size, 4, none⟩ = some (.int .u64 S) := hb4.cell (by simp [go_sem])
    have qc_5 : w4.cell? ⟨w3.heap.size, 5, none⟩ = some (.slice ca ((k % 3 + 1 : Nat)) ccap) := hb4.cell (by simp [go_sem])
    have X34 : Ext w3 w4 := Ext.trans (by repeat (first | with_reducible exact Ext.refl _ | with_reducible assumption | with_reducible refine Ext.alloc ?_ _ | with_reducible refine Ext.drew ?_ | with_reducible refine Ext.drewN ?_ _ | with_reducible refine Ext.setCell ?_ (by simp <;> omega) _ | with_reducible refine Ext.trans ?_ (by assumption))) hb4
    have HX4 := Lib.hid (HX3.out.trans X34)
    have HL4 := Lib.hid (HL.out.ext X34)
    clear hb4 X34 HX3 HL
    generalize w3.heap.size = cb at *
    go_wp2_with fail
    refine (CO.out w4 _ HL4.out).mono ?_
    rintro e wo ⟨y0, K0, o0, rfl, O0, Xo⟩
    have HK0 := Lib.hid K0
    have Ho0 := Lib.hid o0
    have HO0 := Lib.hid O0
    replace qc_0 := Xo.cell qc_0
    replace qc_1 := Xo.cell qc_1
    replace qc_2 := Xo.cell qc_2
    replace qc_3 := Xo.cell qc_3
    replace qc_4 := Xo.cell qc_4
    replace qc_5 := Xo.cell qc_5
    have HXo := Lib.hid (HX4.out.trans Xo)
    clear K0 o0 O0 Xo HL4 HX4 CO
    go_upto_region 9 with (fail)
    refine settle_wp ?_
    intro w6 hb6
    have ql_0 : w6.cell? ⟨wo.heap.size, 0, none⟩ = some (.int .i64 y0.V) := hb6.cell (by simp [go_sem])
    have ql_1 : w6.cell? ⟨wo.heap.size, 1, none⟩ = some (.int .i64 y0.W) := hb6.cell (by simp [go_sem])
    have ql_2 : w6.cell? ⟨wo.heap.size, 2, none⟩ = some (.int .i64 y0.C) := hb6.cell (by simp [go_sem])
    have ql_3 : w6.cell? ⟨wo.heap.size, 3, none⟩ = some (.int .i64 y0.P) := hb6.cell (by simp [go_sem])
    have ql_4 : w6.cell? ⟨wo.heap.size, 4, none⟩ = some (.int .u64 y0.S) := hb6.cell (by simp [go_sem])
    have ql_5 : w6.cell? ⟨wo.heap.size, 5, none⟩ = some (.slice y0.a y0.n y0.cap) := hb6.cell (by simp [go_sem])
    have ql_6 : w6.cell? ⟨wo.heap.size, 6, none⟩ = some (.int .i64 y0.Cu) := hb6.cell (by simp [go_sem])
    have ql_7 : w6.cell? ⟨wo.heap.size, 7, none⟩ = some (.int .i64 y0.Cl) := hb6.cell (by simp [go_sem])
    have ql_8 : w6.cell? ⟨wo.heap.size, 8, none⟩ = some (.int .i64 y0.Ti) := hb6.cell (by simp [go_sem])
    have ql_9 : w6.cell? ⟨wo.heap.size, 9, none⟩ = some (.int .i64 y0.Se) := hb6.cell (by simp [go_sem])
    have ql_10 : w6.cell? ⟨wo.heap.size, 10, none⟩ = some (.int .i64 y0.Ne) := hb6.cell (by simp [go_sem])
    have ql_11 : w6.cell? ⟨wo.heap.size, 11, none⟩ = some (.int .i64 y0.Ma) := hb6.cell (by simp [go_sem])
    have ql_12 : w6.cell? ⟨wo.heap.size, 12, none⟩ = some (.int .i64 y0.Sl) := hb6.cell (by simp [go_sem])
    have ql_13 : w6.cell? ⟨wo.heap.size, 13, none⟩ = some (.int .i64 y0.m) := hb6.cell (by simp [go_sem])
    have X6 : Ext wo w6 := Ext.trans ((Ext.refl wo).alloc _) hb6
    replace qc_0 := X6.cell qc_0
    replace qc_1 := X6.cell qc_1
    replace qc_2 := X6.cell qc_2
    replace qc_3 := X6.cell qc_3
    replace qc_4 := X6.cell qc_4
    replace qc_5 := X6.cell qc_5
    have HX6 := Lib.hid (HXo.out.trans X6)
    have HO6 := Lib.hid (HO0.out.ext X6)
    clear hb6 X6 HXo HO0
    go_wp2_with fail
    refine (CN.out y0 _ HK0.out Ho0.out.w HO6.out (by rw [Ho0.out.s]; exact HS.out.1) (by rw [Ho0.out.s]; exact HS.out.2)).mono ?_
    rintro e w7 ⟨b, g, y, rfl, K, o, B, X7, hb7, hg7⟩
    have HK := Lib.hid K
    have Hoy : Hid (y.V = 1 ∧ y.W = 32 ∧ y.C = capS l ∧ y.S = S) := Lib.hid ⟨o.v.trans Ho0.out.v, o.w.trans Ho0.out.w, o.c.trans Ho0.out.c, o.s.trans Ho0.out.s⟩
    have HB := Lib.hid B
    replace qc_0 := X7.cell qc_0
    replace qc_1 := X7.cell qc_1
    replace qc_2 := X7.cell qc_2
    replace qc_3 := X7.cell qc_3
    replace qc_4 := X7.cell qc_4
    replace qc_5 := X7.cell qc_5
    have HX7 := Lib.hid (HX6.out.trans X7)
    have HOB : Hid (∀ k, Own b g (.slice none 0 0) k → w.heap.size ≤ k) := Lib.hid (fun k hk => by
      have := HX6.out.size
      rcases hk with e | e | e
      · omega
      · omega
      · cases e)
    generalize fsC y.V y.W y.C y.S y.n = F0 at *
    clear K o B X7 hb7 hg7 HK0 Ho0 HO6 HX6 CN ql_0 ql_1 ql_2 ql_3 ql_4 ql_5 ql_6 ql_7 ql_8 ql_9 ql_10 ql_11 ql_12 ql_13
    go_wp2_with fail
    refine (eNew _).mono ?_
    rintro e w8 ⟨rfl, hw8⟩
    have X78 : Ext w7 w8 := by rw [hw8]; exact (Ext.refl w7).alloc _
    have HLG : Hid (LG w w8 w7.heap.size (.slice none 0 0) []) := Lib.hid (by rw [hw8]; exact LG.new w w7 HX7.out)
    replace qc_0 := X78.cell qc_0
    replace qc_1 := X78.cell qc_1
    replace qc_2 := X78.cell qc_2
    replace qc_3 := X78.cell qc_3
    replace qc_4 := X78.cell qc_4
    replace qc_5 := X78.cell qc_5
    have HX8 := Lib.hid (HX7.out.trans X78)
    have HB8 := Lib.hid (HB.out.ext X78)
    clear hw8 X78 HB HX7
    generalize w7.heap.size = lb at *
    go_wp2_with fail
    refine (CYes.out b g lb y F0 _ _ [] [] w8 HK.out Hoy.out.2.1 HB8.out Hoy.out.1 HLG.out HX8.out HOB.out (HT.out _ HX8.out) (by rw [Hoy.out.2.2.2]; exact HS.out.1) (by rw [Hoy.out.2.2.2]; exact HS.out.2)).mono ?_
    rintro e w9 ⟨sb, su, ev, rfl, hST, X9, hsb⟩
    have HST := Lib.hid hST
    replace qc_0 := X9.cell qc_0
    replace qc_1 := X9.cell qc_1
    replace qc_2 := X9.cell qc_2
    replace qc_3 := X9.cell qc_3
    replace qc_4 := X9.cell qc_4
    replace qc_5 := X9.cell qc_5
    clear hST X9 hsb HB8 HLG HX8 HOB CYes CNo
    go_upto_region 15 with (fail)
    refine settle_wp ?_
    intro wa hba
    have qf_1 : wa.cell? ⟨w9.heap.size, 1, none⟩ = some (.int .i64 n) := hba.cell (by simp [go_sem])
    have qf_8 : wa.cell? ⟨w9.heap.size, 8, none⟩ = some (.int .u32 7) := hba.cell (by simp [go_sem])
    have HFB := Lib.hid (fb_new32 HST.out ⟨n, 0, 0, 0, 0, 7⟩ hba)
    have Xa : Ext w9 wa := Ext.trans ((Ext.refl w9).alloc _) hba
    replace qc_0 := Xa.cell qc_0
    replace qc_1 := Xa.cell qc_1
    replace qc_2 := Xa.cell qc_2
    replace qc_3 := Xa.cell qc_3
    replace qc_4 := Xa.cell qc_4
    replace qc_5 := Xa.cell qc_5
    have HSTa := Lib.hid (HST.out.ext Xa)
    clear hba Xa HST
    generalize w9.heap.size = fb at *
    have HSV : Hid (∀ w', Ext wa w' → Calls Tryd.prog 24 #[.pointer (some ⟨sb, 0, none⟩), .int .i64 tt, .pointer (some ⟨fb, 0, none⟩)] w' fun e w'' => e = .returned (.bool (decide (tt = 0) && decide (1 ≤ n) && decide (n ≤ capS l))) ∧ Ext w' w'') := Lib.hid (fun w' hx => by
      have h := CM.out _ HK.out Hoy.out.1 (HSTa.out.ext hx) (HFB.out.ext hx)
      rw [Hoy.out.2.2.1] at h
      exact h)
    have HLB : Hid (∀ w', Ext wa w' → Calls Tryd.prog 12 #[.pointer (some ⟨b, 0, none⟩)] w' fun e w'' => e = .returned (.int .i64 0) ∧ w' = w'') := Lib.hid (fun w' hx => Len32 b g y F0 _ [] w' (HSTa.out.ext hx).B.B)
    have HLE : Hid (∀ w', Ext wa w' → Calls Tryd.prog 13 #[.pointer (some ⟨lb, 0, none⟩)] w' fun e w'' => e = .returned (.int .i64 0) ∧ w' = w'') := Lib.hid (fun w' hx => eLen w w' lb _ [] (HSTa.out.ext hx).G)
    have HXa := Lib.hid HSTa.out.X
    clear HSTa HFB CM
    have HXX := Lib.hid (Ext.refl wa)
    go_wp2_with fail
    refine (soClaim32_void (.pointer none) (.pointer (some ⟨fb, 0, none⟩)) tt _ (soMay32_nil _ tt _)).mono ?_
    rintro e wx ⟨rfl, hx⟩
    replace qc_0 := hx.cell qc_0
    replace qc_1 := hx.cell qc_1
    replace qc_2 := hx.cell qc_2
    replace qc_3 := hx.cell qc_3
    replace qc_4 := hx.cell qc_4
    replace qc_5 := hx.cell qc_5
    replace qf_1 := hx.cell qf_1
    replace qf_8 := hx.cell qf_8
    replace HXX := Lib.hid (HXX.out.trans hx)
    clear hx
    go_wp2_with fail
    refine (soPublish32_void (.pointer none) (.pointer (some ⟨fb, 0, none⟩)) tt _ (soMay32_nil _ tt _)).mono ?_
    rintro e wx ⟨rfl, hx⟩
    replace qc_0 := hx.cell qc_0
    replace qc_1 := hx.cell qc_1
    replace qc_2 := hx.cell qc_2
    replace qc_3 := hx.cell qc_3
    replace qc_4 := hx.cell qc_4
    replace qc_5 := hx.cell qc_5
    replace qf_1 := hx.cell qf_1
    replace qf_8 := hx.cell qf_8
    replace HXX := Lib.hid (HXX.out.trans hx)
    clear hx
    go_wp2_with fail
    refine (soTip32_nil (.pointer (some ⟨fb, 0, none⟩)) tt _).mono ?_
    rintro e wx ⟨rfl, hx⟩
    replace qc_0 := hx.cell qc_0
    replace qc_1 := hx.cell qc_1
    replace qc_2 := hx.cell qc_2
    replace qc_3 := hx.cell qc_3
    replace qc_4 := hx.cell qc_4
    replace qc_5 := hx.cell qc_5
    replace qf_1 := hx.cell qf_1
    replace qf_8 := hx.cell qf_8
    replace HXX := Lib.hid (HXX.out.trans hx)
    clear hx
    go_wp2_with fail
    refine (soClaim32_void (.pointer (some ⟨sb, 0, none⟩)) (.pointer none) tt _ (soMay32_nof sb tt _)).mono ?_
    rintro e wx ⟨rfl, hx⟩
    replace qc_0 := hx.cell qc_0
    replace qc_1 := hx.cell qc_1
    replace qc_2 := hx.cell qc_2
    replace qc_3 := hx.cell qc_3
    replace qc_4 := hx.cell qc_4
    replace qc_5 := hx.cell qc_5
    replace qf_1 := hx.cell qf_1
    replace qf_8 := hx.cell qf_8
    replace HXX := Lib.hid (HXX.out.trans hx)
    clear hx
    go_wp2_with fail
    refine (soPublish32_void (.pointer (some ⟨sb, 0, none⟩)) (.pointer none) tt _ (soMay32_nof sb tt _)).mono ?_
    rintro e wx ⟨rfl, hx⟩
    replace qc_0 := hx.cell qc_0
    replace qc_1 := hx.cell qc_1
    replace qc_2 := hx.cell qc_2
    replace qc_3 := hx.cell qc_3
    replace qc_4 := hx.cell qc_4
    replace qc_5 := hx.cell qc_5
    replace qf_1 := hx.cell qf_1
    replace qf_8 := hx.cell qf_8
    replace HXX := Lib.hid (HXX.out.trans hx)
    clear hx
    go_wp2_with fail
    refine (soTip32_nof sb tt _).mono ?_
    rintro e wx ⟨rfl, hx⟩
    replace qc_0 := hx.cell qc_0
    replace qc_1 := hx.cell qc_1
    replace qc_2 := hx.cell qc_2
    replace qc_3 := hx.cell qc_3
    replace qc_4 := hx.cell qc_4
    replace qc_5 := hx.cell qc_5
    replace qf_1 := hx.cell qf_1
    replace qf_8 := hx.cell qf_8
    replace HXX := Lib.hid (HXX.out.trans hx)
    clear hx
    go_wp2_with fail
    refine (HLB.out _ HXX.out).mono ?_
    rintro e w' ⟨rfl, rfl⟩
    go_wp2_with fail
    refine (HLE.out _ HXX.out).mono ?_
    rintro e w' ⟨rfl, rfl⟩
    have hlast : (decide (0 ≤ tt) = true ∧ decide (tt < 1) = true ∧ decide (1 ≤ n) = true ∧ decide (n ≤ capS l) = true) ∨ ((decide (tt = 0) && decide (1 ≤ n) && decide (n ≤ capS l)) = false ∧ decide (0 ≤ tt) = false) ∨ ((decide (tt = 0) && decide (1 ≤ n) && decide (n ≤ capS l)) = false ∧ decide (0 ≤ tt) = true ∧ decide (tt < 1) = false) ∨ ((decide (tt = 0) && decide (1 ≤ n) && decide (n ≤ capS l)) = false ∧ decide (0 ≤ tt) = true ∧ decide (tt < 1) = true ∧ decide (1 ≤ n) = false) ∨ ((decide (tt = 0) && decide (1 ≤ n) && decide (n ≤ capS l)) = false ∧ decide (0 ≤ tt) = true ∧ decide (tt < 1) = true ∧ decide (1 ≤ n) = true ∧ decide (n ≤ capS l) = false) := by
      by_cases h1 : 0 ≤ tt
      · by_cases h2 : tt < 1
        · have h3 : tt = 0 := by omega
          by_cases h4 : 1 ≤ n
          · by_cases h5 : n ≤ capS l
            · exact .inl ⟨by simpa using h1, by simpa using h2, by simpa using h4, by simpa using h5⟩
            · exact .inr (.inr (.inr (.inr ⟨by simp; omega, by simpa using h1, by simpa using h2, by simpa using h4, by simpa using h5⟩)))
          · exact .inr (.inr (.inr (.inl ⟨by simp; omega, by simpa using h1, by simpa using h2, by simpa using h4⟩)))
        · exact .inr (.inr (.inl ⟨by simp; omega, by simpa using h1, by simpa using h2⟩))
      · exact .inr (.inl ⟨by simp; omega, by simpa using h1⟩)
    rcases hlast with ⟨b1, b2, b3, b4⟩ | ⟨hno, b1⟩ | ⟨hno, b1, b2⟩ | ⟨hno, b1, b2, b3⟩ | ⟨hno, b1, b2, b3, b4⟩
    · go_wp2_with fail
      refine (CV.out _ (HXa.out.trans HXX.out)).mono ?_
      rintro e wz ⟨rfl, hz⟩
      have HZ := Lib.hid ((HXa.out.trans HXX.out).trans hz)
      clear hz
      go_wp2
      go_ret
      exact ⟨rfl, Ext.below HZ.out⟩
    · skip
      have HM : Hid (∀ w', Ext wa w' → Calls Tryd.prog 24 #[.pointer (some ⟨sb, 0, none⟩), .int .i64 tt, .pointer (some ⟨fb, 0, none⟩)] w' (VoidF w')) := Lib.hid (fun w' hx => by
        have h := HSV.out w' hx
        rw [hno] at h
        exact h)
      clear hno
      go_wp2_with fail
      refine (soClaim32_void (.pointer (some ⟨sb, 0, none⟩)) (.pointer (some ⟨fb, 0, none⟩)) _ _ (HM.out _ HXX.out)).mono ?_
      rintro e wx ⟨rfl, hx⟩
      replace qf_1 := hx.cell qf_1
      replace HXX := Lib.hid (HXX.out.trans hx)
      clear hx
      go_wp2_with fail
      refine (soPublish32_void (.pointer (some ⟨sb, 0, none⟩)) (.pointer (some ⟨fb, 0, none⟩)) _ _ (HM.out _ HXX.out)).mono ?_
      rintro e wx ⟨rfl, hx⟩
      replace qf_1 := hx.cell qf_1
      replace HXX := Lib.hid (HXX.out.trans hx)
      clear hx
      go_wp2_with fail
      refine (HLB.out _ HXX.out).mono ?_
      rintro e w' ⟨rfl, rfl⟩
      go_wp2_with fail
      refine (HLE.out _ HXX.out).mono ?_
      rintro e w' ⟨rfl, rfl⟩
      go_wp2_with fail
      refine (CV.out _ (HXa.out.trans HXX.out)).mono ?_
      rintro e wz ⟨rfl, hz⟩
      have HZ := Lib.hid ((HXa.out.trans HXX.out).trans hz)
      clear hz
      go_wp2
      go_ret
      exact ⟨rfl, Ext.below HZ.out⟩
    · skip
      have HM : Hid (∀ w', Ext wa w' → Calls Tryd.prog 24 #[.pointer (some ⟨sb, 0, none⟩), .int .i64 tt, .pointer (some ⟨fb, 0, none⟩)] w' (VoidF w')) := Lib.hid (fun w' hx => by
        have h := HSV.out w' hx
        rw [hno] at h
        exact h)
      clear hno
      go_wp2_with fail
      refine (soClaim32_void (.pointer (some ⟨sb, 0, none⟩)) (.pointer (some ⟨fb, 0, none⟩)) _ _ (HM.out _ HXX.out)).mono ?_
      rintro e wx ⟨rfl, hx⟩
      replace qf_1 := hx.cell qf_1
      replace HXX := Lib.hid (HXX.out.trans hx)
      clear hx
      go_wp2_with fail
      refine (soPublish32_void (.pointer (some ⟨sb, 0, none⟩)) (.pointer (some ⟨fb, 0, none⟩)) _ _ (HM.out _ HXX.out)).mono ?_
      rintro e wx ⟨rfl, hx⟩
      replace qf_1 := hx.cell qf_1
      replace HXX := Lib.hid (HXX.out.trans hx)
      clear hx
      go_wp2_with fail
      refine (HLB.out _ HXX.out).mono ?_
      rintro e w' ⟨rfl, rfl⟩
      go_wp2_with fail
      refine (HLE.out _ HXX.out).mono ?_
      rintro e w' ⟨rfl, rfl⟩
      go_wp2_with fail
      refine (CV.out _ (HXa.out.trans HXX.out)).mono ?_
      rintro e wz ⟨rfl, hz⟩
      have HZ := Lib.hid ((HXa.out.trans HXX.out).trans hz)
      clear hz
      go_wp2
      go_ret
      exact ⟨rfl, Ext.below HZ.out⟩
    · skip
      have HM : Hid (∀ w', Ext wa w' → Calls Tryd.prog 24 #[.pointer (some ⟨sb, 0, none⟩), .int .i64 tt, .pointer (some ⟨fb, 0, none⟩)] w' (VoidF w')) := Lib.hid (fun w' hx => by
        have h := HSV.out w' hx
        rw [hno] at h
        exact h)
      clear hno
      go_wp2_with fail
      refine (soClaim32_void (.pointer (some ⟨sb, 0, none⟩)) (.pointer (some ⟨fb, 0, none⟩)) _ _ (HM.out _ HXX.out)).mono ?_
      rintro e wx ⟨rfl, hx⟩
      replace qf_1 := hx.cell qf_1
      replace HXX := Lib.hid (HXX.out.trans hx)
      clear hx
      go_wp2_with fail
      refine (soPublish32_void (.pointer (some ⟨sb, 0, none⟩)) (.pointer (some ⟨fb, 0, none⟩)) _ _ (HM.out _ HXX.out)).mono ?_
      rintro e wx ⟨rfl, hx⟩
      replace qf_1 := hx.cell qf_1
      replace HXX := Lib.hid (HXX.out.trans hx)
      clear hx
      go_wp2_with fail
      refine (HLB.out _ HXX.out).mono ?_
      rintro e w' ⟨rfl, rfl⟩
      go_wp2_with fail
      refine (HLE.out _ HXX.out).mono ?_
      rintro e w' ⟨rfl, rfl⟩
      go_wp2_with fail
      refine (CV.out _ (HXa.out.trans HXX.out)).mono ?_
      rintro e wz ⟨rfl, hz⟩
      have HZ := Lib.hid ((HXa.out.trans HXX.out).trans hz)
      clear hz
      go_wp2
      go_ret
      exact ⟨rfl, Ext.below HZ.out⟩
    · skip
      have HM : Hid (∀ w', Ext wa w' → Calls Tryd.prog 24 #[.pointer (some ⟨sb, 0, none⟩), .int .i64 tt, .pointer (some ⟨fb, 0, none⟩)] w' (VoidF w')) := Lib.hid (fun w' hx => by
        have h := HSV.out w' hx
        rw [hno] at h
        exact h)
      clear hno
      go_wp2_with fail
      refine (soClaim32_void (.pointer (some ⟨sb, 0, none⟩)) (.pointer (some ⟨fb, 0, none⟩)) _ _ (HM.out _ HXX.out)).mono ?_
      rintro e wx ⟨rfl, hx⟩
      replace qf_1 := hx.cell qf_1
      replace HXX := Lib.hid (HXX.out.trans hx)
      clear hx
      go_wp2_with fail
      refine (soPublish32_void (.pointer (some ⟨sb, 0, none⟩)) (.pointer (some ⟨fb, 0, none⟩)) _ _ (HM.out _ HXX.out)).mono ?_
      rintro e wx ⟨rfl, hx⟩
      replace qf_1 := hx.cell qf_1
      replace HXX := Lib.hid (HXX.out.trans hx)
      clear hx
      go_wp2_with fail
      refine (HLB.out _ HXX.out).mono ?_
      rintro e w' ⟨rfl, rfl⟩
      go_wp2_with fail
      refine (HLE.out _ HXX.out).mono ?_
      rintro e w' ⟨rfl, rfl⟩
      go_wp2_with fail
      refine (CV.out _ (HXa.out.trans HXX.out)).mono ?_
      rintro e wz ⟨rfl, hz⟩
      have HZ := Lib.hid ((HXa.out.trans HXX.out).trans hz)
      clear hz
      go_wp2
      go_ret
      exact ⟨rfl, Ext.below HZ.out⟩
  · skip
    go_enter Tryd.func3, Tryd.ntmps3
    go_upto_region 1 with (fail)
    refine settle_wp ?_
    intro w1 hb1
    have qv_0 : w1.cell? ⟨w.heap.size + 1, 0, none⟩ = some (.int .i64 va) := hb1.cell (by simp [go_sem])
    have qv_1 : w1.cell? ⟨w.heap.size + 1, 1, none⟩ = some (.int .i64 tt) := hb1.cell (by simp [go_sem])
    have qs_0 : w1.cell? ⟨w.heap.size, 0, none⟩ = some (.bool wd) := hb1.cell (by simp [go_sem])
    have qs_1 : w1.cell? ⟨w.heap.size, 1, none⟩ = some (.int .u8 l) := hb1.cell (by simp [go_sem])
    have qs_2 : w1.cell? ⟨w.heap.size, 2, none⟩ = some (.int .u8 q) := hb1.cell (by simp [go_sem])
    have qs_3 : w1.cell? ⟨w.heap.size, 3, none⟩ = some (.int .u8 k) := hb1.cell (by simp [go_sem])
    have qs_4 : w1.cell? ⟨w.heap.size, 4, none⟩ = some (.int .u64 S) := hb1.cell (by simp [go_sem])
    have X1 : Ext w w1 := Ext.trans (by repeat (first | with_reducible exact Ext.refl _ | with_reducible assumption | with_reducible refine Ext.alloc ?_ _ | with_reducible refine Ext.drew ?_ | with_reducible refine Ext.drewN ?_ _ | with_reducible refine Ext.setCell ?_ (by simp <;> omega) _ | with_reducible refine Ext.trans ?_ (by assumption))) hb1
    have HX1 := Lib.hid X1
    clear hb1 X1
    have k0 := fun w' (hx : Ext w1 w') => hx.cell qv_0
    have k1 := fun w' (hx : Ext w1 w') => hx.cell qv_1
    refine wp_region_held_drew (S := fun w' => Ext w1 w') (by kernel_rfl) ?hbeg (fun hHeld => ?_)
    case hbeg => exact (Ext.refl w1).drew
    have hHeld0 : Ext w1 w1 := by first | exact Ext.refl _ | assumption
    first
      | (refine take_at (i := 0) (v := ?_) rfl rfl (by kernel_rfl) (by kernel_rfl) (by kernel_rfl) (fun _ _ _ h => h) (Or.inl ⟨by rfl, ?hy⟩) (by assumption) ?_
         case hy => (intro wz hSw; (try dsimp only at hSw); go_simp <;> with_reducible rfl)
         simp only [List.setIfInBounds_toArray, List.set_cons_zero, List.set_cons_succ])
      | (refine take_at (i := 0) (v := undef) rfl rfl (by kernel_rfl) (by kernel_rfl) (by kernel_rfl) (fun _ _ _ h => h) (Or.inr ⟨by rfl, rfl⟩) (by assumption) ?_
         simp only [List.setIfInBounds_toArray, List.set_cons_zero, List.set_cons_succ])
    first
      | (refine take_at (i := 1) (v := ?_) rfl rfl (by kernel_rfl) (by kernel_rfl) (by kernel_rfl) (fun _ _ _ h => h) (Or.inl ⟨by rfl, ?hy⟩) (by assumption) ?_
         case hy => (intro wz hSw; (try dsimp only at hSw); go_simp <;> with_reducible rfl)
         simp only [List.setIfInBounds_toArray, List.set_cons_zero, List.set_cons_succ])
      | (refine take_at (i := 1) (v := undef) rfl rfl (by kernel_rfl) (by kernel_rfl) (by kernel_rfl) (fun _ _ _ h => h) (Or.inr ⟨by rfl, rfl⟩) (by assumption) ?_
         simp only [List.setIfInBounds_toArray, List.set_cons_zero, List.set_cons_succ])
    first
      | (refine take_at (i := 2) (v := ?_) rfl rfl (by kernel_rfl) (by kernel_rfl) (by kernel_rfl) (fun _ _ _ h => h) (Or.inl ⟨by rfl, ?hy⟩) (by assumption) ?_
         case hy => (intro wz hSw; (try dsimp only at hSw); go_simp <;> with_reducible rfl)
         simp only [List.setIfInBounds_toArray, List.set_cons_zero, List.set_cons_succ])
      | (refine take_at (i := 2) (v := undef) rfl rfl (by kernel_rfl) (by kernel_rfl) (by kernel_rfl) (fun _ _ _ h => h) (Or.inr ⟨by rfl, rfl⟩) (by assumption) ?_
         simp only [List.setIfInBounds_toArray, List.set_cons_zero, List.set_cons_succ])
    first
      | (refine take_at (i := 3) (v := ?_) rfl rfl (by kernel_rfl) (by kernel_rfl) (by kernel_rfl) (fun _ _ _ h => h) (Or.inl ⟨by rfl, ?hy⟩) (by assumption) ?_
         case hy => (intro wz hSw; (try dsimp only at hSw); go_simp <;> with_reducible rfl)
         simp only [List.setIfInBounds_toArray, List.set_cons_zero, List.set_cons_succ])
      | (refine take_at (i := 3) (v := undef) rfl rfl (by kernel_rfl) (by kernel_rfl) (by kernel_rfl) (fun _ _ _ h => h) (Or.inr ⟨by rfl, rfl⟩) (by assumption) ?_
         simp only [List.setIfInBounds_toArray, List.set_cons_zero, List.set_cons_succ])
    first
      | (refine take_at (i := 4) (v := ?_) rfl rfl (by kernel_rfl) (by kernel_rfl) (by kernel_rfl) (fun _ _ _ h => h) (Or.inl ⟨by rfl, ?hy⟩) (by assumption) ?_
         case hy => (intro wz hSw; (try dsimp only at hSw); go_simp <;> with_reducible rfl)
         simp only [List.setIfInBounds_toArray, List.set_cons_zero, List.set_cons_succ])
      | (refine take_at (i := 4) (v := undef) rfl rfl (by kernel_rfl) (by kernel_rfl) (by kernel_rfl) (fun _ _ _ h => h) (Or.inr ⟨by rfl, rfl⟩) (by assumption) ?_
         simp only [List.setIfInBounds_toArray, List.set_cons_zero, List.set_cons_succ])
    first
      | (refine take_at (i := 5) (v := ?_) rfl rfl (by kernel_rfl) (by kernel_rfl) (by kernel_rfl) (fun _ _ _ h => h) (Or.inl ⟨by rfl, ?hy⟩) (by assumption) ?_
         case hy => (intro wz hSw; (try dsimp only at hSw); go_simp <;> with_reducible rfl)
         simp only [List.setIfInBounds_toArray, List.set_cons_zero, List.set_cons_succ])
      | (refine take_at (i := 5) (v := undef) rfl rfl (by kernel_rfl) (by kernel_rfl) (by kernel_rfl) (fun _ _ _ h => h) (Or.inr ⟨by rfl, rfl⟩) (by assumption) ?_
         simp only [List.setIfInBounds_toArray, List.set_cons_zero, List.set_cons_succ])
    refine wpAnyH_done (by kernel_rfl) ?_ _
    replace qs_0 := hHeld.cell qs_0
    replace qs_1 := hHeld.cell qs_1
    replace qs_2 := hHeld.cell qs_2
    replace qs_3 := hHeld.cell qs_3
    replace qs_4 := hHeld.cell qs_4
    have HX2 := Lib.hid (HX1.out.trans hHeld)
    clear k0 k1 qv_0 qv_1 hHeld HX1
    go_wp2_with fail
    refine (CC.out _).mono ?_
    rintro e w3 ⟨ca, ccap, rfl, hL, X3⟩
    rw [HUPS.out] at hL
    have HL := Lib.hid hL
    have HX3 := Lib.hid (HX2.out.trans X3)
    clear hL X3 HX2 CC qs_0 qs_1 qs_2 qs_3 qs_4
    go_upto_region 8 with (fail)
    refine settle_wp ?_
    intro w4 hb4
    have qc_0 : w4.cell? ⟨w3.heap.size, 0, none⟩ = some (.int .i64 1) := hb4.cell (by simp [go_sem])
    have qc_1 : w4.cell? ⟨w3.heap.size, 1, none⟩ = some (.int .i64 32) := hb4.cell (by simp [go_sem])
    have qc_2 : w4.cell? ⟨w3.heap.size, 2, none⟩ = some (.int .i64 (capS l)) := hb4.cell (by simp [go_sem])
    have qc_3 : w4.cell? ⟨w3.heap.size, 3, none⟩ = some (.int .i64 1) := hb4.cell (by simp [go_sem])
    have qc_4 : w4.cell? ⟨w3.heap.size, 4, none⟩ = some (.int .u64 S) := hb4.cell (by simp [go_sem])
    have qc_5 : w4.cell? ⟨w3.heap.size, 5, none⟩ = some (.slice ca ((k % 3 + 1 : Nat)) ccap) := hb4.cell (by simp [go_sem])
    have X34 : Ext w3 w4 := Ext.trans (by repeat (first | with_reducible exact Ext.refl _ | with_reducible assumption | with_reducible refine Ext.alloc ?_ _ | with_reducible refine Ext.drew ?_ | with_reducible refine Ext.drewN ?_ _ | with_reducible refine Ext.setCell ?_ (by simp <;> omega) _ | with_reducible refine Ext.trans ?_ (by assumption))) hb4
    have HX4 := Lib.hid (HX3.out.trans X34)
    have HL4 := Lib.hid (HL.out.ext X34)
    clear hb4 X34 HX3 HL
    generalize w3.heap.size = cb at *
    go_wp2_with fail
    refine (CO.out w4 _ HL4.out).mono ?_
    rintro e wo ⟨y0, K0, o0, rfl, O0, Xo⟩
    have HK0 := Lib.hid K0
    have Ho0 := Lib.hid o0
    have HO0 := Lib.hid O0
    replace qc_0 := Xo.cell qc_0
    replace qc_1 := Xo.cell qc_1
    replace qc_2 := Xo.cell qc_2
    replace qc_3 := Xo.cell qc_3
    replace qc_4 := Xo.cell qc_4
    replace qc_5 := Xo.cell qc_5
    have HXo := Lib.hid (HX4.out.trans Xo)
    clear K0 o0 O0 Xo HL4 HX4 CO
    go_upto_region 9 with (fail)
    refine settle_wp ?_
    intro w6 hb6
    have ql_0 : w6.cell? ⟨wo.heap.size, 0, none⟩ = some (.int .i64 y0.V) := hb6.cell (by simp [go_sem])
    have ql_1 : w6.cell? ⟨wo.heap.size, 1, none⟩ = some (.int .i64 y0.W) := hb6.cell (by simp [go_sem])
    have ql_2 : w6.cell? ⟨wo.heap.size, 2, none⟩ = some (.int .i64 y0.C) := hb6.cell (by simp [go_sem])
    have ql_3 : w6.cell? ⟨wo.heap.size, 3, none⟩ = some (.int .i64 y0.P) := hb6.cell (by simp [go_sem])
    have ql_4 : w6.cell? ⟨wo.heap.size, 4, none⟩ = some (.int .u64 y0.S) := hb6.cell (by simp [go_sem])
    have ql_5 : w6.cell? ⟨wo.heap.size, 5, none⟩ = some (.slice y0.a y0.n y0.cap) := hb6.cell (by simp [go_sem])
    have ql_6 : w6.cell? ⟨wo.heap.size, 6, none⟩ = some (.int .i64 y0.Cu) := hb6.cell (by simp [go_sem])
    have ql_7 : w6.cell? ⟨wo.heap.size, 7, none⟩ = some (.int .i64 y0.Cl) := hb6.cell (by simp [go_sem])
    have ql_8 : w6.cell? ⟨wo.heap.size, 8, none⟩ = some (.int .i64 y0.Ti) := hb6.cell (by simp [go_sem])
    have ql_9 : w6.cell? ⟨wo.heap.size, 9, none⟩ = some (.int .i64 y0.Se) := hb6.cell (by simp [go_sem])
    have ql_10 : w6.cell? ⟨wo.heap.size, 10, none⟩ = some (.int .i64 y0.Ne) := hb6.cell (by simp [go_sem])
    have ql_11 : w6.cell? ⟨wo.heap.size, 11, none⟩ = some (.int .i64 y0.Ma) := hb6.cell (by simp [go_sem])
    have ql_12 : w6.cell? ⟨wo.heap.size, 12, none⟩ = some (.int .i64 y0.Sl) := hb6.cell (by simp [go_sem])
    have ql_13 : w6.cell? ⟨wo.heap.size, 13, none⟩ = some (.int .i64 y0.m) := hb6.cell (by simp [go_sem])
    have X6 : Ext wo w6 := Ext.trans ((Ext.refl wo).alloc _) hb6
    replace qc_0 := X6.cell qc_0
    replace qc_1 := X6.cell qc_1
    replace qc_2 := X6.cell qc_2
    replace qc_3 := X6.cell qc_3
    replace qc_4 := X6.cell qc_4
    replace qc_5 := X6.cell qc_5
    have HX6 := Lib.hid (HXo.out.trans X6)
    have HO6 := Lib.hid (HO0.out.ext X6)
    clear hb6 X6 HXo HO0
    go_wp2_with fail
    refine (CN.out y0 _ HK0.out Ho0.out.w HO6.out (by rw [Ho0.out.s]; exact HS.out.1) (by rw [Ho0.out.s]; exact HS.out.2)).mono ?_
    rintro e w7 ⟨b, g, y, rfl, K, o, B, X7, hb7, hg7⟩
    have HK := Lib.hid K
    have Hoy : Hid (y.V = 1 ∧ y.W = 32 ∧ y.C = capS l ∧ y.S = S) := Lib.hid ⟨o.v.trans Ho0.out.v, o.w.trans Ho0.out.w, o.c.trans Ho0.out.c, o.s.trans Ho0.out.s⟩
    have HB := Lib.hid B
    replace qc_0 := X7.cell qc_0
    replace qc_1 := X7.cell qc_1
    replace qc_2 := X7.cell qc_2
    replace qc_3 := X7.cell qc_3
    replace qc_4 := X7.cell qc_4
    replace qc_5 := X7.cell qc_5
    have HX7 := Lib.hid (HX6.out.trans X7)
    have HOB : Hid (∀ k, Own b g (.slice none 0 0) k → w.heap.size ≤ k) := Lib.hid (fun k hk => by
      have := HX6.out.size
      rcases hk with e | e | e
      · omega
      · omega
      · cases e)
    generalize fsC y.V y.W y.C y.S y.n = F0 at *
    clear K o B X7 hb7 hg7 HK0 Ho0 HO6 HX6 CN ql_0 ql_1 ql_2 ql_3 ql_4 ql_5 ql_6 ql_7 ql_8 ql_9 ql_10 ql_11 ql_12 ql_13
    go_wp2_with fail
    refine (eNew _).mono ?_
    rintro e w8 ⟨rfl, hw8⟩
    have X78 : Ext w7 w8 := by rw [hw8]; exact (Ext.refl w7).alloc _
    have HLG : Hid (LG w w8 w7.heap.size (.slice none 0 0) []) := Lib.hid (by rw [hw8]; exact LG.new w w7 HX7.out)
    replace qc_0 := X78.cell qc_0
    replace qc_1 := X78.cell qc_1
    replace qc_2 := X78.cell qc_2
    replace qc_3 := X78.cell qc_3
    replace qc_4 := X78.cell qc_4
    replace qc_5 := X78.cell qc_5
    have HX8 := Lib.hid (HX7.out.trans X78)
    have HB8 := Lib.hid (HB.out.ext X78)
    clear hw8 X78 HB HX7
    generalize w7.heap.size = lb at *
    go_wp2_with fail
    refine (CYes.out b g lb y F0 _ _ [] [] w8 HK.out Hoy.out.2.1 HB8.out Hoy.out.1 HLG.out HX8.out HOB.out (HT.out _ HX8.out) (by rw [Hoy.out.2.2.2]; exact HS.out.1) (by rw [Hoy.out.2.2.2]; exact HS.out.2)).mono ?_
    rintro e w9 ⟨sb, su, ev, rfl, hST, X9, hsb⟩
    have HST := Lib.hid hST
    replace qc_0 := X9.cell qc_0
    replace qc_1 := X9.cell qc_1
    replace qc_2 := X9.cell qc_2
    replace qc_3 := X9.cell qc_3
    replace qc_4 := X9.cell qc_4
    replace qc_5 := X9.cell qc_5
    clear hST X9 hsb HB8 HLG HX8 HOB CYes CNo
    go_upto_region 15 with (fail)
    refine settle_wp ?_
    intro wa hba
    have qf_1 : wa.cell? ⟨w9.heap.size, 1, none⟩ = some (.int .i64 n) := hba.cell (by simp [go_sem])
    have qf_8 : wa.cell? ⟨w9.heap.size, 8, none⟩ = some (.int .u32 7) := hba.cell (by simp [go_sem])
    have HFB := Lib.hid (fb_new32 HST.out ⟨n, 0, 0, 0, 0, 7⟩ hba)
    have Xa : Ext w9 wa := Ext.trans ((Ext.refl w9).alloc _) hba
    replace qc_0 := Xa.cell qc_0
    replace qc_1 := Xa.cell qc_1
    replace qc_2 := Xa.cell qc_2
    replace qc_3 := Xa.cell qc_3
    replace qc_4 := Xa.cell qc_4
    replace qc_5 := Xa.cell qc_5
    have HSTa := Lib.hid (HST.out.ext Xa)
    clear hba Xa HST
    generalize w9.heap.size = fb at *
    have HSV : Hid (∀ w', Ext wa w' → Calls Tryd.prog 24 #[.pointer (some ⟨sb, 0, none⟩), .int .i64 tt, .pointer (some ⟨fb, 0, none⟩)] w' fun e w'' => e = .returned (.bool (decide (tt = 0) && decide (1 ≤ n) && decide (n ≤ capS l))) ∧ Ext w' w'') := Lib.hid (fun w' hx => by
      have h := CM.out _ HK.out Hoy.out.1 (HSTa.out.ext hx) (HFB.out.ext hx)
      rw [Hoy.out.2.2.1] at h
      exact h)
    have HLB : Hid (∀ w', Ext wa w' → Calls Tryd.prog 12 #[.pointer (some ⟨b, 0, none⟩)] w' fun e w'' => e = .returned (.int .i64 0) ∧ w' = w'') := Lib.hid (fun w' hx => Len32 b g y F0 _ [] w' (HSTa.out.ext hx).B.B)
    have HLE : Hid (∀ w', Ext wa w' → Calls Tryd.prog 13 #[.pointer (some ⟨lb, 0, none⟩)] w' fun e w'' => e = .returned (.int .i64 0) ∧ w' = w'') := Lib.hid (fun w' hx => eLen w w' lb _ [] (HSTa.out.ext hx).G)
    have HXa := Lib.hid HSTa.out.X
    clear HSTa HFB CM
    have HXX := Lib.hid (Ext.refl wa)
    go_wp2_with fail
    refine (soClaim32_void (.pointer none) (.pointer (some ⟨fb, 0, none⟩)) tt _ (soMay32_nil _ tt _)).mono ?_
    rintro e wx ⟨rfl, hx⟩
    replace qc_0 := hx.cell qc_0
    replace qc_1 := hx.cell qc_1
    replace qc_2 := hx.cell qc_2
    replace qc_3 := hx.cell qc_3
    replace qc_4 := hx.cell qc_4
    replace qc_5 := hx.cell qc_5
    replace qf_1 := hx.cell qf_1
    replace qf_8 := hx.cell qf_8
    replace HXX := Lib.hid (HXX.out.trans hx)
    clear hx
    go_wp2_with fail
    refine (soPublish32_void (.pointer none) (.pointer (some ⟨fb, 0, none⟩)) tt _ (soMay32_nil _ tt _)).mono ?_
    rintro e wx ⟨rfl, hx⟩
    replace qc_0 := hx.cell qc_0
    replace qc_1 := hx.cell qc_1
    replace qc_2 := hx.cell qc_2
    replace qc_3 := hx.cell qc_3
    replace qc_4 := hx.cell qc_4
    replace qc_5 := hx.cell qc_5
    replace qf_1 := hx.cell qf_1
    replace qf_8 := hx.cell qf_8
    replace HXX := Lib.hid (HXX.out.trans hx)
    clear hx
    go_wp2_with fail
    refine (soTip32_nil (.pointer (some ⟨fb, 0, none⟩)) tt _).mono ?_
    rintro e wx ⟨rfl, hx⟩
    replace qc_0 := hx.cell qc_0
    replace qc_1 := hx.cell qc_1
    replace qc_2 := hx.cell qc_2
    replace qc_3 := hx.cell qc_3
    replace qc_4 := hx.cell qc_4
    replace qc_5 := hx.cell qc_5
    replace qf_1 := hx.cell qf_1
    replace qf_8 := hx.cell qf_8
    replace HXX := Lib.hid (HXX.out.trans hx)
    clear hx
    go_wp2_with fail
    refine (soClaim32_void (.pointer (some ⟨sb, 0, none⟩)) (.pointer none) tt _ (soMay32_nof sb tt _)).mono ?_
    rintro e wx ⟨rfl, hx⟩
    replace qc_0 := hx.cell qc_0
    replace qc_1 := hx.cell qc_1
    replace qc_2 := hx.cell qc_2
    replace qc_3 := hx.cell qc_3
    replace qc_4 := hx.cell qc_4
    replace qc_5 := hx.cell qc_5
    replace qf_1 := hx.cell qf_1
    replace qf_8 := hx.cell qf_8
    replace HXX := Lib.hid (HXX.out.trans hx)
    clear hx
    go_wp2_with fail
    refine (soPublish32_void (.pointer (some ⟨sb, 0, none⟩)) (.pointer none) tt _ (soMay32_nof sb tt _)).mono ?_
    rintro e wx ⟨rfl, hx⟩
    replace qc_0 := hx.cell qc_0
    replace qc_1 := hx.cell qc_1
    replace qc_2 := hx.cell qc_2
    replace qc_3 := hx.cell qc_3
    replace qc_4 := hx.cell qc_4
    replace qc_5 := hx.cell qc_5
    replace qf_1 := hx.cell qf_1
    replace qf_8 := hx.cell qf_8
    replace HXX := Lib.hid (HXX.out.trans hx)
    clear hx
    go_wp2_with fail
    refine (soTip32_nof sb tt _).mono ?_
    rintro e wx ⟨rfl, hx⟩
    replace qc_0 := hx.cell qc_0
    replace qc_1 := hx.cell qc_1
    replace qc_2 := hx.cell qc_2
    replace qc_3 := hx.cell qc_3
    replace qc_4 := hx.cell qc_4
    replace qc_5 := hx.cell qc_5
    replace qf_1 := hx.cell qf_1
    replace qf_8 := hx.cell qf_8
    replace HXX := Lib.hid (HXX.out.trans hx)
    clear hx
    go_wp2_with fail
    refine (HLB.out _ HXX.out).mono ?_
    rintro e w' ⟨rfl, rfl⟩
    go_wp2_with fail
    refine (HLE.out _ HXX.out).mono ?_
    rintro e w' ⟨rfl, rfl⟩
    have hlast : (decide (0 ≤ tt) = true ∧ decide (tt < 1) = true ∧ decide (1 ≤ n) = true ∧ decide (n ≤ capS l) = true) ∨ ((decide (tt = 0) && decide (1 ≤ n) && decide (n ≤ capS l)) = false ∧ decide (0 ≤ tt) = false) ∨ ((decide (tt = 0) && decide (1 ≤ n) && decide (n ≤ capS l)) = false ∧ decide (0 ≤ tt) = true ∧ decide (tt < 1) = false) ∨ ((decide (tt = 0) && decide (1 ≤ n) && decide (n ≤ capS l)) = false ∧ decide (0 ≤ tt) = true ∧ decide (tt < 1) = true ∧ decide (1 ≤ n) = false) ∨ ((decide (tt = 0) && decide (1 ≤ n) && decide (n ≤ capS l)) = false ∧ decide (0 ≤ tt) = true ∧ decide (tt < 1) = true ∧ decide (1 ≤ n) = true ∧ decide (n ≤ capS l) = false) := by
      by_cases h1 : 0 ≤ tt
      · by_cases h2 : tt < 1
        · have h3 : tt = 0 := by omega
          by_cases h4 : 1 ≤ n
          · by_cases h5 : n ≤ capS l
            · exact .inl ⟨by simpa using h1, by simpa using h2, by simpa using h4, by simpa using h5⟩
            · exact .inr (.inr (.inr (.inr ⟨by simp; omega, by simpa using h1, by simpa using h2, by simpa using h4, by simpa using h5⟩)))
          · exact .inr (.inr (.inr (.inl ⟨by simp; omega, by simpa using h1, by simpa using h2, by simpa using h4⟩)))
        · exact .inr (.inr (.inl ⟨by simp; omega, by simpa using h1, by simpa using h2⟩))
      · exact .inr (.inl ⟨by simp; omega, by simpa using h1⟩)
    rcases hlast with ⟨b1, b2, b3, b4⟩ | ⟨hno, b1⟩ | ⟨hno, b1, b2⟩ | ⟨hno, b1, b2, b3⟩ | ⟨hno, b1, b2, b3, b4⟩
    · go_wp2_with fail
      refine (CV.out _ (HXa.out.trans HXX.out)).mono ?_
      rintro e wz ⟨rfl, hz⟩
      have HZ := Lib.hid ((HXa.out.trans HXX.out).trans hz)
      clear hz
      go_wp2
      go_ret
      exact ⟨rfl, Ext.below HZ.out⟩
    · skip
      have HM : Hid (∀ w', Ext wa w' → Calls Tryd.prog 24 #[.pointer (some ⟨sb, 0, none⟩), .int .i64 tt, .pointer (some ⟨fb, 0, none⟩)] w' (VoidF w')) := Lib.hid (fun w' hx => by
        have h := HSV.out w' hx
        rw [hno] at h
        exact h)
      clear hno
      go_wp2_with fail
      refine (soClaim32_void (.pointer (some ⟨sb, 0, none⟩)) (.pointer (some ⟨fb, 0, none⟩)) _ _ (HM.out _ HXX.out)).mono ?_
      rintro e wx ⟨rfl, hx⟩
      replace qf_1 := hx.cell qf_1
      replace HXX := Lib.hid (HXX.out.trans hx)
      clear hx
      go_wp2_with fail
      refine (soPublish32_void (.pointer (some ⟨sb, 0, none⟩)) (.pointer (some ⟨fb, 0, none⟩)) _ _ (HM.out _ HXX.out)).mono ?_
      rintro e wx ⟨rfl, hx⟩
      replace qf_1 := hx.cell qf_1
      replace HXX := Lib.hid (HXX.out.trans hx)
      clear hx
      go_wp2_with fail
      refine (HLB.out _ HXX.out).mono ?_
      rintro e w' ⟨rfl, rfl⟩
      go_wp2_with fail
      refine (HLE.out _ HXX.out).mono ?_
      rintro e w' ⟨rfl, rfl⟩
      go_wp2_with fail
      refine (CV.out _ (HXa.out.trans HXX.out)).mono ?_
      rintro e wz ⟨rfl, hz⟩
      have HZ := Lib.hid ((HXa.out.trans HXX.out).trans hz)
      clear hz
      go_wp2
      go_ret
      exact ⟨rfl, Ext.below HZ.out⟩
    · skip
      have HM : Hid (∀ w', Ext wa w' → Calls Tryd.prog 24 #[.pointer (some ⟨sb, 0, none⟩), .int .i64 tt, .pointer (some ⟨fb, 0, none⟩)] w' (VoidF w')) := Lib.hid (fun w' hx => by
        have h := HSV.out w' hx
        rw [hno] at h
        exact h)
      clear hno
      go_wp2_with fail
      refine (soClaim32_void (.pointer (some ⟨sb, 0, none⟩)) (.pointer (some ⟨fb, 0, none⟩)) _ _ (HM.out _ HXX.out)).mono ?_
      rintro e wx ⟨rfl, hx⟩
      replace qf_1 := hx.cell qf_1
      replace HXX := Lib.hid (HXX.out.trans hx)
      clear hx
      go_wp2_with fail
      refine (soPublish32_void (.pointer (some ⟨sb, 0, none⟩)) (.pointer (some ⟨fb, 0, none⟩)) _ _ (HM.out _ HXX.out)).mono ?_
      rintro e wx ⟨rfl, hx⟩
      replace qf_1 := hx.cell qf_1
      replace HXX := Lib.hid (HXX.out.trans hx)
      clear hx
      go_wp2_with fail
      refine (HLB.out _ HXX.out).mono ?_
      rintro e w' ⟨rfl, rfl⟩
      go_wp2_with fail
      refine (HLE.out _ HXX.out).mono ?_
      rintro e w' ⟨rfl, rfl⟩
      go_wp2_with fail
      refine (CV.out _ (HXa.out.trans HXX.out)).mono ?_
      rintro e wz ⟨rfl, hz⟩
      have HZ := Lib.hid ((HXa.out.trans HXX.out).trans hz)
      clear hz
      go_wp2
      go_ret
      exact ⟨rfl, Ext.below HZ.out⟩
    · skip
      have HM : Hid (∀ w', Ext wa w' → Calls Tryd.prog 24 #[.pointer (some ⟨sb, 0, none⟩), .int .i64 tt, .pointer (some ⟨fb, 0, none⟩)] w' (VoidF w')) := Lib.hid (fun w' hx => by
        have h := HSV.out w' hx
        rw [hno] at h
        exact h)
      clear hno
      go_wp2_with fail
      refine (soClaim32_void (.pointer (some ⟨sb, 0, none⟩)) (.pointer (some ⟨fb, 0, none⟩)) _ _ (HM.out _ HXX.out)).mono ?_
      rintro e wx ⟨rfl, hx⟩
      replace qf_1 := hx.cell qf_1
      replace HXX := Lib.hid (HXX.out.trans hx)
      clear hx
      go_wp2_with fail
      refine (soPublish32_void (.pointer (some ⟨sb, 0, none⟩)) (.pointer (some ⟨fb, 0, none⟩)) _ _ (HM.out _ HXX.out)).mono ?_
      rintro e wx ⟨rfl, hx⟩
      replace qf_1 := hx.cell qf_1
      replace HXX := Lib.hid (HXX.out.trans hx)
      clear hx
      go_wp2_with fail
      refine (HLB.out _ HXX.out).mono ?_
      rintro e w' ⟨rfl, rfl⟩
      go_wp2_with fail
      refine (HLE.out _ HXX.out).mono ?_
      rintro e w' ⟨rfl, rfl⟩
      go_wp2_with fail
      refine (CV.out _ (HXa.out.trans HXX.out)).mono ?_
      rintro e wz ⟨rfl, hz⟩
      have HZ := Lib.hid ((HXa.out.trans HXX.out).trans hz)
      clear hz
      go_wp2
      go_ret
      exact ⟨rfl, Ext.below HZ.out⟩
    · skip
      have HM : Hid (∀ w', Ext wa w' → Calls Tryd.prog 24 #[.pointer (some ⟨sb, 0, none⟩), .int .i64 tt, .pointer (some ⟨fb, 0, none⟩)] w' (VoidF w')) := Lib.hid (fun w' hx => by
        have h := HSV.out w' hx
        rw [hno] at h
        exact h)
      clear hno
      go_wp2_with fail
      refine (soClaim32_void (.pointer (some ⟨sb, 0, none⟩)) (.pointer (some ⟨fb, 0, none⟩)) _ _ (HM.out _ HXX.out)).mono ?_
      rintro e wx ⟨rfl, hx⟩
      replace qf_1 := hx.cell qf_1
      replace HXX := Lib.hid (HXX.out.trans hx)
      clear hx
      go_wp2_with fail
      refine (soPublish32_void (.pointer (some ⟨sb, 0, none⟩)) (.pointer (some ⟨fb, 0, none⟩)) _ _ (HM.out _ HXX.out)).mono ?_
      rintro e wx ⟨rfl, hx⟩
      replace qf_1 := hx.cell qf_1
      replace HXX := Lib.hid (HXX.out.trans hx)
      clear hx
      go_wp2_with fail
      refine (HLB.out _ HXX.out).mono ?_
      rintro e w' ⟨rfl, rfl⟩
      go_wp2_with fail
      refine (HLE.out _ HXX.out).mono ?_
      rintro e w' ⟨rfl, rfl⟩
      go_wp2_with fail
      refine (CV.out _ (HXa.out.trans HXX.out)).mono ?_
      rintro e wz ⟨rfl, hz⟩
      have HZ := Lib.hid ((HXa.out.trans HXX.out).trans hz)
      clear hz
      go_wp2
      go_ret
      exact ⟨rfl, Ext.below HZ.out⟩
  · skip
    go_enter Tryd.func3, Tryd.ntmps3
    go_upto_region 1 with (fail)
    refine settle_wp ?_
    intro w1 hb1
    have qv_0 : w1.cell? ⟨w.heap.size + 1, 0, none⟩ = some (.int .i64 1) := hb1.cell (by simp [go_sem])
    have qv_1 : w1.cell? ⟨w.heap.size + 1, 1, none⟩ = some (.int .i64 tt) := hb1.cell (by simp [go_sem])
    have qs_0 : w1.cell? ⟨w.heap.size, 0, none⟩ = some (.bool wd) := hb1.cell (by simp [go_sem])
    have qs_1 : w1.cell? ⟨w.heap.size, 1, none⟩ = some (.int .u8 l) := hb1.cell (by simp [go_sem])
    have qs_2 : w1.cell? ⟨w.heap.size, 2, none⟩ = some (.int .u8 q) := hb1.cell (by simp [go_sem])
    have qs_3 : w1.cell? ⟨w.heap.size, 3, none⟩ = some (.int .u8 k) := hb1.cell (by simp [go_sem])
    have qs_4 : w1.cell? ⟨w.heap.size, 4, none⟩ = some (.int .u64 S) := hb1.cell (by simp [go_sem])
    have X1 : Ext w w1 := Ext.trans (by repeat (first | with_reducible exact Ext.refl _ | with_reducible assumption | with_reducible refine Ext.alloc ?_ _ | with_reducible refine Ext.drew ?_ | with_reducible refine Ext.drewN ?_ _ | with_reducible refine Ext.setCell ?_ (by simp <;> omega) _ | with_reducible refine Ext.trans ?_ (by assumption))) hb1
    have HX1 := Lib.hid X1
    clear hb1 X1
    have k0 := fun w' (hx : Ext w1 w') => hx.cell qv_0
    have k1 := fun w' (hx : Ext w1 w') => hx.cell qv_1
    refine wp_region_held_drew (S := fun w' => Ext w1 w') (by kernel_rfl) ?hbeg (fun hHeld => ?_)
    case hbeg => exact (Ext.refl w1).drew
    have hHeld0 : Ext w1 w1 := by first | exact Ext.refl _ | assumption
    first
      | (refine take_at (i := 0) (v := ?_) rfl rfl (by kernel_rfl) (by kernel_rfl) (by kernel_rfl) (fun _ _ _ h => h) (Or.inl ⟨by rfl, ?hy⟩) (by assumption) ?_
         case hy => (intro wz hSw; (try dsimp only at hSw); go_simp <;> with_reducible rfl)
         simp only [List.setIfInBounds_toArray, List.set_cons_zero, List.set_cons_succ])
      | (refine take_at (i := 0) (v := undef) rfl rfl (by kernel_rfl) (by kernel_rfl) (by kernel_rfl) (fun _ _ _ h => h) (Or.inr ⟨by rfl, rfl⟩) (by assumption) ?_
         simp only [List.setIfInBounds_toArray, List.set_cons_zero, List.set_cons_succ])
    first
      | (refine take_at (i := 1) (v := ?_) rfl rfl (by kernel_rfl) (by kernel_rfl) (by kernel_rfl) (fun _ _ _ h => h) (Or.inl ⟨by rfl, ?hy⟩) (by assumption) ?_
         case hy => (intro wz hSw; (try dsimp only at hSw); go_simp <;> with_reducible rfl)
         simp only [List.setIfInBounds_toArray, List.set_cons_zero, List.set_cons_succ])
      | (refine take_at (i := 1) (v := undef) rfl rfl (by kernel_rfl) (by kernel_rfl) (by kernel_rfl) (fun _ _ _ h => h) (Or.inr ⟨by rfl, rfl⟩) (by assumption) ?_
         simp only [List.setIfInBounds_toArray, List.set_cons_zero, List.set_cons_succ])
    first
      | (refine take_at (i := 2) (v := ?_) rfl rfl (by kernel_rfl) (by kernel_rfl) (by kernel_rfl) (fun _ _ _ h => h) (Or.inl ⟨by rfl, ?hy⟩) (by assumption) ?_
         case hy => (intro wz hSw; (try dsimp only at hSw); go_simp <;> with_reducible rfl)
         simp only [List.setIfInBounds_toArray, List.set_cons_zero, List.set_cons_succ])
      | (refine take_at (i := 2) (v := undef) rfl rfl (by kernel_rfl) (by kernel_rfl) (by kernel_rfl) (fun _ _ _ h => h) (Or.inr ⟨by rfl, rfl⟩) (by assumption) ?_
         simp only [List.setIfInBounds_toArray, List.set_cons_zero, List.set_cons_succ])
    first
      | (refine take_at (i := 3) (v := ?_) rfl rfl (by kernel_rfl) (by kernel_rfl) (by kernel_rfl) (fun _ _ _ h => h) (Or.inl ⟨by rfl, ?hy⟩) (by assumption) ?_
         case hy => (intro wz hSw; (try dsimp only at hSw); go_simp <;> with_reducible rfl)
         simp only [List.setIfInBounds_toArray, List.set_cons_zero, List.set_cons_succ])
      | (refine take_at (i := 3) (v := undef) rfl rfl (by kernel_rfl) (by kernel_rfl) (by kernel_rfl) (fun _ _ _ h => h) (Or.inr ⟨by rfl, rfl⟩) (by assumption) ?_
         simp only [List.setIfInBounds_toArray, List.set_cons_zero, List.set_cons_succ])
    first
      | (refine take_at (i := 4) (v := ?_) rfl rfl (by kernel_rfl) (by kernel_rfl) (by kernel_rfl) (fun _ _ _ h => h) (Or.inl ⟨by rfl, ?hy⟩) (by assumption) ?_
         case hy => (intro wz hSw; (try dsimp only at hSw); go_simp <;> with_reducible rfl)
         simp only [List.setIfInBounds_toArray, List.set_cons_zero, List.set_cons_succ])
      | (refine take_at (i := 4) (v := undef) rfl rfl (by kernel_rfl) (by kernel_rfl) (by kernel_rfl) (fun _ _ _ h => h) (Or.inr ⟨by rfl, rfl⟩) (by assumption) ?_
         simp only [List.setIfInBounds_toArray, List.set_cons_zero, List.set_cons_succ])
    first
      | (refine take_at (i := 5) (v := ?_) rfl rfl (by kernel_rfl) (by kernel_rfl) (by kernel_rfl) (fun _ _ _ h => h) (Or.inl ⟨by rfl, ?hy⟩) (by assumption) ?_
         case hy => (intro wz hSw; (try dsimp only at hSw); go_simp <;> with_reducible rfl)
         simp only [List.setIfInBounds_toArray, List.set_cons_zero, List.set_cons_succ])
      | (refine take_at (i := 5) (v := undef) rfl rfl (by kernel_rfl) (by kernel_rfl) (by kernel_rfl) (fun _ _ _ h => h) (Or.inr ⟨by rfl, rfl⟩) (by assumption) ?_
         simp only [List.setIfInBounds_toArray, List.set_cons_zero, List.set_cons_succ])
    refine wpAnyH_done (by kernel_rfl) ?_ _
    replace qs_0 := hHeld.cell qs_0
    replace qs_1 := hHeld.cell qs_1
    replace qs_2 := hHeld.cell qs_2
    replace qs_3 := hHeld.cell qs_3
    replace qs_4 := hHeld.cell qs_4
    have HX2 := Lib.hid (HX1.out.trans hHeld)
    clear k0 k1 qv_0 qv_1 hHeld HX1
    go_wp2_with fail
    refine (CC.out _).mono ?_
    rintro e w3 ⟨ca, ccap, rfl, hL, X3⟩
    rw [HUPS.out] at hL
    have HL := Lib.hid hL
    have HX3 := Lib.hid (HX2.out.trans X3)
    clear hL X3 HX2 CC qs_0 qs_1 qs_2 qs_3 qs_4
    go_upto_region 8 with (fail)
    refine settle_wp ?_
    intro w4 hb4
    have qc_0 : w4.cell? ⟨w3.heap.size, 0, none⟩ = some (.int .i64 1) := hb4.cell (by simp [go_sem])
    have qc_1 : w4.cell? ⟨w3.heap.size, 1, none⟩ = some (.int .i64 32) := hb4.cell (by simp [go_sem])
    have qc_2 : w4.cell? ⟨w3.heap.size, 2, none⟩ = some (.int .i64 (capS l)) := hb4.cell (by simp [go_sem])
    have qc_3 : w4.cell? ⟨w3.heap.size, 3, none⟩ = some (.int .i64 1) := hb4.cell (by simp [go_sem])
    have qc_4 : w4.cell? ⟨w3.heap.size, 4, none⟩ = some (.int .u64 S) := hb4.cell (by simp [go_sem])
    have qc_5 : w4.cell? ⟨w3.heap.size, 5, none⟩ = some (.slice ca ((k % 3 + 1 : Nat)) ccap) := hb4.cell (by simp [go_sem])
    have X34 : Ext w3 w4 := Ext.trans (by repeat (first | with_reducible exact Ext.refl _ | with_reducible assumption | with_reducible refine Ext.alloc ?_ _ | with_reducible refine Ext.drew ?_ | with_reducible refine Ext.drewN ?_ _ | with_reducible refine Ext.setCell ?_ (by simp <;> omega) _ | with_reducible refine Ext.trans ?_ (by assumption))) hb4
    have HX4 := Lib.hid (HX3.out.trans X34)
    have HL4 := Lib.hid (HL.out.ext X34)
    clear hb4 X34 HX3 HL
    generalize w3.heap.size = cb at *
    go_wp2_with fail
    refine (CO.out w4 _ HL4.out).mono ?_
    rintro e wo ⟨y0, K0, o0, rfl, O0, Xo⟩
    have HK0 := Lib.hid K0
    have Ho0 := Lib.hid o0
    have HO0 := Lib.hid O0
    replace qc_0 := Xo.cell qc_0
    replace qc_1 := Xo.cell qc_1
    replace qc_2 := Xo.cell qc_2
    replace qc_3 := Xo.cell qc_3
    replace qc_4 := Xo.cell qc_4
    replace qc_5 := Xo.cell qc_5
    have HXo := Lib.hid (HX4.out.trans Xo)
    clear K0 o0 O0 Xo HL4 HX4 CO
    go_upto_region 9 with (fail)
    refine settle_wp ?_
    intro w6 hb6
    have ql_0 : w6.cell? ⟨wo.heap.size, 0, none⟩ = some (.int .i64 y0.V) := hb6.cell (by simp [go_sem])
    have ql_1 : w6.cell? ⟨wo.heap.size, 1, none⟩ = some (.int .i64 y0.W) := hb6.cell (by simp [go_sem])
    have ql_2 : w6.cell? ⟨wo.heap.size, 2, none⟩ = some (.int .i64 y0.C) := hb6.cell (by simp [go_sem])
    have ql_3 : w6.cell? ⟨wo.heap.size, 3, none⟩ = some (.int .i64 y0.P) := hb6.cell (by simp [go_sem])
    have ql_4 : w6.cell? ⟨wo.heap.size, 4, none⟩ = some (.int .u64 y0.S) := hb6.cell (by simp [go_sem])
    have ql_5 : w6.cell? ⟨wo.heap.size, 5, none⟩ = some (.slice y0.a y0.n y0.cap) := hb6.cell (by simp [go_sem])
    have ql_6 : w6.cell? ⟨wo.heap.size, 6, none⟩ = some (.int .i64 y0.Cu) := hb6.cell (by simp [go_sem])
    have ql_7 : w6.cell? ⟨wo.heap.size, 7, none⟩ = some (.int .i64 y0.Cl) := hb6.cell (by simp [go_sem])
    have ql_8 : w6.cell? ⟨wo.heap.size, 8, none⟩ = some (.int .i64 y0.Ti) := hb6.cell (by simp [go_sem])
    have ql_9 : w6.cell? ⟨wo.heap.size, 9, none⟩ = some (.int .i64 y0.Se) := hb6.cell (by simp [go_sem])
    have ql_10 : w6.cell? ⟨wo.heap.size, 10, none⟩ = some (.int .i64 y0.Ne) := hb6.cell (by simp [go_sem])
    have ql_11 : w6.cell? ⟨wo.heap.size, 11, none⟩ = some (.int .i64 y0.Ma) := hb6.cell (by simp [go_sem])
    have ql_12 : w6.cell? ⟨wo.heap.size, 12, none⟩ = some (.int .i64 y0.Sl) := hb6.cell (by simp [go_sem])
    have ql_13 : w6.cell? ⟨wo.heap.size, 13, none⟩ = some (.int .i64 y0.m) := hb6.cell (by simp [go_sem])
    have X6 : Ext wo w6 := Ext.trans ((Ext.refl wo).alloc _) hb6
    replace qc_0 := X6.cell qc_0
    replace qc_1 := X6.cell qc_1
    replace qc_2 := X6.cell qc_2
    replace qc_3 := X6.cell qc_3
    replace qc_4 := X6.cell qc_4
    replace qc_5 := X6.cell qc_5
    have HX6 := Lib.hid (HXo.out.trans X6)
    have HO6 := Lib.hid (HO0.out.ext X6)
    clear hb6 X6 HXo HO0
    go_wp2_with fail
    refine (CN.out y0 _ HK0.out Ho0.out.w HO6.out (by rw [Ho0.out.s]; exact HS.out.1) (by rw [Ho0.out.s]; exact HS.out.2)).mono ?_
    rintro e w7 ⟨b, g, y, rfl, K, o, B, X7, hb7, hg7⟩
    have HK := Lib.hid K
    have Hoy : Hid (y.V = 1 ∧ y.W = 32 ∧ y.C = capS l ∧ y.S = S) := Lib.hid ⟨o.v.trans Ho0.out.v, o.w.trans Ho0.out.w, o.c.trans Ho0.out.c, o.s.trans Ho0.out.s⟩
    have HB := Lib.hid B
    replace qc_0 := X7.cell qc_0
    replace qc_1 := X7.cell qc_1
    replace qc_2 := X7.cell qc_2
    replace qc_3 := X7.cell qc_3
    replace qc_4 := X7.cell qc_4
    replace qc_5 := X7.cell qc_5
    have HX7 := Lib.hid (HX6.out.trans X7)
    have HOB : Hid (∀ k, Own b g (.slice none 0 0) k → w.heap.size ≤ k) := Lib.hid (fun k hk => by
      have := HX6.out.size
      rcases hk with e | e | e
      · omega
      · omega
      · cases e)
    generalize fsC y.V y.W y.C y.S y.n = F0 at *
    clear K o B X7 hb7 hg7 HK0 Ho0 HO6 HX6 CN ql_0 ql_1 ql_2 ql_3 ql_4 ql_5 ql_6 ql_7 ql_8 ql_9 ql_10 ql_11 ql_12 ql_13
    go_wp2_with fail
    refine (eNew _).mono ?_
    rintro e w8 ⟨rfl, hw8⟩
    have X78 : Ext w7 w8 := by rw [hw8]; exact (Ext.refl w7).alloc _
    have HLG : Hid (LG w w8 w7.heap.size (.slice none 0 0) []) := Lib.hid (by rw [hw8]; exact LG.new w w7 HX7.out)
    replace qc_0 := X78.cell qc_0
    replace qc_1 := X78.cell qc_1
    replace qc_2 := X78.cell qc_2
    replace qc_3 := X78.cell qc_3
    replace qc_4 := X78.cell qc_4
    replace qc_5 := X78.cell qc_5
    have HX8 := Lib.hid (HX7.out.trans X78)
    have HB8 := Lib.hid (HB.out.ext X78)
    clear hw8 X78 HB HX7
    generalize w7.heap.size = lb at *
    go_wp2_with fail
    refine (CYes.out b g lb y F0 _ _ [] [] w8 HK.out Hoy.out.2.1 HB8.out Hoy.out.1 HLG.out HX8.out HOB.out (HT.out _ HX8.out) (by rw [Hoy.out.2.2.2]; exact HS.out.1) (by rw [Hoy.out.2.2.2]; exact HS.out.2)).mono ?_
    rintro e w9 ⟨sb, su, ev, rfl, hST, X9, hsb⟩
    have HST := Lib.hid hST
    replace qc_0 := X9.cell qc_0
    replace qc_1 := X9.cell qc_1
    replace qc_2 := X9.cell qc_2
    replace qc_3 := X9.cell qc_3
    replace qc_4 := X9.cell qc_4
    replace qc_5 := X9.cell qc_5
    clear hST X9 hsb HB8 HLG HX8 HOB CYes CNo
    go_upto_region 15 with (fail)
    refine settle_wp ?_
    intro wa hba
    have qf_1 : wa.cell? ⟨w9.heap.size, 1, none⟩ = some (.int .i64 n) := hba.cell (by simp [go_sem])
    have qf_8 : wa.cell? ⟨w9.heap.size, 8, none⟩ = some (.int .u32 7) := hba.cell (by simp [go_sem])
    have HFB := Lib.hid (fb_new32 HST.out ⟨n, 0, 0, 0, 0, 7⟩ hba)
    have Xa : Ext w9 wa := Ext.trans ((Ext.refl w9).alloc _) hba
    replace qc_0 := Xa.cell qc_0
    replace qc_1 := Xa.cell qc_1
    replace qc_2 := Xa.cell qc_2
    replace qc_3 := Xa.cell qc_3
    replace qc_4 := Xa.cell qc_4
    replace qc_5 := Xa.cell qc_5
    have HSTa := Lib.hid (HST.out.ext Xa)
    clear hba Xa HST
    generalize w9.heap.size = fb at *
    have HSV : Hid (∀ w', Ext wa w' → Calls Tryd.prog 24 #[.pointer (some ⟨sb, 0, none⟩), .int .i64 tt, .pointer (some ⟨fb, 0, none⟩)] w' fun e w'' => e = .returned (.bool (decide (tt = 0) && decide (1 ≤ n) && decide (n ≤ capS l))) ∧ Ext w' w'') := Lib.hid (fun w' hx => by
      have h := CM.out _ HK.out Hoy.out.1 (HSTa.out.ext hx) (HFB.out.ext hx)
      rw [Hoy.out.2.2.1] at h
      exact h)
    have HLB : Hid (∀ w', Ext wa w' → Calls Tryd.prog 12 #[.pointer (some ⟨b, 0, none⟩)] w' fun e w'' => e = .returned (.int .i64 0) ∧ w' = w'') := Lib.hid (fun w' hx => Len32 b g y F0 _ [] w' (HSTa.out.ext hx).B.B)
    have HLE : Hid (∀ w', Ext wa w' → Calls Tryd.prog 13 #[.pointer (some ⟨lb, 0, none⟩)] w' fun e w'' => e = .returned (.int .i64 0) ∧ w' = w'') := Lib.hid (fun w' hx => eLen w w' lb _ [] (HSTa.out.ext hx).G)
    have HXa := Lib.hid HSTa.out.X
    clear HSTa HFB CM
    have HXX := Lib.hid (Ext.refl wa)
    go_wp2_with fail
    refine (soClaim32_void (.pointer none) (.pointer (some ⟨fb, 0, none⟩)) tt _ (soMay32_nil _ tt _)).mono ?_
    rintro e wx ⟨rfl, hx⟩
    replace qc_0 := hx.cell qc_0
    replace qc_1 := hx.cell qc_1
    replace qc_2 := hx.cell qc_2
    replace qc_3 := hx.cell qc_3
    replace qc_4 := hx.cell qc_4
    replace qc_5 := hx.cell qc_5
    replace qf_1 := hx.cell qf_1
    replace qf_8 := hx.cell qf_8
    replace HXX := Lib.hid (HXX.out.trans hx)
    clear hx
    go_wp2_with fail
    refine (soPublish32_void (.pointer none) (.pointer (some ⟨fb, 0, none⟩)) tt _ (soMay32_nil _ tt _)).mono ?_
    rintro e wx ⟨rfl, hx⟩
    replace qc_0 := hx.cell qc_0
    replace qc_1 := hx.cell qc_1
    replace qc_2 := hx.cell qc_2
    replace qc_3 := hx.cell qc_3
    replace qc_4 := hx.cell qc_4
    replace qc_5 := hx.cell qc_5
    replace qf_1 := hx.cell qf_1
    replace qf_8 := hx.cell qf_8
    replace HXX := Lib.hid (HXX.out.trans hx)
    clear hx
    go_wp2_with fail
    refine (soTip32_nil (.pointer (some ⟨fb, 0, none⟩)) tt _).mono ?_
    rintro e wx ⟨rfl, hx⟩
    replace qc_0 := hx.cell qc_0
    replace qc_1 := hx.cell qc_1
    replace qc_2 := hx.cell qc_2
    replace qc_3 := hx.cell qc_3
    replace qc_4 := hx.cell qc_4
    replace qc_5 := hx.cell qc_5
    replace qf_1 := hx.cell qf_1
    replace qf_8 := hx.cell qf_8
    replace HXX := Lib.hid (HXX.out.trans hx)
    clear hx
    go_wp2_with fail
    refine (soClaim32_void (.pointer (some ⟨sb, 0, none⟩)) (.pointer none) tt _ (soMay32_nof sb tt _)).mono ?_
    rintro e wx ⟨rfl, hx⟩
    replace qc_0 := hx.cell qc_0
    replace qc_1 := hx.cell qc_1
    replace qc_2 := hx.cell qc_2
    replace qc_3 := hx.cell qc_3
    replace qc_4 := hx.cell qc_4
    replace qc_5 := hx.cell qc_5
    replace qf_1 := hx.cell qf_1
    replace qf_8 := hx.cell qf_8
    replace HXX := Lib.hid (HXX.out.trans hx)
    clear hx
    go_wp2_with fail
    refine (soPublish32_void (.pointer (some ⟨sb, 0, none⟩)) (.pointer none) tt _ (soMay32_nof sb tt _)).mono ?_
    rintro e wx ⟨rfl, hx⟩
    replace qc_0 := hx.cell qc_0
    replace qc_1 := hx.cell qc_1
    replace qc_2 := hx.cell qc_2
    replace qc_3 := hx.cell qc_3
    replace qc_4 := hx.cell qc_4
    replace qc_5 := hx.cell qc_5
    replace qf_1 := hx.cell qf_1
    replace qf_8 := hx.cell qf_8
    replace HXX := Lib.hid (HXX.out.trans hx)
    clear hx
    go_wp2_with fail
    refine (soTip32_nof sb tt _).mono ?_
    rintro e wx ⟨rfl, hx⟩
    replace qc_0 := hx.cell qc_0
    replace qc_1 := hx.cell qc_1
    replace qc_2 := hx.cell qc_2
    replace qc_3 := hx.cell qc_3
    replace qc_4 := hx.cell qc_4
    replace qc_5 := hx.cell qc_5
    replace qf_1 := hx.cell qf_1
    replace qf_8 := hx.cell qf_8
    replace HXX := Lib.hid (HXX.out.trans hx)
    clear hx
    go_wp2_with fail
    refine (HLB.out _ HXX.out).mono ?_
    rintro e w' ⟨rfl, rfl⟩
    go_wp2_with fail
    refine (HLE.out _ HXX.out).mono ?_
    rintro e w' ⟨rfl, rfl⟩
    have hlast : (decide (0 ≤ tt) = true ∧ decide (tt < 1) = true ∧ decide (1 ≤ n) = true ∧ decide (n ≤ capS l) = true) ∨ ((decide (tt = 0) && decide (1 ≤ n) && decide (n ≤ capS l)) = false ∧ decide (0 ≤ tt) = false) ∨ ((decide (tt = 0) && decide (1 ≤ n) && decide (n ≤ capS l)) = false ∧ decide (0 ≤ tt) = true ∧ decide (tt < 1) = false) ∨ ((decide (tt = 0) && decide (1 ≤ n) && decide (n ≤ capS l)) = false ∧ decide (0 ≤ tt) = true ∧ decide (tt < 1) = true ∧ decide (1 ≤ n) = false) ∨ ((decide (tt = 0) && decide (1 ≤ n) && decide (n ≤ capS l)) = false ∧ decide (0 ≤ tt) = true ∧ decide (tt < 1) = true ∧ decide (1 ≤ n) = true ∧ decide (n ≤ capS l) = false) := by
      by_cases h1 : 0 ≤ tt
      · by_cases h2 : tt < 1
        · have h3 : tt = 0 := by omega
          by_cases h4 : 1 ≤ n
          · by_cases h5 : n ≤ capS l
            · exact .inl ⟨by simpa using h1, by simpa using h2, by simpa using h4, by simpa using h5⟩
            · exact .inr (.inr (.inr (.inr ⟨by simp; omega, by simpa using h1, by simpa using h2, by simpa using h4, by simpa using h5⟩)))
          · exact .inr (.inr (.inr (.inl ⟨by simp; omega, by simpa using h1, by simpa using h2, by simpa using h4⟩)))
        · exact .inr (.inr (.inl ⟨by simp; omega, by simpa using h1, by simpa using h2⟩))
      · exact .inr (.inl ⟨by simp; omega, by simpa using h1⟩)
    rcases hlast with ⟨b1, b2, b3, b4⟩ | ⟨hno, b1⟩ | ⟨hno, b1, b2⟩ | ⟨hno, b1, b2, b3⟩ | ⟨hno, b1, b2, b3, b4⟩
    · go_wp2_with fail
      refine (CV.out _ (HXa.out.trans HXX.out)).mono ?_
      rintro e wz ⟨rfl, hz⟩
      have HZ := Lib.hid ((HXa.out.trans HXX.out).trans hz)
      clear hz
      go_wp2
      go_ret
      exact ⟨rfl, Ext.below HZ.out⟩
    · skip
      have HM : Hid (∀ w', Ext wa w' → Calls Tryd.prog 24 #[.pointer (some ⟨sb, 0, none⟩), .int .i64 tt, .pointer (some ⟨fb, 0, none⟩)] w' (VoidF w')) := Lib.hid (fun w' hx => by
        have h := HSV.out w' hx
        rw [hno] at h
        exact h)
      clear hno
      go_wp2_with fail
      refine (soClaim32_void (.pointer (some ⟨sb, 0, none⟩)) (.pointer (some ⟨fb, 0, none⟩)) _ _ (HM.out _ HXX.out)).mono ?_
      rintro e wx ⟨rfl, hx⟩
      replace qf_1 := hx.cell qf_1
      replace HXX := Lib.hid (HXX.out.trans hx)
      clear hx
      go_wp2_with fail
      refine (soPublish32_void (.pointer (some ⟨sb, 0, none⟩)) (.pointer (some ⟨fb, 0, none⟩)) _ _ (HM.out _ HXX.out)).mono ?_
      rintro e wx ⟨rfl, hx⟩
      replace qf_1 := hx.cell qf_1
      replace HXX := Lib.hid (HXX.out.trans hx)
      clear hx
      go_wp2_with fail
      refine (HLB.out _ HXX.out).mono ?_
      rintro e w' ⟨rfl, rfl⟩
      go_wp2_with fail
      refine (HLE.out _ HXX.out).mono ?_
      rintro e w' ⟨rfl, rfl⟩
      go_wp2_with fail
      refine (CV.out _ (HXa.out.trans HXX.out)).mono ?_
      rintro e wz ⟨rfl, hz⟩
      have HZ := Lib.hid ((HXa.out.trans HXX.out).trans hz)
      clear hz
      go_wp2
      go_ret
      exact ⟨rfl, Ext.below HZ.out⟩
    · skip
      have HM : Hid (∀ w', Ext wa w' → Calls Tryd.prog 24 #[.pointer (some ⟨sb, 0, none⟩), .int .i64 tt, .pointer (some ⟨fb, 0, none⟩)] w' (VoidF w')) := Lib.hid (fun w' hx => by
        have h := HSV.out w' hx
        rw [hno] at h
        exact h)
      clear hno
      go_wp2_with fail
      refine (soClaim32_void (.pointer (some ⟨sb, 0, none⟩)) (.pointer (some ⟨fb, 0, none⟩)) _ _ (HM.out _ HXX.out)).mono ?_
      rintro e wx ⟨rfl, hx⟩
      replace qf_1 := hx.cell qf_1
      replace HXX := Lib.hid (HXX.out.trans hx)
      clear hx
      go_wp2_with fail
      refine (soPublish32_void (.pointer (some ⟨sb, 0, none⟩)) (.pointer (some ⟨fb, 0, none⟩)) _ _ (HM.out _ HXX.out)).mono ?_
      rintro e wx ⟨rfl, hx⟩
      replace qf_1 := hx.cell qf_1
      replace HXX := Lib.hid (HXX.out.trans hx)
      clear hx
      go_wp2_with fail
      refine (HLB.out _ HXX.out).mono ?_
      rintro e w' ⟨rfl, rfl⟩
      go_wp2_with fail
      refine (HLE.out _ HXX.out).mono ?_
      rintro e w' ⟨rfl, rfl⟩
      go_wp2_with fail
      refine (CV.out _ (HXa.out.trans HXX.out)).mono ?_
      rintro e wz ⟨rfl, hz⟩
      have HZ := Lib.hid ((HXa.out.trans HXX.out).trans hz)
      clear hz
      go_wp2
      go_ret
      exact ⟨rfl, Ext.below HZ.out⟩
    · skip
      have HM : Hid (∀ w', Ext wa w' → Calls Tryd.prog 24 #[.pointer (some ⟨sb, 0, none⟩), .int .i64 tt, .pointer (some ⟨fb, 0, none⟩)] w' (VoidF w')) := Lib.hid (fun w' hx => by
        have h := HSV.out w' hx
        rw [hno] at h
        exact h)
      clear hno
      go_wp2_with fail
      refine (soClaim32_void (.pointer (some ⟨sb, 0, none⟩)) (.pointer (some ⟨fb, 0, none⟩)) _ _ (HM.out _ HXX.out)).mono ?_
      rintro e wx ⟨rfl, hx⟩
      replace qf_1 := hx.cell qf_1
      replace HXX := Lib.hid (HXX.out.trans hx)
      clear hx
      go_wp2_with fail
      refine (soPublish32_void (.pointer (some ⟨sb, 0, none⟩)) (.pointer (some ⟨fb, 0, none⟩)) _ _ (HM.out _ HXX.out)).mono ?_
      rintro e wx ⟨rfl, hx⟩
      replace qf_1 := hx.cell qf_1
      replace HXX := Lib.hid (HXX.out.trans hx)
      clear hx
      go_wp2_with fail
      refine (HLB.out _ HXX.out).mono ?_
      rintro e w' ⟨rfl, rfl⟩
      go_wp2_with fail
      refine (HLE.out _ HXX.out).mono ?_
      rintro e w' ⟨rfl, rfl⟩
      go_wp2_with fail
      refine (CV.out _ (HXa.out.trans HXX.out)).mono ?_
      rintro e wz ⟨rfl, hz⟩
      have HZ := Lib.hid ((HXa.out.trans HXX.out).trans hz)
      clear hz
      go_wp2
      go_ret
      exact ⟨rfl, Ext.below HZ.out⟩
    · skip
      have HM : Hid (∀ w', Ext wa w' → Calls Tryd.prog 24 #[.pointer (some ⟨sb, 0, none⟩), .int .i64 tt, .pointer (some ⟨fb, 0, none⟩)] w' (VoidF w')) := Lib.hid (fun w' hx => by
        have h := HSV.out w' hx
        rw [hno] at h
        exact h)
      clear hno
      go_wp2_with fail
      refine (soClaim32_void (.pointer (some ⟨sb, 0, none⟩)) (.pointer (some ⟨fb, 0, none⟩)) _ _ (HM.out _ HXX.out)).mono ?_
      rintro e wx ⟨rfl, hx⟩
      replace qf_1 := hx.cell qf_1
      replace HXX := Lib.hid (HXX.out.trans hx)
      clear hx
      go_wp2_with fail
      refine (soPublish32_void (.pointer (some ⟨sb, 0, none⟩)) (.pointer (some ⟨fb, 0, none⟩)) _ _ (HM.out _ HXX.out)).mono ?_
      rintro e wx ⟨rfl, hx⟩
      replace qf_1 := hx.cell qf_1
      replace HXX := Lib.hid (HXX.out.trans hx)
      clear hx
      go_wp2_with fail
      refine (HLB.out _ HXX.out).mono ?_
      rintro e w' ⟨rfl, rfl⟩
      go_wp2_with fail
      refine (HLE.out _ HXX.out).mono ?_
      rintro e w' ⟨rfl, rfl⟩
      go_wp2_with fail
      refine (CV.out _ (HXa.out.trans HXX.out)).mono ?_
      rintro e wz ⟨rfl, hz⟩
      have HZ := Lib.hid ((HXa.out.trans HXX.out).trans hz)
      clear hz
      go_wp2
      go_ret
      exact ⟨rfl, Ext.below HZ.out⟩
  · skip
    go_enter Tryd.func3, Tryd.ntmps3
    go_upto_region 1 with (fail)
    refine settle_wp ?_
    intro w1 hb1
    have qv_0 : w1.cell? ⟨w.heap.size + 1, 0, none⟩ = some (.int .i64 V) := hb1.cell (by simp [go_sem])
    have qv_1 : w1.cell? ⟨w.heap.size + 1, 1, none⟩ = some (.int .i64 tt) := hb1.cell (by simp [go_sem])
    have qs_0 : w1.cell? ⟨w.heap.size, 0, none⟩ = some (.bool wd) := hb1.cell (by simp [go_sem])
    have qs_1 : w1.cell? ⟨w.heap.size, 1, none⟩ = some (.int .u8 l) := hb1.cell (by simp [go_sem])
    have qs_2 : w1.cell? ⟨w.heap.size, 2, none⟩ = some (.int .u8 q) := hb1.cell (by simp [go_sem])
    have qs_3 : w1.cell? ⟨w.heap.size, 3, none⟩ = some (.int .u8 k) := hb1.cell (by simp [go_sem])
    have qs_4 : w1.cell? ⟨w.heap.size, 4, none⟩ = some (.int .u64 S) := hb1.cell (by simp [go_sem])
    have X1 : Ext w w1 := Ext.trans (by repeat (first | with_reducible exact Ext.refl _ | with_reducible assumption | with_reducible refine Ext.alloc ?_ _ | with_reducible refine Ext.drew ?_ | with_reducible refine Ext.drewN ?_ _ | with_reducible refine Ext.setCell ?_ (by simp <;> omega) _ | with_reducible refine Ext.trans ?_ (by assumption))) hb1
    have HX1 := Lib.hid X1
    clear hb1 X1
    have k0 := fun w' (hx : Ext w1 w') => hx.cell qv_0
    have k1 := fun w' (hx : Ext w1 w') => hx.cell qv_1
    refine wp_region_held_drew (S := fun w' => Ext w1 w') (by kernel_rfl) ?hbeg (fun hHeld => ?_)
    case hbeg => exact (Ext.refl w1).drew
    have hHeld0 : Ext w1 w1 := by first | exact Ext.refl _ | assumption
    first
      | (refine take_at (i := 0) (v := ?_) rfl rfl (by kernel_rfl) (by kernel_rfl) (by kernel_rfl) (fun _ _ _ h => h) (Or.inl ⟨by rfl, ?hy⟩) (by assumption) ?_
         case hy => (intro wz hSw; (try dsimp only at hSw); go_simp <;> with_reducible rfl)
         simp only [List.setIfInBounds_toArray, List.set_cons_zero, List.set_cons_succ])
      | (refine take_at (i := 0) (v := undef) rfl rfl (by kernel_rfl) (by kernel_rfl) (by kernel_rfl) (fun _ _ _ h => h) (Or.inr ⟨by rfl, rfl⟩) (by assumption) ?_
         simp only [List.setIfInBounds_toArray, List.set_cons_zero, List.set_cons_succ])
    first
      | (refine take_at (i := 1) (v := ?_) rfl rfl (by kernel_rfl) (by kernel_rfl) (by kernel_rfl) (fun _ _ _ h => h) (Or.inl ⟨by rfl, ?hy⟩) (by assumption) ?_
         case hy => (intro wz hSw; (try dsimp only at hSw); go_simp <;> with_reducible rfl)
         simp only [List.setIfInBounds_toArray, List.set_cons_zero, List.set_cons_succ])
      | (refine take_at (i := 1) (v := undef) rfl rfl (by kernel_rfl) (by kernel_rfl) (by kernel_rfl) (fun _ _ _ h => h) (Or.inr ⟨by rfl, rfl⟩) (by assumption) ?_
         simp only [List.setIfInBounds_toArray, List.set_cons_zero, List.set_cons_succ])
    first
      | (refine take_at (i := 2) (v := ?_) rfl rfl (by kernel_rfl) (by kernel_rfl) (by kernel_rfl) (fun _ _ _ h => h) (Or.inl ⟨by rfl, ?hy⟩) (by assumption) ?_
         case hy => (intro wz hSw; (try dsimp only at hSw); go_simp <;> with_reducible rfl)
         simp only [List.setIfInBounds_toArray, List.set_cons_zero, List.set_cons_succ])
      | (refine take_at (i := 2) (v := undef) rfl rfl (by kernel_rfl) (by kernel_rfl) (by kernel_rfl) (fun _ _ _ h => h) (Or.inr ⟨by rfl, rfl⟩) (by assumption) ?_
         simp only [List.setIfInBounds_toArray, List.set_cons_zero, List.set_cons_succ])
    first
      | (refine take_at (i := 3) (v := ?_) rfl rfl (by kernel_rfl) (by kernel_rfl) (by kernel_rfl) (fun _ _ _ h => h) (Or.inl ⟨by rfl, ?hy⟩) (by assumption) ?_
         case hy => (intro wz hSw; (try dsimp only at hSw); go_simp <;> with_reducible rfl)
         simp only [List.setIfInBounds_toArray, List.set_cons_zero, List.set_cons_succ])
      | (refine take_at (i := 3) (v := undef) rfl rfl (by kernel_rfl) (by kernel_rfl) (by kernel_rfl) (fun _ _ _ h => h) (Or.inr ⟨by rfl, rfl⟩) (by assumption) ?_
         simp only [List.setIfInBounds_toArray, List.set_cons_zero, List.set_cons_succ])
    first
      | (refine take_at (i := 4) (v := ?_) rfl rfl (by kernel_rfl) (by kernel_rfl) (by kernel_rfl) (fun _ _ _ h => h) (Or.inl ⟨by rfl, ?hy⟩) (by assumption) ?_
         case hy => (intro wz hSw; (try dsimp only at hSw); go_simp <;> with_reducible rfl)
         simp only [List.setIfInBounds_toArray, List.set_cons_zero, List.set_cons_succ])
      | (refine take_at (i := 4) (v := undef) rfl rfl (by kernel_rfl) (by kernel_rfl) (by kernel_rfl) (fun _ _ _ h => h) (Or.inr ⟨by rfl, rfl⟩) (by assumption) ?_
         simp only [List.setIfInBounds_toArray, List.set_cons_zero, List.set_cons_succ])
    first
      | (refine take_at (i := 5) (v := ?_) rfl rfl (by kernel_rfl) (by kernel_rfl) (by kernel_rfl) (fun _ _ _ h => h) (Or.inl ⟨by rfl, ?hy⟩) (by assumption) ?_
         case hy => (intro wz hSw; (try dsimp only at hSw); go_simp <;> with_reducible rfl)
         simp only [List.setIfInBounds_toArray, List.set_cons_zero, List.set_cons_succ])
      | (refine take_at (i := 5) (v := undef) rfl rfl (by kernel_rfl) (by kernel_rfl) (by kernel_rfl) (fun _ _ _ h => h) (Or.inr ⟨by rfl, rfl⟩) (by assumption) ?_
         simp only [List.setIfInBounds_toArray, List.set_cons_zero, List.set_cons_succ])
    refine wpAnyH_done (by kernel_rfl) ?_ _
    replace qs_0 := hHeld.cell qs_0
    replace qs_1 := hHeld.cell qs_1
    replace qs_2 := hHeld.cell qs_2
    replace qs_3 := hHeld.cell qs_3
    replace qs_4 := hHeld.cell qs_4
    have HX2 := Lib.hid (HX1.out.trans hHeld)
    clear k0 k1 qv_0 qv_1 hHeld HX1
    go_wp2_with fail
    refine (CC.out _).mono ?_
    rintro e w3 ⟨ca, ccap, rfl, hL, X3⟩
    rw [HUPS.out] at hL
    have HL := Lib.hid hL
    have HX3 := Lib.hid (HX2.out.trans X3)
    clear hL X3 HX2 CC qs_0 qs_1 qs_2 qs_3 qs_4
    go_upto_region 8 with (fail)
    refine settle_wp ?_
    intro w4 hb4
    have qc_0 : w4.cell? ⟨w3.heap.size, 0, none⟩ = some (.int .i64 V) := hb4.cell (by simp [go_sem])
    have qc_1 : w4.cell? ⟨w3.heap.size, 1, none⟩ = some (.int .i64 32) := hb4.cell (by simp [go_sem])
    have qc_2 : w4.cell? ⟨w3.heap.size, 2, none⟩ = some (.int .i64 (capS l)) := hb4.cell (by simp [go_sem])
    have qc_3 : w4.cell? ⟨w3.heap.size, 3, none⟩ = some (.int .i64 1) := hb4.cell (by simp [go_sem])
    have qc_4 : w4.cell? ⟨w3.heap.size, 4, none⟩ = some (.int .u64 S) := hb4.cell (by simp [go_sem])
    have qc_5 : w4.cell? ⟨w3.heap.size, 5, none⟩ = some (.slice ca ((k % 3 + 1 : Nat)) ccap) := hb4.cell (by simp [go_sem])
    have X34 : Ext w3 w4 := Ext.trans (by repeat (first | with_reducible exact Ext.refl _ | with_reducible assumption | with_reducible refine Ext.alloc ?_ _ | with_reducible refine Ext.drew ?_ | with_reducible refine Ext.drewN ?_ _ | with_reducible refine Ext.setCell ?_ (by simp <;> omega) _ | with_reducible refine Ext.trans ?_ (by assumption))) hb4
    have HX4 := Lib.hid (HX3.out.trans X34)
    have HL4 := Lib.hid (HL.out.ext X34)
    clear hb4 X34 HX3 HL
    generalize w3.heap.size = cb at *
    go_wp2_with fail
    refine (CO.out w4 _ HL4.out).mono ?_
    rintro e wo ⟨y0, K0, o0, rfl, O0, Xo⟩
    have HK0 := Lib.hid K0
    have Ho0 := Lib.hid o0
    have HO0 := Lib.hid O0
    replace qc_0 := Xo.cell qc_0
    replace qc_1 := Xo.cell qc_1
    replace qc_2 := Xo.cell qc_2
    replace qc_3 := Xo.cell qc_3
    replace qc_4 := Xo.cell qc_4
    replace qc_5 := Xo.cell qc_5
    have HXo := Lib.hid (HX4.out.trans Xo)
    clear K0 o0 O0 Xo HL4 HX4 CO
    go_upto_region 9 with (fail)
    refine settle_wp ?_
    intro w6 hb6
    have ql_0 : w6.cell? ⟨wo.heap.size, 0, none⟩ = some (.int .i64 y0.V) := hb6.cell (by simp [go_sem])
    have ql_1 : w6.cell? ⟨wo.heap.size, 1, none⟩ = some (.int .i64 y0.W) := hb6.cell (by simp [go_sem])
    have ql_2 : w6.cell? ⟨wo.heap.size, 2, none⟩ = some (.int .i64 y0.C) := hb6.cell (by simp [go_sem])
    have ql_3 : w6.cell? ⟨wo.heap.size, 3, none⟩ = some (.int .i64 y0.P) := hb6.cell (by simp [go_sem])
    have ql_4 : w6.cell? ⟨wo.heap.size, 4, none⟩ = some (.int .u64 y0.S) := hb6.cell (by simp [go_sem])
    have ql_5 : w6.cell? ⟨wo.heap.size, 5, none⟩ = some (.slice y0.a y0.n y0.cap) := hb6.cell (by simp [go_sem])
    have ql_6 : w6.cell? ⟨wo.heap.size, 6, none⟩ = some (.int .i64 y0.Cu) := hb6.cell (by simp [go_sem])
    have ql_7 : w6.cell? ⟨wo.heap.size, 7, none⟩ = some (.int .i64 y0.Cl) := hb6.cell (by simp [go_sem])
    have ql_8 : w6.cell? ⟨wo.heap.size, 8, none⟩ = some (.int .i64 y0.Ti) := hb6.cell (by simp [go_sem])
    have ql_9 : w6.cell? ⟨wo.heap.size, 9, none⟩ = some (.int .i64 y0.Se) := hb6.cell (by simp [go_sem])
    have ql_10 : w6.cell? ⟨wo.heap.size, 10, none⟩ = some (.int .i64 y0.Ne) := hb6.cell (by simp [go_sem])
    have ql_11 : w6.cell? ⟨wo.heap.size, 11, none⟩ = some (.int .i64 y0.Ma) := hb6.cell (by simp [go_sem])
    have ql_12 : w6.cell? ⟨wo.heap.size, 12, none⟩ = some (.int .i64 y0.Sl) := hb6.cell (by simp [go_sem])
    have ql_13 : w6.cell? ⟨wo.heap.size, 13, none⟩ = some (.int .i64 y0.m) := hb6.cell (by simp [go_sem])
    have X6 : Ext wo w6 := Ext.trans ((Ext.refl wo).alloc _) hb6
    replace qc_0 := X6.cell qc_0
    replace qc_1 := X6.cell qc_1
    replace qc_2 := X6.cell qc_2
    replace qc_3 := X6.cell qc_3
    replace qc_4 := X6.cell qc_4
    replace qc_5 := X6.cell qc_5
    have HX6 := Lib.hid (HXo.out.trans X6)
    have HO6 := Lib.hid (HO0.out.ext X6)
    clear hb6 X6 HXo HO0
    go_wp2_with fail
    refine (CN.out y0 _ HK0.out Ho0.out.w HO6.out (by rw [Ho0.out.s]; exact HS.out.1) (by rw [Ho0.out.s]; exact HS.out.2)).mono ?_
    rintro e w7 ⟨b, g, y, rfl, K, o, B, X7, hb7, hg7⟩
    have HK := Lib.hid K
    have Hoy : Hid (y.V = V ∧ y.W = 32 ∧ y.C = capS l ∧ y.S = S) := Lib.hid ⟨o.v.trans Ho0.out.v, o.w.trans Ho0.out.w, o.c.trans Ho0.out.c, o.s.trans Ho0.out.s⟩
    have HB := Lib.hid B
    replace qc_0 := X7.cell qc_0
    replace qc_1 := X7.cell qc_1
    replace qc_2 := X7.cell qc_2
    replace qc_3 := X7.cell qc_3
    replace qc_4 := X7.cell qc_4
    replace qc_5 := X7.cell qc_5
    have HX7 := Lib.hid (HX6.out.trans X7)
    have HOB : Hid (∀ k, Own b g (.slice none 0 0) k → w.heap.size ≤ k) := Lib.hid (fun k hk => by
      have := HX6.out.size
      rcases hk with e | e | e
      · omega
      · omega
      · cases e)
    generalize fsC y.V y.W y.C y.S y.n = F0 at *
    clear K o B X7 hb7 hg7 HK0 Ho0 HO6 HX6 CN ql_0 ql_1 ql_2 ql_3 ql_4 ql_5 ql_6 ql_7 ql_8 ql_9 ql_10 ql_11 ql_12 ql_13
    go_wp2_with fail
    refine (eNew _).mono ?_
    rintro e w8 ⟨rfl, hw8⟩
    have X78 : Ext w7 w8 := by rw [hw8]; exact (Ext.refl w7).alloc _
    have HLG : Hid (LG w w8 w7.heap.size (.slice none 0 0) []) := Lib.hid (by rw [hw8]; exact LG.new w w7 HX7.out)
    replace qc_0 := X78.cell qc_0
    replace qc_1 := X78.cell qc_1
    replace qc_2 := X78.cell qc_2
    replace qc_3 := X78.cell qc_3
    replace qc_4 := X78.cell qc_4
    replace qc_5 := X78.cell qc_5
    have HX8 := Lib.hid (HX7.out.trans X78)
    have HB8 := Lib.hid (HB.out.ext X78)
    clear hw8 X78 HB HX7
    generalize w7.heap.size = lb at *
    go_wp2_with fail
    refine (CNo.out b g y F0 _ [] _ w8 HK.out HB8.out (by rw [Hoy.out.1]; simpa using d0)).mono ?_
    rintro e w9 ⟨rfl, X9⟩
    replace qc_0 := X9.cell qc_0
    replace qc_1 := X9.cell qc_1
    replace qc_2 := X9.cell qc_2
    replace qc_3 := X9.cell qc_3
    replace qc_4 := X9.cell qc_4
    replace qc_5 := X9.cell qc_5
    have HB9 := Lib.hid (HB8.out.ext X9)
    have HLG9 := Lib.hid (HLG.out.ext X9)
    have HX9 := Lib.hid (HX8.out.trans X9)
    clear X9 HB8 HLG HX8 HOB CYes CNo
    have d0a : (V != 1) = true := by simp [bne, d0]
    have d0c : ¬ (V = 1) := by simpa using d0
    have d0b : decide (V = 1) = false := by simpa using d0
    go_upto_region 15 with (fail)
    refine settle_wp ?_
    intro wa hba
    have qf_1 : wa.cell? ⟨w9.heap.size, 1, none⟩ = some (.int .i64 n) := hba.cell (by simp [go_sem])
    have qf_8 : wa.cell? ⟨w9.heap.size, 8, none⟩ = some (.int .u32 7) := hba.cell (by simp [go_sem])
    have Xa : Ext w9 wa := Ext.trans ((Ext.refl w9).alloc _) hba
    replace qc_0 := Xa.cell qc_0
    replace qc_1 := Xa.cell qc_1
    replace qc_2 := Xa.cell qc_2
    replace qc_3 := Xa.cell qc_3
    replace qc_4 := Xa.cell qc_4
    replace qc_5 := Xa.cell qc_5
    have HLB : Hid (∀ w', Ext wa w' → Calls Tryd.prog 12 #[.pointer (some ⟨b, 0, none⟩)] w' fun e w'' => e = .returned (.int .i64 0) ∧ w' = w'') := Lib.hid (fun w' hx => Len32 b g y F0 _ [] w' (HB9.out.ext (Xa.trans hx)).B)
    have HLE : Hid (∀ w', Ext wa w' → Calls Tryd.prog 13 #[.pointer (some ⟨lb, 0, none⟩)] w' fun e w'' => e = .returned (.int .i64 0) ∧ w' = w'') := Lib.hid (fun w' hx => eLen w w' lb _ [] (HLG9.out.ext (Xa.trans hx)))
    have HXa := Lib.hid (HX9.out.trans Xa)
    clear hba Xa HB9 HLG9 HX9 CM
    generalize w9.heap.size = fb at *
    have HXX := Lib.hid (Ext.refl wa)
    go_wp2_with fail
    refine (soClaim32_void (.pointer none) (.pointer (some ⟨fb, 0, none⟩)) tt _ (soMay32_nil _ tt _)).mono ?_
    rintro e wx ⟨rfl, hx⟩
    replace qc_0 := hx.cell qc_0
    replace qc_1 := hx.cell qc_1
    replace qc_2 := hx.cell qc_2
    replace qc_3 := hx.cell qc_3
    replace qc_4 := hx.cell qc_4
    replace qc_5 := hx.cell qc_5
    replace qf_1 := hx.cell qf_1
    replace qf_8 := hx.cell qf_8
    replace HXX := Lib.hid (HXX.out.trans hx)
    clear hx
    go_wp2_with fail
    refine (soPublish32_void (.pointer none) (.pointer (some ⟨fb, 0, none⟩)) tt _ (soMay32_nil _ tt _)).mono ?_
    rintro e wx ⟨rfl, hx⟩
    replace qc_0 := hx.cell qc_0
    replace qc_1 := hx.cell qc_1
    replace qc_2 := hx.cell qc_2
    replace qc_3 := hx.cell qc_3
    replace qc_4 := hx.cell qc_4
    replace qc_5 := hx.cell qc_5
    replace qf_1 := hx.cell qf_1
    replace qf_8 := hx.cell qf_8
    replace HXX := Lib.hid (HXX.out.trans hx)
    clear hx
    go_wp2_with fail
    refine (soTip32_nil (.pointer (some ⟨fb, 0, none⟩)) tt _).mono ?_
    rintro e wx ⟨rfl, hx⟩
    replace qc_0 := hx.cell qc_0
    replace qc_1 := hx.cell qc_1
    replace qc_2 := hx.cell qc_2
    replace qc_3 := hx.cell qc_3
    replace qc_4 := hx.cell qc_4
    replace qc_5 := hx.cell qc_5
    replace qf_1 := hx.cell qf_1
    replace qf_8 := hx.cell qf_8
    replace HXX := Lib.hid (HXX.out.trans hx)
    clear hx
    go_wp2_with fail
    refine (soClaim32_void (.pointer none) (.pointer none) tt _ (soMay32_nil _ tt _)).mono ?_
    rintro e wx ⟨rfl, hx⟩
    replace qc_0 := hx.cell qc_0
    replace qc_1 := hx.cell qc_1
    replace qc_2 := hx.cell qc_2
    replace qc_3 := hx.cell qc_3
    replace qc_4 := hx.cell qc_4
    replace qc_5 := hx.cell qc_5
    replace qf_1 := hx.cell qf_1
    replace qf_8 := hx.cell qf_8
    replace HXX := Lib.hid (HXX.out.trans hx)
    clear hx
    go_wp2_with fail
    refine (soPublish32_void (.pointer none) (.pointer none) tt _ (soMay32_nil _ tt _)).mono ?_
    rintro e wx ⟨rfl, hx⟩
    replace qc_0 := hx.cell qc_0
    replace qc_1 := hx.cell qc_1
    replace qc_2 := hx.cell qc_2
    replace qc_3 := hx.cell qc_3
    replace qc_4 := hx.cell qc_4
    replace qc_5 := hx.cell qc_5
    replace qf_1 := hx.cell qf_1
    replace qf_8 := hx.cell qf_8
    replace HXX := Lib.hid (HXX.out.trans hx)
    clear hx
    go_wp2_with fail
    refine (soTip32_nil _ tt _).mono ?_
    rintro e wx ⟨rfl, hx⟩
    replace qc_0 := hx.cell qc_0
    replace qc_1 := hx.cell qc_1
    replace qc_2 := hx.cell qc_2
    replace qc_3 := hx.cell qc_3
    replace qc_4 := hx.cell qc_4
    replace qc_5 := hx.cell qc_5
    replace qf_1 := hx.cell qf_1
    replace qf_8 := hx.cell qf_8
    replace HXX := Lib.hid (HXX.out.trans hx)
    clear hx
    go_wp2_with fail
    refine (HLB.out _ HXX.out).mono ?_
    rintro e w' ⟨rfl, rfl⟩
    go_wp2_with fail
    refine (HLE.out _ HXX.out).mono ?_
    rintro e w' ⟨rfl, rfl⟩
    have hlast : (decide (0 ≤ tt) = true ∧ decide (tt < 1) = true ∧ decide (1 ≤ n) = true ∧ decide (n ≤ capS l) = true) ∨ ((decide (tt = 0) && decide (1 ≤ n) && decide (n ≤ capS l)) = false ∧ decide (0 ≤ tt) = false) ∨ ((decide (tt = 0) && decide (1 ≤ n) && decide (n ≤ capS l)) = false ∧ decide (0 ≤ tt) = true ∧ decide (tt < 1) = false) ∨ ((decide (tt = 0) && decide (1 ≤ n) && decide (n ≤ capS l)) = false ∧ decide (0 ≤ tt) = true ∧ decide (tt < 1) = true ∧ decide (1 ≤ n) = false) ∨ ((decide (tt = 0) && decide (1 ≤ n) && decide (n ≤ capS l)) = false ∧ decide (0 ≤ tt) = true ∧ decide (tt < 1) = true ∧ decide (1 ≤ n) = true ∧ decide (n ≤ capS l) = false) := by
      by_cases h1 : 0 ≤ tt
      · by_cases h2 : tt < 1
        · have h3 : tt = 0 := by omega
          by_cases h4 : 1 ≤ n
          · by_cases h5 : n ≤ capS l
            · exact .inl ⟨by simpa using h1, by simpa using h2, by simpa using h4, by simpa using h5⟩
            · exact .inr (.inr (.inr (.inr ⟨by simp; omega, by simpa using h1, by simpa using h2, by simpa using h4, by simpa using h5⟩)))
          · exact .inr (.inr (.inr (.inl ⟨by simp; omega, by simpa using h1, by simpa using h2, by simpa using h4⟩)))
        · exact .inr (.inr (.inl ⟨by simp; omega, by simpa using h1, by simpa using h2⟩))
      · exact .inr (.inl ⟨by simp; omega, by simpa using h1⟩)
    rcases hlast with ⟨b1, b2, b3, b4⟩ | ⟨hno, b1⟩ | ⟨hno, b1, b2⟩ | ⟨hno, b1, b2, b3⟩ | ⟨hno, b1, b2, b3, b4⟩
    · go_wp2_with fail
      refine (CV.out _ (HXa.out.trans HXX.out)).mono ?_
      rintro e wz ⟨rfl, hz⟩
      have HZ := Lib.hid ((HXa.out.trans HXX.out).trans hz)
      clear hz
      go_wp2
      go_ret
      exact ⟨rfl, Ext.below HZ.out⟩
    · skip
      go_wp2_with fail
      refine (soClaim32_void (.pointer none) (.pointer (some ⟨fb, 0, none⟩)) _ _ (soMay32_nil _ _ _)).mono ?_
      rintro e wx ⟨rfl, hx⟩
      replace qf_1 := hx.cell qf_1
      replace HXX := Lib.hid (HXX.out.trans hx)
      clear hx
      go_wp2_with fail
      refine (soPublish32_void (.pointer none) (.pointer (some ⟨fb, 0, none⟩)) _ _ (soMay32_nil _ _ _)).mono ?_
      rintro e wx ⟨rfl, hx⟩
      replace qf_1 := hx.cell qf_1
      replace HXX := Lib.hid (HXX.out.trans hx)
      clear hx
      go_wp2_with fail
      refine (HLB.out _ HXX.out).mono ?_
      rintro e w' ⟨rfl, rfl⟩
      go_wp2_with fail
      refine (HLE.out _ HXX.out).mono ?_
      rintro e w' ⟨rfl, rfl⟩
      go_wp2_with fail
      refine (CV.out _ (HXa.out.trans HXX.out)).mono ?_
      rintro e wz ⟨rfl, hz⟩
      have HZ := Lib.hid ((HXa.out.trans HXX.out).trans hz)
      clear hz
      go_wp2
      go_ret
      exact ⟨rfl, Ext.below HZ.out⟩
    · skip
      go_wp2_with fail
      refine (soClaim32_void (.pointer none) (.pointer (some ⟨fb, 0, none⟩)) _ _ (soMay32_nil _ _ _)).mono ?_
      rintro e wx ⟨rfl, hx⟩
      replace qf_1 := hx.cell qf_1
      replace HXX := Lib.hid (HXX.out.trans hx)
      clear hx
      go_wp2_with fail
      refine (soPublish32_void (.pointer none) (.pointer (some ⟨fb, 0, none⟩)) _ _ (soMay32_nil _ _ _)).mono ?_
      rintro e wx ⟨rfl, hx⟩
      replace qf_1 := hx.cell qf_1
      replace HXX := Lib.hid (HXX.out.trans hx)
      clear hx
      go_wp2_with fail
      refine (HLB.out _ HXX.out).mono ?_
      rintro e w' ⟨rfl, rfl⟩
      go_wp2_with fail
      refine (HLE.out _ HXX.out).mono ?_
      rintro e w' ⟨rfl, rfl⟩
      go_wp2_with fail
      refine (CV.out _ (HXa.out.trans HXX.out)).mono ?_
      rintro e wz ⟨rfl, hz⟩
      have HZ := Lib.hid ((HXa.out.trans HXX.out).trans hz)
      clear hz
      go_wp2
      go_ret
      exact ⟨rfl, Ext.below HZ.out⟩
    · skip
      go_wp2_with fail
      refine (soClaim32_void (.pointer none) (.pointer (some ⟨fb, 0, none⟩)) _ _ (soMay32_nil _ _ _)).mono ?_
      rintro e wx ⟨rfl, hx⟩
      replace qf_1 := hx.cell qf_1
      replace HXX := Lib.hid (HXX.out.trans hx)
      clear hx
      go_wp2_with fail
      refine (soPublish32_void (.pointer none) (.pointer (some ⟨fb, 0, none⟩)) _ _ (soMay32_nil _ _ _)).mono ?_
      rintro e wx ⟨rfl, hx⟩
      replace qf_1 := hx.cell qf_1
      replace HXX := Lib.hid (HXX.out.trans hx)
      clear hx
      go_wp2_with fail
      refine (HLB.out _ HXX.out).mono ?_
      rintro e w' ⟨rfl, rfl⟩
      go_wp2_with fail
      refine (HLE.out _ HXX.out).mono ?_
      rintro e w' ⟨rfl, rfl⟩
      go_wp2_with fail
      refine (CV.out _ (HXa.out.trans HXX.out)).mono ?_
      rintro e wz ⟨rfl, hz⟩
      have HZ := Lib.hid ((HXa.out.trans HXX.out).trans hz)
      clear hz
      go_wp2
      go_ret
      exact ⟨rfl, Ext.below HZ.out⟩
    · skip
      go_wp2_with fail
      refine (soClaim32_void (.pointer none) (.pointer (some ⟨fb, 0, none⟩)) _ _ (soMay32_nil _ _ _)).mono ?_
      rintro e wx ⟨rfl, hx⟩
      replace qf_1 := hx.cell qf_1
      replace HXX := Lib.hid (HXX.out.trans hx)
      clear hx
      go_wp2_with fail
      refine (soPublish32_void (.pointer none) (.pointer (some ⟨fb, 0, none⟩)) _ _ (soMay32_nil _ _ _)).mono ?_
      rintro e wx ⟨rfl, hx⟩
      replace qf_1 := hx.cell qf_1
      replace HXX := Lib.hid (HXX.out.trans hx)
      clear hx
      go_wp2_with fail
      refine (HLB.out _ HXX.out).mono ?_
      rintro e w' ⟨rfl, rfl⟩
      go_wp2_with fail
      refine (HLE.out _ HXX.out).mono ?_
      rintro e w' ⟨rfl, rfl⟩
      go_wp2_with fail
      refine (CV.out _ (HXa.out.trans HXX.out)).mono ?_
      rintro e wz ⟨rfl, hz⟩
      have HZ := Lib.hid ((HXa.out.trans HXX.out).trans hz)
      clear hz
      go_wp2
      go_ret
      exact ⟨rfl, Ext.below HZ.out⟩
end Go.Proofs.YtkmfamidahlgiaaDoor

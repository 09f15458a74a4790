/- A new board. -/
import Derived.Test.YtkmfamidahlgiaaGreatDoorBd3
import Derived.Test.YtkmfamidahlgiaaGreatDoorLyU
namespace Go.Proofs.YtkmfamidahlgiaaGreatDoor
open Go.RowKit
set_option linter.unusedVariables false
set_option linter.unusedSimpArgs false
set_option maxHeartbeats 2000000
attribute [local go_sem] later_cell later_frozen later_const
theorem info_u64 : (Tryz.prog.info? 22).map (fun i => (i.zero, i.size, i.bytes)) = some (some (.int .u64 0), 1, 8) := by kernel_rfl
/-- a layout's letters, as Of tells them -/
def yOf (V W C P S : Int) (bo n m : Nat) : LY := ⟨V, W, C, P, S, some ⟨bo, 0, none⟩, n, n, nCu V n, nCl V n, nTi V n, nSe V n, nNe V n, nMa V n, nSl V n C, m⟩
theorem yOf_ok {V W C P S : Int} {bo n m : Nat} (h : NumOk V n C) (hm : (m : Int) = nCe V n C) : YOk (yOf V W C P S bo n m) := by
  have hb := num_bounds h
  have h6 := h.c64
  exact ⟨by show 0 ≤ nSl V n C; omega, by show nSl V n C ≤ 1000; omega, by show -1 ≤ nMa V n; omega, by show nMa V n ≤ 1000; omega, by show m ≤ 1000; omega, by show C ≤ 1000; omega⟩
theorem yOf_kd {V W C P S : Int} {bo n m : Nat} (hm : (m : Int) = nCe V n C) (c : Int) : kd (yOf V W C P S bo n m) c = pKind (useN V n C c).1.toNat := by
  unfold kd useN
  rw [← hm]
  rfl
/-- what a cell has at first -/
def fsC (V W C S : Int) (n : Nat) (i : Nat) : Int := fst W C S (useN V n C i).1 (useN V n C i).2
theorem BD.congr {w : World} {bt b g : Nat} {y : LY} {f f' : Nat → Int} {lv : Value} {log : List Acc} (h : BD w bt b g y f lv log) (he : ∀ i, i < y.m → f i = f' i) : BD w bt b g y f' lv log :=
  { h with va := ⟨fun i hi => by rw [h.va.c i hi, he i hi], h.va.z⟩ }
theorem BD.set {w : World} {bt b g : Nat} {y : LY} {f : Nat → Int} {lv : Value} {log : List Acc} (h : BD w bt b g y f lv log) {c : Nat} (hc : c < y.m) (z : Int) : BD (w.setCell ⟨g, c, none⟩ (.int .u64 z)) bt b g y (upd f c z) lv log := by
  have nbg : b ≠ g := tag_ne h.tb h.tg h.nt.1
  have C4 := but_setCell w ⟨g, c, none⟩ (.int .u64 z)
  have sb : ¬ (b = (⟨g, c, none⟩ : Addr).block) := by simpa using nbg
  have sl : ∀ k, lv.ownBlock = some k → ¬ (k = (⟨g, c, none⟩ : Addr).block) := fun k hk e => by
    simp at e
    subst e
    exact tag_ne h.tg (row_tagA h.row hk) (by decide) rfl
  refine ⟨C4.cell h.q0 sb, C4.cell h.q1 sb, C4.cell h.q2 sb, C4.cell h.q3 sb, C4.cell h.q4 sb, C4.cell h.q5 sb, C4.cell h.q6 sb, C4.cell h.q7 sb, C4.cell h.q8 sb, C4.cell h.q9 sb, C4.cell h.q10 sb, C4.cell h.q11 sb, C4.cell h.q12 sb, C4.cell h.q13 sb, C4.cell h.q14 sb, C4.cell h.q15 sb, C4.frozen h.q15 h.z15 sb, h.tb.set, h.tg.set, ?_, C4.row h.row sl, h.nt⟩
  have v4 := va_set h.va (.int .u64 z) hc
  refine ⟨fun i hi => ?_, fun i hi => v4.z i hi⟩
  rw [v4.c i hi]
  unfold upd
  by_cases e : i = c
  · simp [e]
  · simp [e]
/-- a board that is made -/
def NewDoes (bt : Nat) (V W C P S : Int) (ups : List (List Int)) (m : Nat) (w : World) (e : Ending) (w' : World) : Prop :=
  ∃ b g bo, e = .returned (.pointer (some ⟨b, 0, none⟩)) ∧ BD w' bt b g (yOf V W C P S bo ups.length m) (fsC V W C S ups.length) (.slice none 0 0) [] ∧ OwnL w' (.slice (some ⟨bo, 0, none⟩) ups.length ups.length) ups ∧ Ext w w' ∧ w.heap.size ≤ b ∧ w.heap.size ≤ g
set_option maxRecDepth 100000 in
theorem New32 (V C P S : Int) (a : Option Addr) (cap : Nat) (ups : List (List Int)) (xu xl xt xs xn xm xo : Int) (m : Nat) (w : World) (hL : ListsV w (.slice a ups.length cap) ups) (hll : ∀ l ∈ ups, l.length ≤ 1000000) (hn : ups.length ≤ 1000000) (hg : ckC V 32 C P ups = 0) (hS0 : 0 ≤ S) (hS1 : S < 18446744073709551616) (hm : (m : Int) = nCe V ups.length C) :
    Calls Tryz.prog 18 #[(.agg #[.int .i64 V, .int .i64 32, .int .i64 C, .int .i64 P, .int .u64 S, .slice a ups.length cap, .int .i64 xu, .int .i64 xl, .int .i64 xt, .int .i64 xs, .int .i64 xn, .int .i64 xm, .int .i64 xo, .int .i64 m])] w (NewDoes 121 V 32 C P S ups m w) := by
  have ok := ok_iff.1 hg
  have hok := numOk ok
  have hbd := num_bounds hok
  have hm5 : m ≤ 500 := by omega
  obtain ⟨n, hn0⟩ : ∃ n, n = ups.length := ⟨_, rfl⟩
  have CO := fun w' (hx : Ext w w') => lOf_ok V 32 C P S _ ups w' (hL.ext hx) hll hn hg
  have CF := fun bo w' (hL' : OwnL w' (.slice (some ⟨bo, 0, none⟩) ups.length ups.length) ups) (c : Nat) => first_at (S := S) ok (some ⟨bo, 0, none⟩) ups.length w' hL'.lists hll hn hg hS0 hS1 c
  rw [← hn0] at CO CF hm ⊢
  obtain ⟨Cu, hCu⟩ : ∃ x, x = nCu V n := ⟨_, rfl⟩
  obtain ⟨Cl, hCl⟩ : ∃ x, x = nCl V n := ⟨_, rfl⟩
  obtain ⟨Ti, hTi⟩ : ∃ x, x = nTi V n := ⟨_, rfl⟩
  obtain ⟨Se, hSe⟩ : ∃ x, x = nSe V n := ⟨_, rfl⟩
  obtain ⟨Ne, hNe⟩ : ∃ x, x = nNe V n := ⟨_, rfl⟩
  obtain ⟨Ma, hMa⟩ : ∃ x, x = nMa V n := ⟨_, rfl⟩
  obtain ⟨Sl, hSl⟩ : ∃ x, x = nSl V n C := ⟨_, rfl⟩
  have hLay : ∀ u, layV V 32 C P S u n = (.agg #[.int .i64 V, .int .i64 32, .int .i64 C, .int .i64 P, .int .u64 S, u, .int .i64 Cu, .int .i64 Cl, .int .i64 Ti, .int .i64 Se, .int .i64 Ne, .int .i64 Ma, .int .i64 Sl, .int .i64 m]) := fun u => by unfold layV; rw [hCu, hCl, hTi, hSe, hNe, hMa, hSl, hm]
  simp only [hLay] at CF
  have hy : ∀ bo, yOf V 32 C P S bo n m = ⟨V, 32, C, P, S, some ⟨bo, 0, none⟩, n, n, Cu, Cl, Ti, Se, Ne, Ma, Sl, m⟩ := fun bo => by unfold yOf; rw [hCu, hCl, hTi, hSe, hNe, hMa, hSl]
  have HLAY := Lib.hid hLay
  have HCO := Lib.hid CO
  have HCF : Hid (∀ bo w', OwnL w' (.slice (some ⟨bo, 0, none⟩) n n) ups → ∀ c : Nat, Calls Tryz.prog 69 #[(.agg #[.int .i64 V, .int .i64 32, .int .i64 C, .int .i64 P, .int .u64 S, .slice (some ⟨bo, 0, none⟩) n n, .int .i64 Cu, .int .i64 Cl, .int .i64 Ti, .int .i64 Se, .int .i64 Ne, .int .i64 Ma, .int .i64 Sl, .int .i64 m]), .int .i64 c] w' fun e w'' => e = .returned (.int .u64 (fsC V 32 C S n c)) ∧ Ext w' w'') := Lib.hid (fun bo w' h c => CF bo w' h c)
  have HG : Hid (∀ b g bo w', BD w' 121 b g ⟨V, 32, C, P, S, some ⟨bo, 0, none⟩, n, n, Cu, Cl, Ti, Se, Ne, Ma, Sl, m⟩ (fsC V 32 C S n) (.slice none 0 0) [] → OwnL w' (.slice (some ⟨bo, 0, none⟩) n n) ups → Ext w w' → w.heap.size ≤ b → w.heap.size ≤ g → NewDoes 121 V 32 C P S ups m w (.returned (.pointer (some ⟨b, 0, none⟩))) w') := Lib.hid (fun b g bo w' h1 h2 h3 h4 h5 => ⟨b, g, bo, rfl, by rw [← hn0, hy]; exact h1, by rw [← hn0]; exact h2, h3, h4, h5⟩)
  generalize NewDoes 121 V 32 C P S ups m w = G at *
  generalize fsC V 32 C S n = F at *
  have HN0 := Lib.hid hn0
  have h6 : n ≤ 6 := by rw [hn0]; exact ok.rt.six
  clear CO CF hL hll hg ok hok hbd hn hLay hy hCu hCl hTi hSe hNe hMa hSl hm hn0
  have hmk := fun W => run_make_row' (P := Tryz.prog) 52 22 (.int .u64 0) 8 Tryz.underlying52 info_u64 rfl .i64 .i64 m (by omega) (by omega) W
  go_enter Tryz.func18, Tryz.ntmps18
  go_wp2_with fail
  refine (HCO.out _ ((Ext.refl w).alloc _)).mono ?_
  rintro e wo ⟨uo, rfl, Oo, Xo⟩
  obtain ⟨bo, fo, cuo, eo, -⟩ := id Oo
  rw [← HN0.out] at eo ⊢
  subst eo
  rw [HLAY.out]
  have qa_0 : wo.cell? ⟨w.heap.size, 0, none⟩ = some (.int .i64 V) := Xo.cell (by simp [go_sem])
  have qa_1 : wo.cell? ⟨w.heap.size, 1, none⟩ = some (.int .i64 32) := Xo.cell (by simp [go_sem])
  have qa_2 : wo.cell? ⟨w.heap.size, 2, none⟩ = some (.int .i64 C) := Xo.cell (by simp [go_sem])
  have qa_3 : wo.cell? ⟨w.heap.size, 3, none⟩ = some (.int .i64 P) := Xo.cell (by simp [go_sem])
  have qa_4 : wo.cell? ⟨w.heap.size, 4, none⟩ = some (.int .u64 S) := Xo.cell (by simp [go_sem])
  have qa_5 : wo.cell? ⟨w.heap.size, 5, none⟩ = some (.slice a n cap) := Xo.cell (by simp [go_sem])
  have qa_6 : wo.cell? ⟨w.heap.size, 6, none⟩ = some (.int .i64 xu) := Xo.cell (by simp [go_sem])
  have qa_7 : wo.cell? ⟨w.heap.size, 7, none⟩ = some (.int .i64 xl) := Xo.cell (by simp [go_sem])
  have qa_8 : wo.cell? ⟨w.heap.size, 8, none⟩ = some (.int .i64 xt) := Xo.cell (by simp [go_sem])
  have qa_9 : wo.cell? ⟨w.heap.size, 9, none⟩ = some (.int .i64 xs) := Xo.cell (by simp [go_sem])
  have qa_10 : wo.cell? ⟨w.heap.size, 10, none⟩ = some (.int .i64 xn) := Xo.cell (by simp [go_sem])
  have qa_11 : wo.cell? ⟨w.heap.size, 11, none⟩ = some (.int .i64 xm) := Xo.cell (by simp [go_sem])
  have qa_12 : wo.cell? ⟨w.heap.size, 12, none⟩ = some (.int .i64 xo) := Xo.cell (by simp [go_sem])
  have qa_13 : wo.cell? ⟨w.heap.size, 13, none⟩ = some (.int .i64 m) := Xo.cell (by simp [go_sem])
  have xo : Ext w wo := Ext.trans ((Ext.refl w).alloc _) Xo
  have po := World.block_lt_of_cell? _ ⟨w.heap.size, 0, none⟩ qa_0
  have ro := Nat.lt_succ_of_lt po
  have HOo := Lib.hid Oo
  clear Xo Oo
  go_upto_region 2 with (fail)
  refine settle_wp ?_
  intro w2 hb2
  have ql_0 : w2.cell? ⟨wo.heap.size, 0, none⟩ = some (.int .i64 V) := hb2.cell (by simp [go_sem])
  have ql_1 : w2.cell? ⟨wo.heap.size, 1, none⟩ = some (.int .i64 32) := hb2.cell (by simp [go_sem])
  have ql_2 : w2.cell? ⟨wo.heap.size, 2, none⟩ = some (.int .i64 C) := hb2.cell (by simp [go_sem])
  have ql_3 : w2.cell? ⟨wo.heap.size, 3, none⟩ = some (.int .i64 P) := hb2.cell (by simp [go_sem])
  have ql_4 : w2.cell? ⟨wo.heap.size, 4, none⟩ = some (.int .u64 S) := hb2.cell (by simp [go_sem])
  have ql_5 : w2.cell? ⟨wo.heap.size, 5, none⟩ = some (.slice (some ⟨bo, 0, none⟩) n n) := hb2.cell (by simp [go_sem])
  have ql_6 : w2.cell? ⟨wo.heap.size, 6, none⟩ = some (.int .i64 Cu) := hb2.cell (by simp [go_sem])
  have ql_7 : w2.cell? ⟨wo.heap.size, 7, none⟩ = some (.int .i64 Cl) := hb2.cell (by simp [go_sem])
  have ql_8 : w2.cell? ⟨wo.heap.size, 8, none⟩ = some (.int .i64 Ti) := hb2.cell (by simp [go_sem])
  have ql_9 : w2.cell? ⟨wo.heap.size, 9, none⟩ = some (.int .i64 Se) := hb2.cell (by simp [go_sem])
  have ql_10 : w2.cell? ⟨wo.heap.size, 10, none⟩ = some (.int .i64 Ne) := hb2.cell (by simp [go_sem])
  have ql_11 : w2.cell? ⟨wo.heap.size, 11, none⟩ = some (.int .i64 Ma) := hb2.cell (by simp [go_sem])
  have ql_12 : w2.cell? ⟨wo.heap.size, 12, none⟩ = some (.int .i64 Sl) := hb2.cell (by simp [go_sem])
  have ql_13 : w2.cell? ⟨wo.heap.size, 13, none⟩ = some (.int .i64 m) := hb2.cell (by simp [go_sem])
  have x2 := Ext.trans ((Ext.refl wo).alloc _) hb2
  replace qa_0 := x2.cell qa_0
  replace qa_1 := x2.cell qa_1
  replace qa_2 := x2.cell qa_2
  replace qa_3 := x2.cell qa_3
  replace qa_4 := x2.cell qa_4
  replace qa_5 := x2.cell qa_5
  replace qa_6 := x2.cell qa_6
  replace qa_7 := x2.cell qa_7
  replace qa_8 := x2.cell qa_8
  replace qa_9 := x2.cell qa_9
  replace qa_10 := x2.cell qa_10
  replace qa_11 := x2.cell qa_11
  replace qa_12 := x2.cell qa_12
  replace qa_13 := x2.cell qa_13
  have E2 := xo.trans x2
  have hso : w.heap.size ≤ wo.heap.size := xo.size
  have HO2 := Lib.hid (HOo.out.ext x2)
  clear hb2 x2 xo po ro HOo
  refine wp_region_later (by kernel_rfl) (by kernel_rfl) ?_
  have l_0 := fun (g : Later w2) => g.ok.cell ql_0
  have l_1 := fun (g : Later w2) => g.ok.cell ql_1
  have l_2 := fun (g : Later w2) => g.ok.cell ql_2
  have l_3 := fun (g : Later w2) => g.ok.cell ql_3
  have l_4 := fun (g : Later w2) => g.ok.cell ql_4
  have l_5 := fun (g : Later w2) => g.ok.cell ql_5
  have l_6 := fun (g : Later w2) => g.ok.cell ql_6
  have l_7 := fun (g : Later w2) => g.ok.cell ql_7
  have l_8 := fun (g : Later w2) => g.ok.cell ql_8
  have l_9 := fun (g : Later w2) => g.ok.cell ql_9
  have l_10 := fun (g : Later w2) => g.ok.cell ql_10
  have l_11 := fun (g : Later w2) => g.ok.cell ql_11
  have l_12 := fun (g : Later w2) => g.ok.cell ql_12
  have l_13 := fun (g : Later w2) => g.ok.cell ql_13
  have a_0 := fun (g : Later w2) => g.ok.cell qa_0
  have a_1 := fun (g : Later w2) => g.ok.cell qa_1
  have a_2 := fun (g : Later w2) => g.ok.cell qa_2
  have a_3 := fun (g : Later w2) => g.ok.cell qa_3
  have a_4 := fun (g : Later w2) => g.ok.cell qa_4
  have a_5 := fun (g : Later w2) => g.ok.cell qa_5
  have a_6 := fun (g : Later w2) => g.ok.cell qa_6
  have a_7 := fun (g : Later w2) => g.ok.cell qa_7
  have a_8 := fun (g : Later w2) => g.ok.cell qa_8
  have a_9 := fun (g : Later w2) => g.ok.cell qa_9
  have a_10 := fun (g : Later w2) => g.ok.cell qa_10
  have a_11 := fun (g : Later w2) => g.ok.cell qa_11
  have a_12 := fun (g : Later w2) => g.ok.cell qa_12
  have a_13 := fun (g : Later w2) => g.ok.cell qa_13
  repeat (go_big_quiet_step ((fail)))
  go_big_quiet_step ((go_at_call 68; exact laterS (bitsU32 _)))
  repeat (go_big_quiet_step ((fail)))
  refine wpQuiet_nil ?_
  intro w3 hl3
  have hb3 := laters_ext hl3
  clear hl3 l_0 a_0 l_1 a_1 l_2 a_2 l_3 a_3 l_4 a_4 l_5 a_5 l_6 a_6 l_7 a_7 l_8 a_8 l_9 a_9 l_10 a_10 l_11 a_11 l_12 a_12 l_13 a_13
  replace ql_0 := hb3.cell ql_0
  replace ql_1 := hb3.cell ql_1
  replace ql_2 := hb3.cell ql_2
  replace ql_3 := hb3.cell ql_3
  replace ql_4 := hb3.cell ql_4
  replace ql_5 := hb3.cell ql_5
  replace ql_6 := hb3.cell ql_6
  replace ql_7 := hb3.cell ql_7
  replace ql_8 := hb3.cell ql_8
  replace ql_9 := hb3.cell ql_9
  replace ql_10 := hb3.cell ql_10
  replace ql_11 := hb3.cell ql_11
  replace ql_12 := hb3.cell ql_12
  replace ql_13 := hb3.cell ql_13
  have E3 := E2.trans hb3
  have hwo := World.block_lt_of_cell? _ ⟨wo.heap.size, 0, none⟩ ql_0
  have HO3 := Lib.hid (HO2.out.ext hb3)
  clear hb3 E2 HO2 qa_0 qa_1 qa_2 qa_3 qa_4 qa_5 qa_6 qa_7 qa_8 qa_9 qa_10 qa_11 qa_12 qa_13
  go_upto_region 4 with (fail)
  refine wp_region_D (fun i => decide (i ≤ 3)) (by kernel_rfl) ?_
  have f_0 := fun w' (hx : Ext w3 w') => hx.cell ql_0
  have f_1 := fun w' (hx : Ext w3 w') => hx.cell ql_1
  have f_2 := fun w' (hx : Ext w3 w') => hx.cell ql_2
  have f_3 := fun w' (hx : Ext w3 w') => hx.cell ql_3
  have f_4 := fun w' (hx : Ext w3 w') => hx.cell ql_4
  have f_5 := fun w' (hx : Ext w3 w') => hx.cell ql_5
  have f_6 := fun w' (hx : Ext w3 w') => hx.cell ql_6
  have f_7 := fun w' (hx : Ext w3 w') => hx.cell ql_7
  have f_8 := fun w' (hx : Ext w3 w') => hx.cell ql_8
  have f_9 := fun w' (hx : Ext w3 w') => hx.cell ql_9
  have f_10 := fun w' (hx : Ext w3 w') => hx.cell ql_10
  have f_11 := fun w' (hx : Ext w3 w') => hx.cell ql_11
  have f_12 := fun w' (hx : Ext w3 w') => hx.cell ql_12
  have f_13 := fun w' (hx : Ext w3 w') => hx.cell ql_13
  refine take_D (i := 0) (v := ?_) rfl rfl rfl (by kernel_rfl) (by kernel_rfl) (by kernel_rfl) (by kernel_rfl) (by kernel_rfl) ((Ext.refl w3).drew) ?hy0 ?_
  case hy0 => intro wz hSw; (try dsimp only at hSw); go_simp <;> with_reducible rfl
  simp only [List.setIfInBounds_toArray, List.set_cons_zero, List.set_cons_succ]
  refine take_D (i := 1) (v := ?_) rfl rfl rfl (by kernel_rfl) (by kernel_rfl) (by kernel_rfl) (by kernel_rfl) (by kernel_rfl) ((Ext.refl w3).drew) ?hy1 ?_
  case hy1 => intro wz hSw; (try dsimp only at hSw); go_simp <;> with_reducible rfl
  simp only [List.setIfInBounds_toArray, List.set_cons_zero, List.set_cons_succ]
  refine take_D (i := 2) (v := ?_) rfl rfl rfl (by kernel_rfl) (by kernel_rfl) (by kernel_rfl) (by kernel_rfl) (by kernel_rfl) ((Ext.refl w3).drew) ?hy2 ?_
  case hy2 => intro wz hSw; (try dsimp only at hSw); go_simp <;> with_reducible rfl
  simp only [List.setIfInBounds_toArray, List.set_cons_zero, List.set_cons_succ]
  refine last_D (n := 3) rfl rfl (fun j hj => by simp; omega) (by kernel_rfl) ?_
  clear f_0 f_1 f_2 f_3 f_4 f_5 f_6 f_7 f_8 f_9 f_10 f_11 f_12 f_13
  go_wp2
  refine ⟨((Ext.refl w3).drew).alloc _, ?_⟩
  go_wp2
  refine off_normal ?_
  have tb4 : Tag ((w3.alloc (.cells (madeCells #[.int .u64 0] m) 22)).alloc (.cells #[.int .i64 V, .int .i64 32, .int .i64 C, .int .i64 P, .int .u64 S, .slice (some ⟨bo, 0, none⟩) n n, .int .i64 Cu, .int .i64 Cl, .int .i64 Ti, .int .i64 Se, .int .i64 Ne, .int .i64 Ma, .int .i64 Sl, .int .i64 m, .slice (some ⟨w3.heap.size, 0, none⟩) m m, .slice none 0 0] 121)).drew (w3.heap.size + 1) 121 := by
    have h := Tag.new (w3.alloc (.cells (madeCells #[.int .u64 0] m) 22)) #[.int .i64 V, .int .i64 32, .int .i64 C, .int .i64 P, .int .u64 S, .slice (some ⟨bo, 0, none⟩) n n, .int .i64 Cu, .int .i64 Cl, .int .i64 Ti, .int .i64 Se, .int .i64 Ne, .int .i64 Ma, .int .i64 Sl, .int .i64 m, .slice (some ⟨w3.heap.size, 0, none⟩) m m, .slice none 0 0] 121
    rw [show (w3.alloc (.cells (madeCells #[.int .u64 0] m) 22)).heap.size = w3.heap.size + 1 by simp] at h
    exact h.ext (Ext.refl _).drew
  have tg4 : Tag ((w3.alloc (.cells (madeCells #[.int .u64 0] m) 22)).alloc (.cells #[.int .i64 V, .int .i64 32, .int .i64 C, .int .i64 P, .int .u64 S, .slice (some ⟨bo, 0, none⟩) n n, .int .i64 Cu, .int .i64 Cl, .int .i64 Ti, .int .i64 Se, .int .i64 Ne, .int .i64 Ma, .int .i64 Sl, .int .i64 m, .slice (some ⟨w3.heap.size, 0, none⟩) m m, .slice none 0 0] 121)).drew w3.heap.size 22 := by
    have h := Tag.new w3 (madeCells #[.int .u64 0] m) 22
    exact h.ext ((Ext.refl _).alloc _).drew
  have va4 : VA m ((w3.alloc (.cells (madeCells #[.int .u64 0] m) 22)).alloc (.cells #[.int .i64 V, .int .i64 32, .int .i64 C, .int .i64 P, .int .u64 S, .slice (some ⟨bo, 0, none⟩) n n, .int .i64 Cu, .int .i64 Cl, .int .i64 Ti, .int .i64 Se, .int .i64 Ne, .int .i64 Ma, .int .i64 Sl, .int .i64 m, .slice (some ⟨w3.heap.size, 0, none⟩) m m, .slice none 0 0] 121)).drew w3.heap.size (fun _ => .int .u64 0) := by
    have h := va_new (n := m) w3 22 (madeCells #[.int .u64 0] m) (fun _ => .int .u64 0) (made_vl _ rfl m)
    exact h.ext ((Ext.refl _).alloc _).drew
  have B4 : BD ((w3.alloc (.cells (madeCells #[.int .u64 0] m) 22)).alloc (.cells #[.int .i64 V, .int .i64 32, .int .i64 C, .int .i64 P, .int .u64 S, .slice (some ⟨bo, 0, none⟩) n n, .int .i64 Cu, .int .i64 Cl, .int .i64 Ti, .int .i64 Se, .int .i64 Ne, .int .i64 Ma, .int .i64 Sl, .int .i64 m, .slice (some ⟨w3.heap.size, 0, none⟩) m m, .slice none 0 0] 121)).drew 121 (w3.heap.size + 1) w3.heap.size ⟨V, 32, C, P, S, some ⟨bo, 0, none⟩, n, n, Cu, Cl, Ti, Se, Ne, Ma, Sl, m⟩ (fun _ => 0) (.slice none 0 0) [] :=
    ⟨by simp [go_sem], by simp [go_sem], by simp [go_sem], by simp [go_sem], by simp [go_sem], by simp [go_sem], by simp [go_sem], by simp [go_sem], by simp [go_sem], by simp [go_sem], by simp [go_sem], by simp [go_sem], by simp [go_sem], by simp [go_sem], by simp [go_sem], by simp [go_sem], by simp [go_sem], tb4, tg4, va4, World.ownsRow_nil _ _ _ _, by decide⟩
  have X4 : Ext w3 ((w3.alloc (.cells (madeCells #[.int .u64 0] m) 22)).alloc (.cells #[.int .i64 V, .int .i64 32, .int .i64 C, .int .i64 P, .int .u64 S, .slice (some ⟨bo, 0, none⟩) n n, .int .i64 Cu, .int .i64 Cl, .int .i64 Ti, .int .i64 Se, .int .i64 Ne, .int .i64 Ma, .int .i64 Sl, .int .i64 m, .slice (some ⟨w3.heap.size, 0, none⟩) m m, .slice none 0 0] 121)).drew := (((Ext.refl w3).alloc _).alloc _).drew
  obtain ⟨w4, hw4⟩ : ∃ w4, w4 = ((w3.alloc (.cells (madeCells #[.int .u64 0] m) 22)).alloc (.cells #[.int .i64 V, .int .i64 32, .int .i64 C, .int .i64 P, .int .u64 S, .slice (some ⟨bo, 0, none⟩) n n, .int .i64 Cu, .int .i64 Cl, .int .i64 Ti, .int .i64 Se, .int .i64 Ne, .int .i64 Ma, .int .i64 Sl, .int .i64 m, .slice (some ⟨w3.heap.size, 0, none⟩) m m, .slice none 0 0] 121)).drew := ⟨_, rfl⟩
  rw [← hw4] at B4 X4 ⊢
  clear hw4 tb4 tg4 va4
  have h34 : w.heap.size ≤ w3.heap.size := E3.size
  have HB4 := Lib.hid B4
  have HX4 := Lib.hid X4
  have q14 := B4.q14
  clear X4 B4 hmk
  go_wp2
  clear q14
  go_loopw [40] (fun i wr => ∃ k : Nat, k ≤ m ∧ i = .int .i64 k ∧ Ext w3 wr ∧ BD wr 121 (w3.heap.size + 1) w3.heap.size ⟨V, 32, C, P, S, some ⟨bo, 0, none⟩, n, n, Cu, Cl, Ti, Se, Ne, Ma, Sl, m⟩ (fun i => if i < k then F i else 0) (.slice none 0 0) []) (fun i _ => m - (intOf i).toNat)
  case atStart => exact ⟨0, Nat.zero_le _, rfl, HX4.out, HB4.out.congr (fun i _ => by simp)⟩
  case round =>
    obtain ⟨k, hk, rfl, hx, hB⟩ := hrel
    by_cases hlt : k < m
    · have hkm : (k : Int) < (m : Int) := by omega
      have q14 := hB.q14
      have p_0 := hx.cell ql_0
      have p_1 := hx.cell ql_1
      have p_2 := hx.cell ql_2
      have p_3 := hx.cell ql_3
      have p_4 := hx.cell ql_4
      have p_5 := hx.cell ql_5
      have p_6 := hx.cell ql_6
      have p_7 := hx.cell ql_7
      have p_8 := hx.cell ql_8
      have p_9 := hx.cell ql_9
      have p_10 := hx.cell ql_10
      have p_11 := hx.cell ql_11
      have p_12 := hx.cell ql_12
      have p_13 := hx.cell ql_13
      have HX := Lib.hid hx
      have HB := Lib.hid hB
      have CF1 := Lib.hid (fun w' (h : Ext w3 w') => HCF.out bo w' (HO3.out.ext h) k)
      clear hx hB
      go_upto_region 8 with (fail)
      refine wp_region_later_tail 8 (by kernel_rfl) (by kernel_rfl) ?_
      simp only [List.take_succ_cons, List.take_zero, List.drop_succ_cons, List.drop_zero]
      have l_0 := fun (g : Later wr) => g.ok.cell p_0
      have l_1 := fun (g : Later wr) => g.ok.cell p_1
      have l_2 := fun (g : Later wr) => g.ok.cell p_2
      have l_3 := fun (g : Later wr) => g.ok.cell p_3
      have l_4 := fun (g : Later wr) => g.ok.cell p_4
      have l_5 := fun (g : Later wr) => g.ok.cell p_5
      have l_6 := fun (g : Later wr) => g.ok.cell p_6
      have l_7 := fun (g : Later wr) => g.ok.cell p_7
      have l_8 := fun (g : Later wr) => g.ok.cell p_8
      have l_9 := fun (g : Later wr) => g.ok.cell p_9
      have l_10 := fun (g : Later wr) => g.ok.cell p_10
      have l_11 := fun (g : Later wr) => g.ok.cell p_11
      have l_12 := fun (g : Later wr) => g.ok.cell p_12
      have l_13 := fun (g : Later wr) => g.ok.cell p_13
      have l14 := fun (g : Later wr) => g.ok.cell q14
      repeat (go_big_quiet_step ((fail)))
      go_big_quiet_step ((go_at_call 69; exact laterC (CF1.out _ (HX.out.trans (Later.ok _)))))
      repeat (go_big_quiet_step ((fail)))
      refine wpQuiet_nil ?_
      intro w5 hl5
      have hb5 := laters_ext hl5
      clear hl5 l_0 l_1 l_2 l_3 l_4 l_5 l_6 l_7 l_8 l_9 l_10 l_11 l_12 l_13 l14 p_0 p_1 p_2 p_3 p_4 p_5 p_6 p_7 p_8 p_9 p_10 p_11 p_12 p_13 q14
      have B5 := HB.out.ext hb5
      have c5 := B5.va.c k hlt
      have z5 := B5.va.z k hlt
      have HX6 := Lib.hid ((HX.out.trans hb5).setCell (p := ⟨w3.heap.size, k, none⟩) (Nat.le_refl _) (.int .u64 (F k)))
      have HB6 : Hid (BD (w5.setCell ⟨w3.heap.size, k, none⟩ (.int .u64 (F k))) 121 (w3.heap.size + 1) w3.heap.size ⟨V, 32, C, P, S, some ⟨bo, 0, none⟩, n, n, Cu, Cl, Ti, Se, Ne, Ma, Sl, m⟩ (fun i => if i < k + 1 then F i else 0) (.slice none 0 0) []) := Lib.hid ((B5.set hlt (F k)).congr (fun i _ => by
        unfold upd
        by_cases e : i = k
        · simp [e]
        · by_cases e2 : i < k
          · simp [e, e2, show i < k + 1 by omega]
          · simp [e, e2, show ¬ i < k + 1 by omega]))
      clear hb5 B5
      generalize F k = z at *
      go_wp2
      exact ⟨⟨k + 1, by omega, by go_num, HX6.out, HB6.out⟩, by simp [intOf]; omega⟩
    · obtain rfl : k = m := by omega
      have HG2 := Lib.hid (HG.out _ _ bo wr (hB.congr (fun i hi => by have hi2 : i < k := hi; simp [hi2])) (HO3.out.ext hx) (E3.trans hx) (by omega) h34)
      clear hx hB
      go_wp2
      exact HG2.out
set_option maxRecDepth 100000 in
theorem New64 (V C P S : Int) (a : Option Addr) (cap : Nat) (ups : List (List Int)) (xu xl xt xs xn xm xo : Int) (m : Nat) (w : World) (hL : ListsV w (.slice a ups.length cap) ups) (hll : ∀ l ∈ ups, l.length ≤ 1000000) (hn : ups.length ≤ 1000000) (hg : ckC V 64 C P ups = 0) (hS0 : 0 ≤ S) (hS1 : S < 18446744073709551616) (hm : (m : Int) = nCe V ups.length C) :
    Calls Tryz.prog 42 #[(.agg #[.int .i64 V, .int .i64 64, .int .i64 C, .int .i64 P, .int .u64 S, .slice a ups.length cap, .int .i64 xu, .int .i64 xl, .int .i64 xt, .int .i64 xs, .int .i64 xn, .int .i64 xm, .int .i64 xo, .int .i64 m])] w (NewDoes 152 V 64 C P S ups m w) := by
  have ok := ok_iff.1 hg
  have hok := numOk ok
  have hbd := num_bounds hok
  have hm5 : m ≤ 500 := by omega
  obtain ⟨n, hn0⟩ : ∃ n, n = ups.length := ⟨_, rfl⟩
  have CO := fun w' (hx : Ext w w') => lOf_ok V 64 C P S _ ups w' (hL.ext hx) hll hn hg
  have CF := fun bo w' (hL' : OwnL w' (.slice (some ⟨bo, 0, none⟩) ups.length ups.length) ups) (c : Nat) => first_at (S := S) ok (some ⟨bo, 0, none⟩) ups.length w' hL'.lists hll hn hg hS0 hS1 c
  rw [← hn0] at CO CF hm ⊢
  obtain ⟨Cu, hCu⟩ : ∃ x, x = nCu V n := ⟨_, rfl⟩
  obtain ⟨Cl, hCl⟩ : ∃ x, x = nCl V n := ⟨_, rfl⟩
  obtain ⟨Ti, hTi⟩ : ∃ x, x = nTi V n := ⟨_, rfl⟩
  obtain ⟨Se, hSe⟩ : ∃ x, x = nSe V n := ⟨_, rfl⟩
  obtain ⟨Ne, hNe⟩ : ∃ x, x = nNe V n := ⟨_, rfl⟩
  obtain ⟨Ma, hMa⟩ : ∃ x, x = nMa V n := ⟨_, rfl⟩
  obtain ⟨Sl, hSl⟩ : ∃ x, x = nSl V n C := ⟨_, rfl⟩
  have hLay : ∀ u, layV V 64 C P S u n = (.agg #[.int .i64 V, .int .i64 64, .int .i64 C, .int .i64 P, .int .u64 S, u, .int .i64 Cu, .int .i64 Cl, .int .i64 Ti, .int .i64 Se, .int .i64 Ne, .int .i64 Ma, .int .i64 Sl, .int .i64 m]) := fun u => by unfold layV; rw [hCu, hCl, hTi, hSe, hNe, hMa, hSl, hm]
  simp only [hLay] at CF
  have hy : ∀ bo, yOf V 64 C P S bo n m = ⟨V, 64, C, P, S, some ⟨bo, 0, none⟩, n, n, Cu, Cl, Ti, Se, Ne, Ma, Sl, m⟩ := fun bo => by unfold yOf; rw [hCu, hCl, hTi, hSe, hNe, hMa, hSl]
  have HLAY := Lib.hid hLay
  have HCO := Lib.hid CO
  have HCF : Hid (∀ bo w', OwnL w' (.slice (some ⟨bo, 0, none⟩) n n) ups → ∀ c : Nat, Calls Tryz.prog 69 #[(.agg #[.int .i64 V, .int .i64 64, .int .i64 C, .int .i64 P, .int .u64 S, .slice (some ⟨bo, 0, none⟩) n n, .int .i64 Cu, .int .i64 Cl, .int .i64 Ti, .int .i64 Se, .int .i64 Ne, .int .i64 Ma, .int .i64 Sl, .int .i64 m]), .int .i64 c] w' fun e w'' => e = .returned (.int .u64 (fsC V 64 C S n c)) ∧ Ext w' w'') := Lib.hid (fun bo w' h c => CF bo w' h c)
  have HG : Hid (∀ b g bo w', BD w' 152 b g ⟨V, 64, C, P, S, some ⟨bo, 0, none⟩, n, n, Cu, Cl, Ti, Se, Ne, Ma, Sl, m⟩ (fsC V 64 C S n) (.slice none 0 0) [] → OwnL w' (.slice (some ⟨bo, 0, none⟩) n n) ups → Ext w w' → w.heap.size ≤ b → w.heap.size ≤ g → NewDoes 152 V 64 C P S ups m w (.returned (.pointer (some ⟨b, 0, none⟩))) w') := Lib.hid (fun b g bo w' h1 h2 h3 h4 h5 => ⟨b, g, bo, rfl, by rw [← hn0, hy]; exact h1, by rw [← hn0]; exact h2, h3, h4, h5⟩)
  generalize NewDoes 152 V 64 C P S ups m w = G at *
  generalize fsC V 64 C S n = F at *
  have HN0 := Lib.hid hn0
  have h6 : n ≤ 6 := by rw [hn0]; exact ok.rt.six
  clear CO CF hL hll hg ok hok hbd hn hLay hy hCu hCl hTi hSe hNe hMa hSl hm hn0
  have hmk := fun W => run_make_row' (P := Tryz.prog) 52 22 (.int .u64 0) 8 Tryz.underlying52 info_u64 rfl .i64 .i64 m (by omega) (by omega) W
  go_enter Tryz.func42, Tryz.ntmps42
  go_wp2_with fail
  refine (HCO.out _ ((Ext.refl w).alloc _)).mono ?_
  rintro e wo ⟨uo, rfl, Oo, Xo⟩
  obtain ⟨bo, fo, cuo, eo, -⟩ := id Oo
  rw [← HN0.out] at eo ⊢
  subst eo
  rw [HLAY.out]
  have qa_0 : wo.cell? ⟨w.heap.size, 0, none⟩ = some (.int .i64 V) := Xo.cell (by simp [go_sem])
  have qa_1 : wo.cell? ⟨w.heap.size, 1, none⟩ = some (.int .i64 64) := Xo.cell (by simp [go_sem])
  have qa_2 : wo.cell? ⟨w.heap.size, 2, none⟩ = some (.int .i64 C) := Xo.cell (by simp [go_sem])
  have qa_3 : wo.cell? ⟨w.heap.size, 3, none⟩ = some (.int .i64 P) := Xo.cell (by simp [go_sem])
  have qa_4 : wo.cell? ⟨w.heap.size, 4, none⟩ = some (.int .u64 S) := Xo.cell (by simp [go_sem])
  have qa_5 : wo.cell? ⟨w.heap.size, 5, none⟩ = some (.slice a n cap) := Xo.cell (by simp [go_sem])
  have qa_6 : wo.cell? ⟨w.heap.size, 6, none⟩ = some (.int .i64 xu) := Xo.cell (by simp [go_sem])
  have qa_7 : wo.cell? ⟨w.heap.size, 7, none⟩ = some (.int .i64 xl) := Xo.cell (by simp [go_sem])
  have qa_8 : wo.cell? ⟨w.heap.size, 8, none⟩ = some (.int .i64 xt) := Xo.cell (by simp [go_sem])
  have qa_9 : wo.cell? ⟨w.heap.size, 9, none⟩ = some (.int .i64 xs) := Xo.cell (by simp [go_sem])
  have qa_10 : wo.cell? ⟨w.heap.size, 10, none⟩ = some (.int .i64 xn) := Xo.cell (by simp [go_sem])
  have qa_11 : wo.cell? ⟨w.heap.size, 11, none⟩ = some (.int .i64 xm) := Xo.cell (by simp [go_sem])
  have qa_12 : wo.cell? ⟨w.heap.size, 12, none⟩ = some (.int .i64 xo) := Xo.cell (by simp [go_sem])
  have qa_13 : wo.cell? ⟨w.heap.size, 13, none⟩ = some (.int .i64 m) := Xo.cell (by simp [go_sem])
  have xo : Ext w wo := Ext.trans ((Ext.refl w).alloc _) Xo
  have po := World.block_lt_of_cell? _ ⟨w.heap.size, 0, none⟩ qa_0
  have ro := Nat.lt_succ_of_lt po
  have HOo := Lib.hid Oo
  clear Xo Oo
  go_upto_region 2 with (fail)
  refine settle_wp ?_
  intro w2 hb2
  have ql_0 : w2.cell? ⟨wo.heap.size, 0, none⟩ = some (.int .i64 V) := hb2.cell (by simp [go_sem])
  have ql_1 : w2.cell? ⟨wo.heap.size, 1, none⟩ = some (.int .i64 64) := hb2.cell (by simp [go_sem])
  have ql_2 : w2.cell? ⟨wo.heap.size, 2, none⟩ = some (.int .i64 C) := hb2.cell (by simp [go_sem])
  have ql_3 : w2.cell? ⟨wo.heap.size, 3, none⟩ = some (.int .i64 P) := hb2.cell (by simp [go_sem])
  have ql_4 : w2.cell? ⟨wo.heap.size, 4, none⟩ = some (.int .u64 S) := hb2.cell (by simp [go_sem])
  have ql_5 : w2.cell? ⟨wo.heap.size, 5, none⟩ = some (.slice (some ⟨bo, 0, none⟩) n n) := hb2.cell (by simp [go_sem])
  have ql_6 : w2.cell? ⟨wo.heap.size, 6, none⟩ = some (.int .i64 Cu) := hb2.cell (by simp [go_sem])
  have ql_7 : w2.cell? ⟨wo.heap.size, 7, none⟩ = some (.int .i64 Cl) := hb2.cell (by simp [go_sem])
  have ql_8 : w2.cell? ⟨wo.heap.size, 8, none⟩ = some (.int .i64 Ti) := hb2.cell (by simp [go_sem])
  have ql_9 : w2.cell? ⟨wo.heap.size, 9, none⟩ = some (.int .i64 Se) := hb2.cell (by simp [go_sem])
  have ql_10 : w2.cell? ⟨wo.heap.size, 10, none⟩ = some (.int .i64 Ne) := hb2.cell (by simp [go_sem])
  have ql_11 : w2.cell? ⟨wo.heap.size, 11, none⟩ = some (.int .i64 Ma) := hb2.cell (by simp [go_sem])
  have ql_12 : w2.cell? ⟨wo.heap.size, 12, none⟩ = some (.int .i64 Sl) := hb2.cell (by simp [go_sem])
  have ql_13 : w2.cell? ⟨wo.heap.size, 13, none⟩ = some (.int .i64 m) := hb2.cell (by simp [go_sem])
  have x2 := Ext.trans ((Ext.refl wo).alloc _) hb2
  replace qa_0 := x2.cell qa_0
  replace qa_1 := x2.cell qa_1
  replace qa_2 := x2.cell qa_2
  replace qa_3 := x2.cell qa_3
  replace qa_4 := x2.cell qa_4
  replace qa_5 := x2.cell qa_5
  replace qa_6 := x2.cell qa_6
  replace qa_7 := x2.cell qa_7
  replace qa_8 := x2.cell qa_8
  replace qa_9 := x2.cell qa_9
  replace qa_10 := x2.cell qa_10
  replace qa_11 := x2.cell qa_11
  replace qa_12 := x2.cell qa_12
  replace qa_13 := x2.cell qa_13
  have E2 := xo.trans x2
  have hso : w.heap.size ≤ wo.heap.size := xo.size
  have HO2 := Lib.hid (HOo.out.ext x2)
  clear hb2 x2 xo po ro HOo
  refine wp_region_later (by kernel_rfl) (by kernel_rfl) ?_
  have l_0 := fun (g : Later w2) => g.ok.cell ql_0
  have l_1 := fun (g : Later w2) => g.ok.cell ql_1
  have l_2 := fun (g : Later w2) => g.ok.cell ql_2
  have l_3 := fun (g : Later w2) => g.ok.cell ql_3
  have l_4 := fun (g : Later w2) => g.ok.cell ql_4
  have l_5 := fun (g : Later w2) => g.ok.cell ql_5
  have l_6 := fun (g : Later w2) => g.ok.cell ql_6
  have l_7 := fun (g : Later w2) => g.ok.cell ql_7
  have l_8 := fun (g : Later w2) => g.ok.cell ql_8
  have l_9 := fun (g : Later w2) => g.ok.cell ql_9
  have l_10 := fun (g : Later w2) => g.ok.cell ql_10
  have l_11 := fun (g : Later w2) => g.ok.cell ql_11
  have l_12 := fun (g : Later w2) => g.ok.cell ql_12
  have l_13 := fun (g : Later w2) => g.ok.cell ql_13
  have a_0 := fun (g : Later w2) => g.ok.cell qa_0
  have a_1 := fun (g : Later w2) => g.ok.cell qa_1
  have a_2 := fun (g : Later w2) => g.ok.cell qa_2
  have a_3 := fun (g : Later w2) => g.ok.cell qa_3
  have a_4 := fun (g : Later w2) => g.ok.cell qa_4
  have a_5 := fun (g : Later w2) => g.ok.cell qa_5
  have a_6 := fun (g : Later w2) => g.ok.cell qa_6
  have a_7 := fun (g : Later w2) => g.ok.cell qa_7
  have a_8 := fun (g : Later w2) => g.ok.cell qa_8
  have a_9 := fun (g : Later w2) => g.ok.cell qa_9
  have a_10 := fun (g : Later w2) => g.ok.cell qa_10
  have a_11 := fun (g : Later w2) => g.ok.cell qa_11
  have a_12 := fun (g : Later w2) => g.ok.cell qa_12
  have a_13 := fun (g : Later w2) => g.ok.cell qa_13
  repeat (go_big_quiet_step ((fail)))
  go_big_quiet_step ((go_at_call 92; exact laterS (bitsU64 _)))
  repeat (go_big_quiet_step ((fail)))
  refine wpQuiet_nil ?_
  intro w3 hl3
  have hb3 := laters_ext hl3
  clear hl3 l_0 a_0 l_1 a_1 l_2 a_2 l_3 a_3 l_4 a_4 l_5 a_5 l_6 a_6 l_7 a_7 l_8 a_8 l_9 a_9 l_10 a_10 l_11 a_11 l_12 a_12 l_13 a_13
  replace ql_0 := hb3.cell ql_0
  replace ql_1 := hb3.cell ql_1
  replace ql_2 := hb3.cell ql_2
  replace ql_3 := hb3.cell ql_3
  replace ql_4 := hb3.cell ql_4
  replace ql_5 := hb3.cell ql_5
  replace ql_6 := hb3.cell ql_6
  replace ql_7 := hb3.cell ql_7
  replace ql_8 := hb3.cell ql_8
  replace ql_9 := hb3.cell ql_9
  replace ql_10 := hb3.cell ql_10
  replace ql_11 := hb3.cell ql_11
  replace ql_12 := hb3.cell ql_12
  replace ql_13 := hb3.cell ql_13
  have E3 := E2.trans hb3
  have hwo := World.block_lt_of_cell? _ ⟨wo.heap.size, 0, none⟩ ql_0
  have HO3 := Lib.hid (HO2.out.ext hb3)
  clear hb3 E2 HO2 qa_0 qa_1 qa_2 qa_3 qa_4 qa_5 qa_6 qa_7 qa_8 qa_9 qa_10 qa_11 qa_12 qa_13
  go_upto_region 4 with (fail)
  refine wp_region_D (fun i => decide (i ≤ 3)) (by kernel_rfl) ?_
  have f_0 := fun w' (hx : Ext w3 w') => hx.cell ql_0
  have f_1 := fun w' (hx : Ext w3 w') => hx.cell ql_1
  have f_2 := fun w' (hx : Ext w3 w') => hx.cell ql_2
  have f_3 := fun w' (hx : Ext w3 w') => hx.cell ql_3
  have f_4 := fun w' (hx : Ext w3 w') => hx.cell ql_4
  have f_5 := fun w' (hx : Ext w3 w') => hx.cell ql_5
  have f_6 := fun w' (hx : Ext w3 w') => hx.cell ql_6
  have f_7 := fun w' (hx : Ext w3 w') => hx.cell ql_7
  have f_8 := fun w' (hx : Ext w3 w') => hx.cell ql_8
  have f_9 := fun w' (hx : Ext w3 w') => hx.cell ql_9
  have f_10 := fun w' (hx : Ext w3 w') => hx.cell ql_10
  have f_11 := fun w' (hx : Ext w3 w') => hx.cell ql_11
  have f_12 := fun w' (hx : Ext w3 w') => hx.cell ql_12
  have f_13 := fun w' (hx : Ext w3 w') => hx.cell ql_13
  refine take_D (i := 0) (v := ?_) rfl rfl rfl (by kernel_rfl) (by kernel_rfl) (by kernel_rfl) (by kernel_rfl) (by kernel_rfl) ((Ext.refl w3).drew) ?hy0 ?_
  case hy0 => intro wz hSw; (try dsimp only at hSw); go_simp <;> with_reducible rfl
  simp only [List.setIfInBounds_toArray, List.set_cons_zero, List.set_cons_succ]
  refine take_D (i := 1) (v := ?_) rfl rfl rfl (by kernel_rfl) (by kernel_rfl) (by kernel_rfl) (by kernel_rfl) (by kernel_rfl) ((Ext.refl w3).drew) ?hy1 ?_
  case hy1 => intro wz hSw; (try dsimp only at hSw); go_simp <;> with_reducible rfl
  simp only [List.setIfInBounds_toArray, List.set_cons_zero, List.set_cons_succ]
  refine take_D (i := 2) (v := ?_) rfl rfl rfl (by kernel_rfl) (by kernel_rfl) (by kernel_rfl) (by kernel_rfl) (by kernel_rfl) ((Ext.refl w3).drew) ?hy2 ?_
  case hy2 => intro wz hSw; (try dsimp only at hSw); go_simp <;> with_reducible rfl
  simp only [List.setIfInBounds_toArray, List.set_cons_zero, List.set_cons_succ]
  refine last_D (n := 3) rfl rfl (fun j hj => by simp; omega) (by kernel_rfl) ?_
  clear f_0 f_1 f_2 f_3 f_4 f_5 f_6 f_7 f_8 f_9 f_10 f_11 f_12 f_13
  go_wp2
  refine ⟨((Ext.refl w3).drew).alloc _, ?_⟩
  go_wp2
  refine off_normal ?_
  have tb4 : Tag ((w3.alloc (.cells (madeCells #[.int .u64 0] m) 22)).alloc (.cells #[.int .i64 V, .int .i64 64, .int .i64 C, .int .i64 P, .int .u64 S, .slice (some ⟨bo, 0, none⟩) n n, .int .i64 Cu, .int .i64 Cl, .int .i64 Ti, .int .i64 Se, .int .i64 Ne, .int .i64 Ma, .int .i64 Sl, .int .i64 m, .slice (some ⟨w3.heap.size, 0, none⟩) m m, .slice none 0 0] 152)).drew (w3.heap.size + 1) 152 := by
    have h := Tag.new (w3.alloc (.cells (madeCells #[.int .u64 0] m) 22)) #[.int .i64 V, .int .i64 64, .int .i64 C, .int .i64 P, .int .u64 S, .slice (some ⟨bo, 0, none⟩) n n, .int .i64 Cu, .int .i64 Cl, .int .i64 Ti, .int .i64 Se, .int .i64 Ne, .int .i64 Ma, .int .i64 Sl, .int .i64 m, .slice (some ⟨w3.heap.size, 0, none⟩) m m, .slice none 0 0] 152
    rw [show (w3.alloc (.cells (madeCells #[.int .u64 0] m) 22)).heap.size = w3.heap.size + 1 by simp] at h
    exact h.ext (Ext.refl _).drew
  have tg4 : Tag ((w3.alloc (.cells (madeCells #[.int .u64 0] m) 22)).alloc (.cells #[.int .i64 V, .int .i64 64, .int .i64 C, .int .i64 P, .int .u64 S, .slice (some ⟨bo, 0, none⟩) n n, .int .i64 Cu, .int .i64 Cl, .int .i64 Ti, .int .i64 Se, .int .i64 Ne, .int .i64 Ma, .int .i64 Sl, .int .i64 m, .slice (some ⟨w3.heap.size, 0, none⟩) m m, .slice none 0 0] 152)).drew w3.heap.size 22 := by
    have h := Tag.new w3 (madeCells #[.int .u64 0] m) 22
    exact h.ext ((Ext.refl _).alloc _).drew
  have va4 : VA m ((w3.alloc (.cells (madeCells #[.int .u64 0] m) 22)).alloc (.cells #[.int .i64 V, .int .i64 64, .int .i64 C, .int .i64 P, .int .u64 S, .slice (some ⟨bo, 0, none⟩) n n, .int .i64 Cu, .int .i64 Cl, .int .i64 Ti, .int .i64 Se, .int .i64 Ne, .int .i64 Ma, .int .i64 Sl, .int .i64 m, .slice (some ⟨w3.heap.size, 0, none⟩) m m, .slice none 0 0] 152)).drew w3.heap.size (fun _ => .int .u64 0) := by
    have h := va_new (n := m) w3 22 (madeCells #[.int .u64 0] m) (fun _ => .int .u64 0) (made_vl _ rfl m)
    exact h.ext ((Ext.refl _).alloc _).drew
  have B4 : BD ((w3.alloc (.cells (madeCells #[.int .u64 0] m) 22)).alloc (.cells #[.int .i64 V, .int .i64 64, .int .i64 C, .int .i64 P, .int .u64 S, .slice (some ⟨bo, 0, none⟩) n n, .int .i64 Cu, .int .i64 Cl, .int .i64 Ti, .int .i64 Se, .int .i64 Ne, .int .i64 Ma, .int .i64 Sl, .int .i64 m, .slice (some ⟨w3.heap.size, 0, none⟩) m m, .slice none 0 0] 152)).drew 152 (w3.heap.size + 1) w3.heap.size ⟨V, 64, C, P, S, some ⟨bo, 0, none⟩, n, n, Cu, Cl, Ti, Se, Ne, Ma, Sl, m⟩ (fun _ => 0) (.slice none 0 0) [] :=
    ⟨by simp [go_sem], by simp [go_sem], by simp [go_sem], by simp [go_sem], by simp [go_sem], by simp [go_sem], by simp [go_sem], by simp [go_sem], by simp [go_sem], by simp [go_sem], by simp [go_sem], by simp [go_sem], by simp [go_sem], by simp [go_sem], by simp [go_sem], by simp [go_sem], by simp [go_sem], tb4, tg4, va4, World.ownsRow_nil _ _ _ _, by decide⟩
  have X4 : Ext w3 ((w3.alloc (.cells (madeCells #[.int .u64 0] m) 22)).alloc (.cells #[.int .i64 V, .int .i64 64, .int .i64 C, .int .i64 P, .int .u64 S, .slice (some ⟨bo, 0, none⟩) n n, .int .i64 Cu, .int .i64 Cl, .int .i64 Ti, .int .i64 Se, .int .i64 Ne, .int .i64 Ma, .int .i64 Sl, .int .i64 m, .slice (some ⟨w3.heap.size, 0, none⟩) m m, .slice none 0 0] 152)).drew := (((Ext.refl w3).alloc _).alloc _).drew
  obtain ⟨w4, hw4⟩ : ∃ w4, w4 = ((w3.alloc (.cells (madeCells #[.int .u64 0] m) 22)).alloc (.cells #[.int .i64 V, .int .i64 64, .int .i64 C, .int .i64 P, .int .u64 S, .slice (some ⟨bo, 0, none⟩) n n, .int .i64 Cu, .int .i64 Cl, .int .i64 Ti, .int .i64 Se, .int .i64 Ne, .int .i64 Ma, .int .i64 Sl, .int .i64 m, .slice (some ⟨w3.heap.size, 0, none⟩) m m, .slice none 0 0] 152)).drew := ⟨_, rfl⟩
  rw [← hw4] at B4 X4 ⊢
  clear hw4 tb4 tg4 va4
  have h34 : w.heap.size ≤ w3.heap.size := E3.size
  have HB4 := Lib.hid B4
  have HX4 := Lib.hid X4
  have q14 := B4.q14
  clear X4 B4 hmk
  go_wp2
  clear q14
  go_loopw [40] (fun i wr => ∃ k : Nat, k ≤ m ∧ i = .int .i64 k ∧ Ext w3 wr ∧ BD wr 152 (w3.heap.size + 1) w3.heap.size ⟨V, 64, C, P, S, some ⟨bo, 0, none⟩, n, n, Cu, Cl, Ti, Se, Ne, Ma, Sl, m⟩ (fun i => if i < k then F i else 0) (.slice none 0 0) []) (fun i _ => m - (intOf i).toNat)
  case atStart => exact ⟨0, Nat.zero_le _, rfl, HX4.out, HB4.out.congr (fun i _ => by simp)⟩
  case round =>
    obtain ⟨k, hk, rfl, hx, hB⟩ := hrel
    by_cases hlt : k < m
    · have hkm : (k : Int) < (m : Int) := by omega
      have q14 := hB.q14
      have p_0 := hx.cell ql_0
      have p_1 := hx.cell ql_1
      have p_2 := hx.cell ql_2
      have p_3 := hx.cell ql_3
      have p_4 := hx.cell ql_4
      have p_5 := hx.cell ql_5
      have p_6 := hx.cell ql_6
      have p_7 := hx.cell ql_7
      have p_8 := hx.cell ql_8
      have p_9 := hx.cell ql_9
      have p_10 := hx.cell ql_10
      have p_11 := hx.cell ql_11
      have p_12 := hx.cell ql_12
      have p_13 := hx.cell ql_13
      have HX := Lib.hid hx
      have HB := Lib.hid hB
      have CF1 := Lib.hid (fun w' (h : Ext w3 w') => HCF.out bo w' (HO3.out.ext h) k)
      clear hx hB
      go_upto_region 8 with (fail)
      refine wp_region_later_tail 8 (by kernel_rfl) (by kernel_rfl) ?_
      simp only [List.take_succ_cons, List.take_zero, List.drop_succ_cons, List.drop_zero]
      have l_0 := fun (g : Later wr) => g.ok.cell p_0
      have l_1 := fun (g : Later wr) => g.ok.cell p_1
      have l_2 := fun (g : Later wr) => g.ok.cell p_2
      have l_3 := fun (g : Later wr) => g.ok.cell p_3
      have l_4 := fun (g : Later wr) => g.ok.cell p_4
      have l_5 := fun (g : Later wr) => g.ok.cell p_5
      have l_6 := fun (g : Later wr) => g.ok.cell p_6
      have l_7 := fun (g : Later wr) => g.ok.cell p_7
      have l_8 := fun (g : Later wr) => g.ok.cell p_8
      have l_9 := fun (g : Later wr) => g.ok.cell p_9
      have l_10 := fun (g : Later wr) => g.ok.cell p_10
      have l_11 := fun (g : Later wr) => g.ok.cell p_11
      have l_12 := fun (g : Later wr) => g.ok.cell p_12
      have l_13 := fun (g : Later wr) => g.ok.cell p_13
      have l14 := fun (g : Later wr) => g.ok.cell q14
      repeat (go_big_quiet_step ((fail)))
      go_big_quiet_step ((go_at_call 69; exact laterC (CF1.out _ (HX.out.trans (Later.ok _)))))
      repeat (go_big_quiet_step ((fail)))
      refine wpQuiet_nil ?_
      intro w5 hl5
      have hb5 := laters_ext hl5
      clear hl5 l_0 l_1 l_2 l_3 l_4 l_5 l_6 l_7 l_8 l_9 l_10 l_11 l_12 l_13 l14 p_0 p_1 p_2 p_3 p_4 p_5 p_6 p_7 p_8 p_9 p_10 p_11 p_12 p_13 q14
      have B5 := HB.out.ext hb5
      have c5 := B5.va.c k hlt
      have z5 := B5.va.z k hlt
      have HX6 := Lib.hid ((HX.out.trans hb5).setCell (p := ⟨w3.heap.size, k, none⟩) (Nat.le_refl _) (.int .u64 (F k)))
      have HB6 : Hid (BD (w5.setCell ⟨w3.heap.size, k, none⟩ (.int .u64 (F k))) 152 (w3.heap.size + 1) w3.heap.size ⟨V, 64, C, P, S, some ⟨bo, 0, none⟩, n, n, Cu, Cl, Ti, Se, Ne, Ma, Sl, m⟩ (fun i => if i < k + 1 then F i else 0) (.slice none 0 0) []) := Lib.hid ((B5.set hlt (F k)).congr (fun i _ => by
        unfold upd
        by_cases e : i = k
        · simp [e]
        · by_cases e2 : i < k
          · simp [e, e2, show i < k + 1 by omega]
          · simp [e, e2, show ¬ i < k + 1 by omega]))
      clear hb5 B5
      generalize F k = z at *
      go_wp2
      exact ⟨⟨k + 1, by omega, by go_num, HX6.out, HB6.out⟩, by simp [intOf]; omega⟩
    · obtain rfl : k = m := by omega
      have HG2 := Lib.hid (HG.out _ _ bo wr (hB.congr (fun i hi => by have hi2 : i < k := hi; simp [hi2])) (HO3.out.ext hx) (E3.trans hx) (by omega) h34)
      clear hx hB
      go_wp2
      exact HG2.out
end Go.Proofs.YtkmfamidahlgiaaGreatDoor

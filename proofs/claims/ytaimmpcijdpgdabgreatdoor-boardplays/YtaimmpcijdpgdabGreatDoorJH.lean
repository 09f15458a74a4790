import Derived.Test.YtaimmpcijdpgdabGreatDoorJD
import Derived.Test.YtaimmpcijdpgdabGreatDoorJA
import Derived.Test.YtaimmpcijdpgdabGreatDoorJG
/- New of the other width, Len, Layout, the document's Same; lists kept beside the two boards. -/
namespace Go.Proofs.YtaimmpcijdpgdabGreatDoor
open Go.RowKit
set_option linter.unusedVariables false
set_option linter.unusedSimpArgs false
set_option maxHeartbeats 2000000
attribute [local go_sem] later_cell later_frozen later_const
theorem tag_cells {w : World} {b t : Nat} (h : Tag w b t) (h1 : t ≠ 68) (h2 : t ≠ 3) : ∃ cur e fz, w.heap[b]? = some (.cells cur e fz) ∧ e ≠ 68 ∧ e ≠ 3 := by
  obtain ⟨cur, hh⟩ := h
  exact ⟨cur, t, _, hh, h1, h2⟩
theorem BD.own {w : World} {bt b g : Nat} {y : LY} {f : Nat → Int} {lv : Value} {log : List Acc} (h : BD w bt b g y f lv log) (h1 : bt ≠ 68) (h2 : bt ≠ 3) : ∀ k, Own b g lv k → k < w.heap.size → ∃ cur e fz, w.heap[k]? = some (.cells cur e fz) ∧ e ≠ 68 ∧ e ≠ 3 := by
  intro k hk _
  rcases hk with rfl | rfl | hk
  · exact tag_cells h.tb h1 h2
  · exact tag_cells h.tg (by decide) (by decide)
  · exact tag_cells (row_tagA h.row hk) (by decide) (by decide)
theorem RB.own {w : World} {b : Nat} {y : RY} {f : Nat → Int} {lv : Value} {log : List Acc} (h : RB w b y f lv log) : ∀ k, Own b y.gh lv k → k < w.heap.size → ∃ cur e fz, w.heap[k]? = some (.cells cur e fz) ∧ e ≠ 68 ∧ e ≠ 3 := by
  intro k hk _
  rcases hk with rfl | rfl | hk
  · exact tag_cells h.tb (by decide) (by decide)
  · exact tag_cells h.th (by decide) (by decide)
  · exact tag_cells (row_tagA h.row hk) (by decide) (by decide)
theorem Len32 (b g : Nat) (y : LY) (f : Nat → Int) (lv : Value) (log : List Acc) (w : World) (hB : BD w 74 b g y f lv log) :
    Calls Tryz.prog 20 #[.pointer (some ⟨b, 0, none⟩)] w fun e w' => e = .returned (.int .i64 log.length) ∧ w = w' := by
  have q15 := hB.q15
  obtain ⟨a, cap, e, -⟩ := rowA_form hB.row
  subst e
  clear hB
  generalize log.length = n at *
  go_enter Tryz.func20, Tryz.ntmps20
  go_wp2
  go_ret
  exact ⟨rfl, rfl⟩
theorem Len64 (b g : Nat) (y : LY) (f : Nat → Int) (lv : Value) (log : List Acc) (w : World) (hB : BD w 75 b g y f lv log) :
    Calls Tryz.prog 24 #[.pointer (some ⟨b, 0, none⟩)] w fun e w' => e = .returned (.int .i64 log.length) ∧ w = w' := by
  have q15 := hB.q15
  obtain ⟨a, cap, e, -⟩ := rowA_form hB.row
  subst e
  clear hB
  generalize log.length = n at *
  go_enter Tryz.func24, Tryz.ntmps24
  go_wp2
  go_ret
  exact ⟨rfl, rfl⟩
set_option maxRecDepth 100000 in
theorem rSame12 (b1 b2 : Nat) (v v' : Value) (l : List Acc) (w : World) (h : w.ownsRow b1 91 5 v l.length (rowA l)) (h' : w.ownsRow b2 91 5 v' l.length (rowA l)) (hl : l.length ≤ 1000) :
    Calls Tryz.prog 18 #[v, v'] w fun e w' => e = .returned (.bool true) ∧ Ext w w' := by
  obtain ⟨a, cap, e, -⟩ := rowA_form h
  subst e
  obtain ⟨a', cap', e, -⟩ := rowA_form h'
  subst e
  have HR := Lib.hid h
  have HR' := Lib.hid h'
  obtain ⟨n, hn⟩ : ∃ n, n = l.length := ⟨_, rfl⟩
  have HN := Lib.hid hn
  rw [← hn] at hl ⊢
  clear h h' hn
  go_enter Tryz.func18, Tryz.ntmps18
  go_wp2
  go_loopw [5] (fun i wr => ∃ k : Nat, k ≤ n ∧ i = .int .i64 k ∧ Ext w wr) (fun i _ => n - (intOf i).toNat)
  case atStart => exact ⟨0, Nat.zero_le _, rfl, Ext.refl _⟩
  case round =>
    obtain ⟨k, hk, rfl, hx⟩ := hrel
    by_cases hlt : k < n
    · have hkn : (k : Int) < (n : Int) := by omega
      have hkl : k < l.length := by have := HN.out; omega
      obtain ⟨g, ea, r0, r1, r2, r3, r4⟩ := rowA_cell HR.out hkl
      obtain ⟨g', ea', s0, s1, s2, s3, s4⟩ := rowA_cell HR'.out hkl
      subst ea ea'
      generalize l[k] = q at *
      have HX := Lib.hid hx
      have c0 := hx.cell r0
      have c1 := hx.cell r1
      have c2 := hx.cell r2
      have c3 := hx.cell r3
      have c4 := hx.cell r4
      have d0 := hx.cell s0
      have d1 := hx.cell s1
      have d2 := hx.cell s2
      have d3 := hx.cell s3
      have d4 := hx.cell s4
      clear hkl r0 r1 r2 r3 r4 s0 s1 s2 s3 s4 hx
      go_upto_region 6 with (fail)
      refine wp_region_later (by kernel_rfl) (by kernel_rfl) ?_
      have l0 := fun (g : Later wr) => g.ok.cell c0
      have l1 := fun (g : Later wr) => g.ok.cell c1
      have l2 := fun (g : Later wr) => g.ok.cell c2
      have l3 := fun (g : Later wr) => g.ok.cell c3
      have l4 := fun (g : Later wr) => g.ok.cell c4
      have m0 := fun (g : Later wr) => g.ok.cell d0
      have m1 := fun (g : Later wr) => g.ok.cell d1
      have m2 := fun (g : Later wr) => g.ok.cell d2
      have m3 := fun (g : Later wr) => g.ok.cell d3
      have m4 := fun (g : Later wr) => g.ok.cell d4
      repeat (go_big_quiet_step ((fail)))
      refine wpQuiet_nil ?_
      intro w3 hl3
      have HX3 := Lib.hid (HX.out.trans (laters_ext hl3))
      clear hl3 l0 l1 l2 l3 l4 m0 m1 m2 m3 m4 c0 c1 c2 c3 c4 d0 d1 d2 d3 d4
      go_wp2
      exact ⟨⟨k + 1, by omega, by go_num, HX3.out⟩, by simp [intOf]; omega⟩
    · obtain rfl : k = n := by omega
      have HX := Lib.hid hx
      clear hx
      go_wp2
      go_ret
      exact ⟨rfl, HX.out⟩
set_option maxRecDepth 100000 in
theorem New32_other (V C P S : Int) (a : Option Addr) (cap : Nat) (ups : List (List Int)) (xu xl xt xs xn xm xo : Int) (m : Nat) (w : World) (hL : ListsV w (.slice a ups.length cap) ups) (hll : ∀ l ∈ ups, l.length ≤ 1000000) (hn : ups.length ≤ 1000000) (hg : ckC V 64 C P ups = 0) (hm : (m : Int) = nCe V ups.length C) :
    Calls Tryz.prog 10 #[(.agg #[.int .i64 V, .int .i64 64, .int .i64 C, .int .i64 P, .int .u64 S, .slice a ups.length cap, .int .i64 xu, .int .i64 xl, .int .i64 xt, .int .i64 xs, .int .i64 xn, .int .i64 xm, .int .i64 xo, .int .i64 m])] w fun e w' => e = .returned (.pointer none) ∧ Ext w w' := by
  obtain ⟨n, hn0⟩ : ∃ n, n = ups.length := ⟨_, rfl⟩
  have CO := fun w' (hx : Ext w w') => lOf_ok V 64 C P S _ ups w' (hL.ext hx) hll hn hg
  rw [← hn0] at CO hm ⊢
  obtain ⟨Cu, hCu⟩ : ∃ x, x = nCu V n := ⟨_, rfl⟩
  obtain ⟨Cl, hCl⟩ : ∃ x, x = nCl V n := ⟨_, rfl⟩
  obtain ⟨Ti, hTi⟩ : ∃ x, x = nTi V n := ⟨_, rfl⟩
  obtain ⟨Se, hSe⟩ : ∃ x, x = nSe V n := ⟨_, rfl⟩
  obtain ⟨Ne, hNe⟩ : ∃ x, x = nNe V n := ⟨_, rfl⟩
  obtain ⟨Ma, hMa⟩ : ∃ x, x = nMa V n := ⟨_, rfl⟩
  obtain ⟨Sl, hSl⟩ : ∃ x, x = nSl V n C := ⟨_, rfl⟩
  have hLay : ∀ u, layV V 64 C P S u n = (.agg #[.int .i64 V, .int .i64 64, .int .i64 C, .int .i64 P, .int .u64 S, u, .int .i64 Cu, .int .i64 Cl, .int .i64 Ti, .int .i64 Se, .int .i64 Ne, .int .i64 Ma, .int .i64 Sl, .int .i64 m]) := fun u => by unfold layV; rw [hCu, hCl, hTi, hSe, hNe, hMa, hSl, hm]
  have HLAY := Lib.hid hLay
  have HCO := Lib.hid CO
  have HN0 := Lib.hid hn0
  clear CO hL hll hg hn hLay hCu hCl hTi hSe hNe hMa hSl hm hn0
  go_enter Tryz.func10, Tryz.ntmps10
  go_wp2_with fail
  refine (HCO.out _ ((Ext.refl w).alloc _)).mono ?_
  rintro e wo ⟨uo, rfl, Oo, Xo⟩
  obtain ⟨bo, fo, cuo, eo, -⟩ := id Oo
  rw [← HN0.out] at eo ⊢
  subst eo
  rw [HLAY.out]
  have qa_0 : wo.cell? ⟨w.heap.size, 0, none⟩ = some (.int .i64 V) := Xo.cell (by simp [go_sem])
  have qa_1 : wo.cell? ⟨w.heap.size, 1, none⟩ = some (.int .i64 64) := Xo.cell (by simp [go_sem])
  have qa_2 : wo.cell? ⟨w.heap.size, 2, none⟩ = some (.int .i64 C) := Xo.cell (by simp [go_sem])
  have qa_3 : wo.cell? ⟨w.heap.size, 3, none⟩ = some (.int .i64 P) := Xo.cell (by simp [go_sem])
  have qa_4 : wo.cell? ⟨w.heap.size, 4, none⟩ = some (.int .u64 S) := Xo.cell (by simp [go_sem])
  have qa_5 : wo.cell? ⟨w.heap.size, 5, none⟩ = some (.slice a n cap) := Xo.cell (by simp [go_sem])
  have qa_6 : wo.cell? ⟨w.heap.size, 6, none⟩ = some (.int .i64 xu) := Xo.cell (by simp [go_sem])
  have qa_7 : wo.cell? ⟨w.heap.size, 7, none⟩ = some (.int .i64 xl) := Xo.cell (by simp [go_sem])
  have qa_8 : wo.cell? ⟨w.heap.size, 8, none⟩ = some (.int .i64 xt) := Xo.cell (by simp [go_sem])
  have qa_9 : wo.cell? ⟨w.heap.size, 9, none⟩ = some (.int .i64 xs) := Xo.cell (by simp [go_sem])
  have qa_10 : wo.cell? ⟨w.heap.size, 10, none⟩ = some (.int .i64 xn) := Xo.cell (by simp [go_sem])
  have qa_11 : wo.cell? ⟨w.heap.size, 11, none⟩ = some (.int .i64 xm) := Xo.cell (by simp [go_sem])
  have qa_12 : wo.cell? ⟨w.heap.size, 12, none⟩ = some (.int .i64 xo) := Xo.cell (by simp [go_sem])
  have qa_13 : wo.cell? ⟨w.heap.size, 13, none⟩ = some (.int .i64 m) := Xo.cell (by simp [go_sem])
  have xo : Ext w wo := Ext.trans ((Ext.refl w).alloc _) Xo
  have po := World.block_lt_of_cell? _ ⟨w.heap.size, 0, none⟩ qa_0
  have ro := Nat.lt_succ_of_lt po
  clear Xo Oo
  go_upto_region 2 with (fail)
  refine settle_wp ?_
  intro w2 hb2
  have ql_0 : w2.cell? ⟨wo.heap.size, 0, none⟩ = some (.int .i64 V) := hb2.cell (by simp [go_sem])
  have ql_1 : w2.cell? ⟨wo.heap.size, 1, none⟩ = some (.int .i64 64) := hb2.cell (by simp [go_sem])
  have ql_2 : w2.cell? ⟨wo.heap.size, 2, none⟩ = some (.int .i64 C) := hb2.cell (by simp [go_sem])
  have ql_3 : w2.cell? ⟨wo.heap.size, 3, none⟩ = some (.int .i64 P) := hb2.cell (by simp [go_sem])
  have ql_4 : w2.cell? ⟨wo.heap.size, 4, none⟩ = some (.int .u64 S) := hb2.cell (by simp [go_sem])
  have ql_5 : w2.cell? ⟨wo.heap.size, 5, none⟩ = some (.slice (some ⟨bo, 0, none⟩) n n) := hb2.cell (by simp [go_sem])
  have ql_6 : w2.cell? ⟨wo.heap.size, 6, none⟩ = some (.int .i64 Cu) := hb2.cell (by simp [go_sem])
  have ql_7 : w2.cell? ⟨wo.heap.size, 7, none⟩ = some (.int .i64 Cl) := hb2.cell (by simp [go_sem])
  have ql_8 : w2.cell? ⟨wo.heap.size, 8, none⟩ = some (.int .i64 Ti) := hb2.cell (by simp [go_sem])
  have ql_9 : w2.cell? ⟨wo.heap.size, 9, none⟩ = some (.int .i64 Se) := hb2.cell (by simp [go_sem])
  have ql_10 : w2.cell? ⟨wo.heap.size, 10, none⟩ = some (.int .i64 Ne) := hb2.cell (by simp [go_sem])
  have ql_11 : w2.cell? ⟨wo.heap.size, 11, none⟩ = some (.int .i64 Ma) := hb2.cell (by simp [go_sem])
  have ql_12 : w2.cell? ⟨wo.heap.size, 12, none⟩ = some (.int .i64 Sl) := hb2.cell (by simp [go_sem])
  have ql_13 : w2.cell? ⟨wo.heap.size, 13, none⟩ = some (.int .i64 m) := hb2.cell (by simp [go_sem])
  have x2 := Ext.trans ((Ext.refl wo).alloc _) hb2
  replace qa_0 := x2.cell qa_0
  replace qa_1 := x2.cell qa_1
  replace qa_2 := x2.cell qa_2
  replace qa_3 := x2.cell qa_3
  replace qa_4 := x2.cell qa_4
  replace qa_5 := x2.cell qa_5
  replace qa_6 := x2.cell qa_6
  replace qa_7 := x2.cell qa_7
  replace qa_8 := x2.cell qa_8
  replace qa_9 := x2.cell qa_9
  replace qa_10 := x2.cell qa_10
  replace qa_11 := x2.cell qa_11
  replace qa_12 := x2.cell qa_12
  replace qa_13 := x2.cell qa_13
  have HE2 := Lib.hid (xo.trans x2)
  clear hb2 x2 xo po ro
  refine wp_region_later (by kernel_rfl) (by kernel_rfl) ?_
  have l_0 := fun (g : Later w2) => g.ok.cell ql_0
  have l_1 := fun (g : Later w2) => g.ok.cell ql_1
  have l_2 := fun (g : Later w2) => g.ok.cell ql_2
  have l_3 := fun (g : Later w2) => g.ok.cell ql_3
  have l_4 := fun (g : Later w2) => g.ok.cell ql_4
  have l_5 := fun (g : Later w2) => g.ok.cell ql_5
  have l_6 := fun (g : Later w2) => g.ok.cell ql_6
  have l_7 := fun (g : Later w2) => g.ok.cell ql_7
  have l_8 := fun (g : Later w2) => g.ok.cell ql_8
  have l_9 := fun (g : Later w2) => g.ok.cell ql_9
  have l_10 := fun (g : Later w2) => g.ok.cell ql_10
  have l_11 := fun (g : Later w2) => g.ok.cell ql_11
  have l_12 := fun (g : Later w2) => g.ok.cell ql_12
  have l_13 := fun (g : Later w2) => g.ok.cell ql_13
  have a_0 := fun (g : Later w2) => g.ok.cell qa_0
  have a_1 := fun (g : Later w2) => g.ok.cell qa_1
  have a_2 := fun (g : Later w2) => g.ok.cell qa_2
  have a_3 := fun (g : Later w2) => g.ok.cell qa_3
  have a_4 := fun (g : Later w2) => g.ok.cell qa_4
  have a_5 := fun (g : Later w2) => g.ok.cell qa_5
  have a_6 := fun (g : Later w2) => g.ok.cell qa_6
  have a_7 := fun (g : Later w2) => g.ok.cell qa_7
  have a_8 := fun (g : Later w2) => g.ok.cell qa_8
  have a_9 := fun (g : Later w2) => g.ok.cell qa_9
  have a_10 := fun (g : Later w2) => g.ok.cell qa_10
  have a_11 := fun (g : Later w2) => g.ok.cell qa_11
  have a_12 := fun (g : Later w2) => g.ok.cell qa_12
  have a_13 := fun (g : Later w2) => g.ok.cell qa_13
  repeat (go_big_quiet_step ((fail)))
  go_big_quiet_step ((go_at_call 38; exact laterS (bitsU32 _)))
  repeat (go_big_quiet_step ((fail)))
  refine wpQuiet_nil ?_
  intro w3 hl3
  have HE3 := Lib.hid (HE2.out.trans (laters_ext hl3))
  clear hl3 l_0 a_0 ql_0 qa_0 l_1 a_1 ql_1 qa_1 l_2 a_2 ql_2 qa_2 l_3 a_3 ql_3 qa_3 l_4 a_4 ql_4 qa_4 l_5 a_5 ql_5 qa_5 l_6 a_6 ql_6 qa_6 l_7 a_7 ql_7 qa_7 l_8 a_8 ql_8 qa_8 l_9 a_9 ql_9 qa_9 l_10 a_10 ql_10 qa_10 l_11 a_11 ql_11 qa_11 l_12 a_12 ql_12 qa_12 l_13 a_13 ql_13 qa_13
  go_wp2
  go_ret
  exact ⟨rfl, HE3.out⟩
set_option maxRecDepth 100000 in
theorem New64_other (V C P S : Int) (a : Option Addr) (cap : Nat) (ups : List (List Int)) (xu xl xt xs xn xm xo : Int) (m : Nat) (w : World) (hL : ListsV w (.slice a ups.length cap) ups) (hll : ∀ l ∈ ups, l.length ≤ 1000000) (hn : ups.length ≤ 1000000) (hg : ckC V 32 C P ups = 0) (hm : (m : Int) = nCe V ups.length C) :
    Calls Tryz.prog 11 #[(.agg #[.int .i64 V, .int .i64 32, .int .i64 C, .int .i64 P, .int .u64 S, .slice a ups.length cap, .int .i64 xu, .int .i64 xl, .int .i64 xt, .int .i64 xs, .int .i64 xn, .int .i64 xm, .int .i64 xo, .int .i64 m])] w fun e w' => e = .returned (.pointer none) ∧ Ext w w' := by
  obtain ⟨n, hn0⟩ : ∃ n, n = ups.length := ⟨_, rfl⟩
  have CO := fun w' (hx : Ext w w') => lOf_ok V 32 C P S _ ups w' (hL.ext hx) hll hn hg
  rw [← hn0] at CO hm ⊢
  obtain ⟨Cu, hCu⟩ : ∃ x, x = nCu V n := ⟨_, rfl⟩
  obtain ⟨Cl, hCl⟩ : ∃ x, x = nCl V n := ⟨_, rfl⟩
  obtain ⟨Ti, hTi⟩ : ∃ x, x = nTi V n := ⟨_, rfl⟩
  obtain ⟨Se, hSe⟩ : ∃ x, x = nSe V n := ⟨_, rfl⟩
  obtain ⟨Ne, hNe⟩ : ∃ x, x = nNe V n := ⟨_, rfl⟩
  obtain ⟨Ma, hMa⟩ : ∃ x, x = nMa V n := ⟨_, rfl⟩
  obtain ⟨Sl, hSl⟩ : ∃ x, x = nSl V n C := ⟨_, rfl⟩
  have hLay : ∀ u, layV V 32 C P S u n = (.agg #[.int .i64 V, .int .i64 32, .int .i64 C, .int .i64 P, .int .u64 S, u, .int .i64 Cu, .int .i64 Cl, .int .i64 Ti, .int .i64 Se, .int .i64 Ne, .int .i64 Ma, .int .i64 Sl, .int .i64 m]) := fun u => by unfold layV; rw [hCu, hCl, hTi, hSe, hNe, hMa, hSl, hm]
  have HLAY := Lib.hid hLay
  have HCO := Lib.hid CO
  have HN0 := Lib.hid hn0
  clear CO hL hll hg hn hLay hCu hCl hTi hSe hNe hMa hSl hm hn0
  go_enter Tryz.func11, Tryz.ntmps11
  go_wp2_with fail
  refine (HCO.out _ ((Ext.refl w).alloc _)).mono ?_
  rintro e wo ⟨uo, rfl, Oo, Xo⟩
  obtain ⟨bo, fo, cuo, eo, -⟩ := id Oo
  rw [← HN0.out] at eo ⊢
  subst eo
  rw [HLAY.out]
  have qa_0 : wo.cell? ⟨w.heap.size, 0, none⟩ = some (.int .i64 V) := Xo.cell (by simp [go_sem])
  have qa_1 : wo.cell? ⟨w.heap.size, 1, none⟩ = some (.int .i64 32) := Xo.cell (by simp [go_sem])
  have qa_2 : wo.cell? ⟨w.heap.size, 2, none⟩ = some (.int .i64 C) := Xo.cell (by simp [go_sem])
  have qa_3 : wo.cell? ⟨w.heap.size, 3, none⟩ = some (.int .i64 P) := Xo.cell (by simp [go_sem])
  have qa_4 : wo.cell? ⟨w.heap.size, 4, none⟩ = some (.int .u64 S) := Xo.cell (by simp [go_sem])
  have qa_5 : wo.cell? ⟨w.heap.size, 5, none⟩ = some (.slice a n cap) := Xo.cell (by simp [go_sem])
  have qa_6 : wo.cell? ⟨w.heap.size, 6, none⟩ = some (.int .i64 xu) := Xo.cell (by simp [go_sem])
  have qa_7 : wo.cell? ⟨w.heap.size, 7, none⟩ = some (.int .i64 xl) := Xo.cell (by simp [go_sem])
  have qa_8 : wo.cell? ⟨w.heap.size, 8, none⟩ = some (.int .i64 xt) := Xo.cell (by simp [go_sem])
  have qa_9 : wo.cell? ⟨w.heap.size, 9, none⟩ = some (.int .i64 xs) := Xo.cell (by simp [go_sem])
  have qa_10 : wo.cell? ⟨w.heap.size, 10, none⟩ = some (.int .i64 xn) := Xo.cell (by simp [go_sem])
  have qa_11 : wo.cell? ⟨w.heap.size, 11, none⟩ = some (.int .i64 xm) := Xo.cell (by simp [go_sem])
  have qa_12 : wo.cell? ⟨w.heap.size, 12, none⟩ = some (.int .i64 xo) := Xo.cell (by simp [go_sem])
  have qa_13 : wo.cell? ⟨w.heap.size, 13, none⟩ = some (.int .i64 m) := Xo.cell (by simp [go_sem])
  have xo : Ext w wo := Ext.trans ((Ext.refl w).alloc _) Xo
  have po := World.block_lt_of_cell? _ ⟨w.heap.size, 0, none⟩ qa_0
  have ro := Nat.lt_succ_of_lt po
  clear Xo Oo
  go_upto_region 2 with (fail)
  refine settle_wp ?_
  intro w2 hb2
  have ql_0 : w2.cell? ⟨wo.heap.size, 0, none⟩ = some (.int .i64 V) := hb2.cell (by simp [go_sem])
  have ql_1 : w2.cell? ⟨wo.heap.size, 1, none⟩ = some (.int .i64 32) := hb2.cell (by simp [go_sem])
  have ql_2 : w2.cell? ⟨wo.heap.size, 2, none⟩ = some (.int .i64 C) := hb2.cell (by simp [go_sem])
  have ql_3 : w2.cell? ⟨wo.heap.size, 3, none⟩ = some (.int .i64 P) := hb2.cell (by simp [go_sem])
  have ql_4 : w2.cell? ⟨wo.heap.size, 4, none⟩ = some (.int .u64 S) := hb2.cell (by simp [go_sem])
  have ql_5 : w2.cell? ⟨wo.heap.size, 5, none⟩ = some (.slice (some ⟨bo, 0, none⟩) n n) := hb2.cell (by simp [go_sem])
  have ql_6 : w2.cell? ⟨wo.heap.size, 6, none⟩ = some (.int .i64 Cu) := hb2.cell (by simp [go_sem])
  have ql_7 : w2.cell? ⟨wo.heap.size, 7, none⟩ = some (.int .i64 Cl) := hb2.cell (by simp [go_sem])
  have ql_8 : w2.cell? ⟨wo.heap.size, 8, none⟩ = some (.int .i64 Ti) := hb2.cell (by simp [go_sem])
  have ql_9 : w2.cell? ⟨wo.heap.size, 9, none⟩ = some (.int .i64 Se) := hb2.cell (by simp [go_sem])
  have ql_10 : w2.cell? ⟨wo.heap.size, 10, none⟩ = some (.int .i64 Ne) := hb2.cell (by simp [go_sem])
  have ql_11 : w2.cell? ⟨wo.heap.size, 11, none⟩ = some (.int .i64 Ma) := hb2.cell (by simp [go_sem])
  have ql_12 : w2.cell? ⟨wo.heap.size, 12, none⟩ = some (.int .i64 Sl) := hb2.cell (by simp [go_sem])
  have ql_13 : w2.cell? ⟨wo.heap.size, 13, none⟩ = some (.int .i64 m) := hb2.cell (by simp [go_sem])
  have x2 := Ext.trans ((Ext.refl wo).alloc _) hb2
  replace qa_0 := x2.cell qa_0
  replace qa_1 := x2.cell qa_1
  replace qa_2 := x2.cell qa_2
  replace qa_3 := x2.cell qa_3
  replace qa_4 := x2.cell qa_4
  replace qa_5 := x2.cell qa_5
  replace qa_6 := x2.cell qa_6
  replace qa_7 := x2.cell qa_7
  replace qa_8 := x2.cell qa_8
  replace qa_9 := x2.cell qa_9
  replace qa_10 := x2.cell qa_10
  replace qa_11 := x2.cell qa_11
  replace qa_12 := x2.cell qa_12
  replace qa_13 := x2.cell qa_13
  have HE2 := Lib.hid (xo.trans x2)
  clear hb2 x2 xo po ro
  refine wp_region_later (by kernel_rfl) (by kernel_rfl) ?_
  have l_0 := fun (g : Later w2) => g.ok.cell ql_0
  have l_1 := fun (g : Later w2) => g.ok.cell ql_1
  have l_2 := fun (g : Later w2) => g.ok.cell ql_2
  have l_3 := fun (g : Later w2) => g.ok.cell ql_3
  have l_4 := fun (g : Later w2) => g.ok.cell ql_4
  have l_5 := fun (g : Later w2) => g.ok.cell ql_5
  have l_6 := fun (g : Later w2) => g.ok.cell ql_6
  have l_7 := fun (g : Later w2) => g.ok.cell ql_7
  have l_8 := fun (g : Later w2) => g.ok.cell ql_8
  have l_9 := fun (g : Later w2) => g.ok.cell ql_9
  have l_10 := fun (g : Later w2) => g.ok.cell ql_10
  have l_11 := fun (g : Later w2) => g.ok.cell ql_11
  have l_12 := fun (g : Later w2) => g.ok.cell ql_12
  have l_13 := fun (g : Later w2) => g.ok.cell ql_13
  have a_0 := fun (g : Later w2) => g.ok.cell qa_0
  have a_1 := fun (g : Later w2) => g.ok.cell qa_1
  have a_2 := fun (g : Later w2) => g.ok.cell qa_2
  have a_3 := fun (g : Later w2) => g.ok.cell qa_3
  have a_4 := fun (g : Later w2) => g.ok.cell qa_4
  have a_5 := fun (g : Later w2) => g.ok.cell qa_5
  have a_6 := fun (g : Later w2) => g.ok.cell qa_6
  have a_7 := fun (g : Later w2) => g.ok.cell qa_7
  have a_8 := fun (g : Later w2) => g.ok.cell qa_8
  have a_9 := fun (g : Later w2) => g.ok.cell qa_9
  have a_10 := fun (g : Later w2) => g.ok.cell qa_10
  have a_11 := fun (g : Later w2) => g.ok.cell qa_11
  have a_12 := fun (g : Later w2) => g.ok.cell qa_12
  have a_13 := fun (g : Later w2) => g.ok.cell qa_13
  repeat (go_big_quiet_step ((fail)))
  go_big_quiet_step ((go_at_call 40; exact laterS (bitsU64 _)))
  repeat (go_big_quiet_step ((fail)))
  refine wpQuiet_nil ?_
  intro w3 hl3
  have HE3 := Lib.hid (HE2.out.trans (laters_ext hl3))
  clear hl3 l_0 a_0 ql_0 qa_0 l_1 a_1 ql_1 qa_1 l_2 a_2 ql_2 qa_2 l_3 a_3 ql_3 qa_3 l_4 a_4 ql_4 qa_4 l_5 a_5 ql_5 qa_5 l_6 a_6 ql_6 qa_6 l_7 a_7 ql_7 qa_7 l_8 a_8 ql_8 qa_8 l_9 a_9 ql_9 qa_9 l_10 a_10 ql_10 qa_10 l_11 a_11 ql_11 qa_11 l_12 a_12 ql_12 qa_12 l_13 a_13 ql_13 qa_13
  go_wp2
  go_ret
  exact ⟨rfl, HE3.out⟩
/-- a layout told, its lists in memory of their own -/
def LayDoes (y : LY) (ups : List (List Int)) (w : World) (e : Ending) (w' : World) : Prop :=
  ∃ u : Value, e = .returned (.agg #[.int .i64 (y.V), .int .i64 (y.W), .int .i64 (y.C), .int .i64 (y.P), .int .u64 (y.S), u, .int .i64 (y.Cu), .int .i64 (y.Cl), .int .i64 (y.Ti), .int .i64 (y.Se), .int .i64 (y.Ne), .int .i64 (y.Ma), .int .i64 (y.Sl), .int .i64 (y.m)]) ∧ ListsV w' u ups ∧ Ext w w'
set_option maxRecDepth 100000 in
theorem Layout32 (b g : Nat) (y : LY) (f : Nat → Int) (lv : Value) (log : List Acc) (ups : List (List Int)) (w : World) (hB : BD w 74 b g y f lv log) (hL : ListsV w (.slice y.a y.n y.cap) ups) (hll : ∀ l ∈ ups, l.length ≤ 1000000) (hn : ups.length ≤ 1000000) (hg : ckC y.V y.W y.C y.P ups = 0)
    (hy : ∀ u, layV y.V y.W y.C y.P y.S u ups.length = (.agg #[.int .i64 (y.V), .int .i64 (y.W), .int .i64 (y.C), .int .i64 (y.P), .int .u64 (y.S), u, .int .i64 (y.Cu), .int .i64 (y.Cl), .int .i64 (y.Ti), .int .i64 (y.Se), .int .i64 (y.Ne), .int .i64 (y.Ma), .int .i64 (y.Sl), .int .i64 (y.m)])) :
    Calls Tryz.prog 22 #[.pointer (some ⟨b, 0, none⟩)] w (LayDoes y ups w) := by
  have CO := Lib.hid (fun w' (hx : Ext w w') => lOf_ok y.V y.W y.C y.P y.S _ ups w' (hL.ext hx) hll hn hg)
  have HY := Lib.hid hy
  have q0 := hB.q0
  have q1 := hB.q1
  have q2 := hB.q2
  have q3 := hB.q3
  have q4 := hB.q4
  have q5 := hB.q5
  have HG : Hid (∀ (b2 n : Nat) w', OwnL w' (.slice (some ⟨b2, 0, none⟩) n n) ups → Ext w w' → LayDoes y ups w (.returned (.agg #[.int .i64 (y.V), .int .i64 (y.W), .int .i64 (y.C), .int .i64 (y.P), .int .u64 (y.S), .slice (some ⟨b2, 0, none⟩) n n, .int .i64 (y.Cu), .int .i64 (y.Cl), .int .i64 (y.Ti), .int .i64 (y.Se), .int .i64 (y.Ne), .int .i64 (y.Ma), .int .i64 (y.Sl), .int .i64 (y.m)])) w') := Lib.hid (fun b2 n w' h1 h2 => ⟨_, rfl, h1.lists, h2⟩)
  generalize LayDoes y ups w = G at *
  have hbw := World.block_lt_of_cell? w ⟨b, 0, none⟩ q0
  obtain ⟨V, W, C, P, S, a, n, cap, Cu, Cl, Ti, Se, Ne, Ma, Sl, m⟩ := y
  dsimp only at CO HY HG q0 q1 q2 q3 q4 q5
  clear hB hL hll hg hy hn
  go_enter Tryz.func22, Tryz.ntmps22
  go_wp2_with fail
  refine (CO.out _ ((Ext.refl w).alloc _)).mono ?_
  rintro e wo ⟨uo, rfl, Oo, Xo⟩
  obtain ⟨bo, fo, cuo, eo, -⟩ := id Oo
  rw [HY.out]
  subst eo
  have qr_0 : wo.cell? ⟨w.heap.size, 0, none⟩ = some (.int .i64 0) := Xo.cell (by simp [go_sem])
  have zr_0 : wo.frozen? ⟨w.heap.size, 0, none⟩ = false := Xo.frozen (v := .int .i64 0) (by simp [go_sem]) (by simp [go_sem])
  have qr_1 : wo.cell? ⟨w.heap.size, 1, none⟩ = some (.int .i64 0) := Xo.cell (by simp [go_sem])
  have zr_1 : wo.frozen? ⟨w.heap.size, 1, none⟩ = false := Xo.frozen (v := .int .i64 0) (by simp [go_sem]) (by simp [go_sem])
  have qr_2 : wo.cell? ⟨w.heap.size, 2, none⟩ = some (.int .i64 0) := Xo.cell (by simp [go_sem])
  have zr_2 : wo.frozen? ⟨w.heap.size, 2, none⟩ = false := Xo.frozen (v := .int .i64 0) (by simp [go_sem]) (by simp [go_sem])
  have qr_3 : wo.cell? ⟨w.heap.size, 3, none⟩ = some (.int .i64 0) := Xo.cell (by simp [go_sem])
  have zr_3 : wo.frozen? ⟨w.heap.size, 3, none⟩ = false := Xo.frozen (v := .int .i64 0) (by simp [go_sem]) (by simp [go_sem])
  have qr_4 : wo.cell? ⟨w.heap.size, 4, none⟩ = some (.int .u64 0) := Xo.cell (by simp [go_sem])
  have zr_4 : wo.frozen? ⟨w.heap.size, 4, none⟩ = false := Xo.frozen (v := .int .u64 0) (by simp [go_sem]) (by simp [go_sem])
  have qr_5 : wo.cell? ⟨w.heap.size, 5, none⟩ = some (.slice none 0 0) := Xo.cell (by simp [go_sem])
  have zr_5 : wo.frozen? ⟨w.heap.size, 5, none⟩ = false := Xo.frozen (v := .slice none 0 0) (by simp [go_sem]) (by simp [go_sem])
  have qr_6 : wo.cell? ⟨w.heap.size, 6, none⟩ = some (.int .i64 0) := Xo.cell (by simp [go_sem])
  have zr_6 : wo.frozen? ⟨w.heap.size, 6, none⟩ = false := Xo.frozen (v := .int .i64 0) (by simp [go_sem]) (by simp [go_sem])
  have qr_7 : wo.cell? ⟨w.heap.size, 7, none⟩ = some (.int .i64 0) := Xo.cell (by simp [go_sem])
  have zr_7 : wo.frozen? ⟨w.heap.size, 7, none⟩ = false := Xo.frozen (v := .int .i64 0) (by simp [go_sem]) (by simp [go_sem])
  have qr_8 : wo.cell? ⟨w.heap.size, 8, none⟩ = some (.int .i64 0) := Xo.cell (by simp [go_sem])
  have zr_8 : wo.frozen? ⟨w.heap.size, 8, none⟩ = false := Xo.frozen (v := .int .i64 0) (by simp [go_sem]) (by simp [go_sem])
  have qr_9 : wo.cell? ⟨w.heap.size, 9, none⟩ = some (.int .i64 0) := Xo.cell (by simp [go_sem])
  have zr_9 : wo.frozen? ⟨w.heap.size, 9, none⟩ = false := Xo.frozen (v := .int .i64 0) (by simp [go_sem]) (by simp [go_sem])
  have qr_10 : wo.cell? ⟨w.heap.size, 10, none⟩ = some (.int .i64 0) := Xo.cell (by simp [go_sem])
  have zr_10 : wo.frozen? ⟨w.heap.size, 10, none⟩ = false := Xo.frozen (v := .int .i64 0) (by simp [go_sem]) (by simp [go_sem])
  have qr_11 : wo.cell? ⟨w.heap.size, 11, none⟩ = some (.int .i64 0) := Xo.cell (by simp [go_sem])
  have zr_11 : wo.frozen? ⟨w.heap.size, 11, none⟩ = false := Xo.frozen (v := .int .i64 0) (by simp [go_sem]) (by simp [go_sem])
  have qr_12 : wo.cell? ⟨w.heap.size, 12, none⟩ = some (.int .i64 0) := Xo.cell (by simp [go_sem])
  have zr_12 : wo.frozen? ⟨w.heap.size, 12, none⟩ = false := Xo.frozen (v := .int .i64 0) (by simp [go_sem]) (by simp [go_sem])
  have qr_13 : wo.cell? ⟨w.heap.size, 13, none⟩ = some (.int .i64 0) := Xo.cell (by simp [go_sem])
  have zr_13 : wo.frozen? ⟨w.heap.size, 13, none⟩ = false := Xo.frozen (v := .int .i64 0) (by simp [go_sem]) (by simp [go_sem])
  have TR : Tag wo w.heap.size 31 := (Tag.new w _ _).ext Xo
  have xo : Ext w wo := Ext.trans ((Ext.refl w).alloc _) Xo
  have po := World.block_lt_of_cell? _ ⟨w.heap.size, 0, none⟩ qr_0
  have ro := Nat.lt_succ_of_lt po
  have HOo := Lib.hid Oo
  generalize hN : ups.length = N at *
  clear Xo Oo q0 q1 q2 q3 q4 q5
  go_upto_region 4 with (fail)
  refine settle_wp ?_
  intro w3 hb3
  have l_0 : w3.cell? ⟨wo.heap.size, 0, none⟩ = some (.int .i64 V) := hb3.cell (by simp [go_sem])
  have l_1 : w3.cell? ⟨wo.heap.size, 1, none⟩ = some (.int .i64 W) := hb3.cell (by simp [go_sem])
  have l_2 : w3.cell? ⟨wo.heap.size, 2, none⟩ = some (.int .i64 C) := hb3.cell (by simp [go_sem])
  have l_3 : w3.cell? ⟨wo.heap.size, 3, none⟩ = some (.int .i64 P) := hb3.cell (by simp [go_sem])
  have l_4 : w3.cell? ⟨wo.heap.size, 4, none⟩ = some (.int .u64 S) := hb3.cell (by simp [go_sem])
  have l_5 : w3.cell? ⟨wo.heap.size, 5, none⟩ = some (.slice (some ⟨bo, 0, none⟩) N N) := hb3.cell (by simp [go_sem])
  have l_6 : w3.cell? ⟨wo.heap.size, 6, none⟩ = some (.int .i64 Cu) := hb3.cell (by simp [go_sem])
  have l_7 : w3.cell? ⟨wo.heap.size, 7, none⟩ = some (.int .i64 Cl) := hb3.cell (by simp [go_sem])
  have l_8 : w3.cell? ⟨wo.heap.size, 8, none⟩ = some (.int .i64 Ti) := hb3.cell (by simp [go_sem])
  have l_9 : w3.cell? ⟨wo.heap.size, 9, none⟩ = some (.int .i64 Se) := hb3.cell (by simp [go_sem])
  have l_10 : w3.cell? ⟨wo.heap.size, 10, none⟩ = some (.int .i64 Ne) := hb3.cell (by simp [go_sem])
  have l_11 : w3.cell? ⟨wo.heap.size, 11, none⟩ = some (.int .i64 Ma) := hb3.cell (by simp [go_sem])
  have l_12 : w3.cell? ⟨wo.heap.size, 12, none⟩ = some (.int .i64 Sl) := hb3.cell (by simp [go_sem])
  have l_13 : w3.cell? ⟨wo.heap.size, 13, none⟩ = some (.int .i64 m) := hb3.cell (by simp [go_sem])
  have x3 := Ext.trans ((Ext.refl wo).alloc _) hb3
  have y_0 := x3.frozen qr_0 zr_0
  have r_0 := x3.cell qr_0
  have y_1 := x3.frozen qr_1 zr_1
  have r_1 := x3.cell qr_1
  have y_2 := x3.frozen qr_2 zr_2
  have r_2 := x3.cell qr_2
  have y_3 := x3.frozen qr_3 zr_3
  have r_3 := x3.cell qr_3
  have y_4 := x3.frozen qr_4 zr_4
  have r_4 := x3.cell qr_4
  have y_5 := x3.frozen qr_5 zr_5
  have r_5 := x3.cell qr_5
  have y_6 := x3.frozen qr_6 zr_6
  have r_6 := x3.cell qr_6
  have y_7 := x3.frozen qr_7 zr_7
  have r_7 := x3.cell qr_7
  have y_8 := x3.frozen qr_8 zr_8
  have r_8 := x3.cell qr_8
  have y_9 := x3.frozen qr_9 zr_9
  have r_9 := x3.cell qr_9
  have y_10 := x3.frozen qr_10 zr_10
  have r_10 := x3.cell qr_10
  have y_11 := x3.frozen qr_11 zr_11
  have r_11 := x3.cell qr_11
  have y_12 := x3.frozen qr_12 zr_12
  have r_12 := x3.cell qr_12
  have y_13 := x3.frozen qr_13 zr_13
  have r_13 := x3.cell qr_13
  have HT3 := Lib.hid (TR.ext x3)
  have HE3 := Lib.hid (xo.trans x3)
  have HO3 := Lib.hid (HOo.out.ext x3)
  clear hb3 x3 xo TR po ro qr_0 zr_0 qr_1 zr_1 qr_2 zr_2 qr_3 zr_3 qr_4 zr_4 qr_5 zr_5 qr_6 zr_6 qr_7 zr_7 qr_8 zr_8 qr_9 zr_9 qr_10 zr_10 qr_11 zr_11 qr_12 zr_12 qr_13 zr_13
  go_wp2
  refine bodyPost_ret (v := (.agg #[.int .i64 V, .int .i64 W, .int .i64 C, .int .i64 P, .int .u64 S, .slice (some ⟨bo, 0, none⟩) N N, .int .i64 Cu, .int .i64 Cl, .int .i64 Ti, .int .i64 Se, .int .i64 Ne, .int .i64 Ma, .int .i64 Sl, .int .i64 m])) (by simp [results, Tryz.results22, go_sem, r_0, r_1, r_2, r_3, r_4, r_5, r_6, r_7, r_8, r_9, r_10, r_11, r_12, r_13]) rfl (HG.out bo N _ ?own ?ext)
  case own => repeat (any_goals (first | with_reducible exact HO3.out | with_reducible exact HT3.out | with_reducible refine Tag.set ?_ | with_reducible refine OwnL.set (t := 31) ?_ ?_ (by decide) (by decide)))
  case ext =>
    have E3 := HE3.out
    repeat (first | with_reducible exact Ext.refl _ | with_reducible assumption | with_reducible refine Ext.alloc ?_ _ | with_reducible refine Ext.drew ?_ | with_reducible refine Ext.drewN ?_ _ | with_reducible refine Ext.setCell ?_ (by simp <;> omega) _ | with_reducible refine Ext.trans ?_ (by assumption))
set_option maxRecDepth 100000 in
theorem Layout64 (b g : Nat) (y : LY) (f : Nat → Int) (lv : Value) (log : List Acc) (ups : List (List Int)) (w : World) (hB : BD w 75 b g y f lv log) (hL : ListsV w (.slice y.a y.n y.cap) ups) (hll : ∀ l ∈ ups, l.length ≤ 1000000) (hn : ups.length ≤ 1000000) (hg : ckC y.V y.W y.C y.P ups = 0)
    (hy : ∀ u, layV y.V y.W y.C y.P y.S u ups.length = (.agg #[.int .i64 (y.V), .int .i64 (y.W), .int .i64 (y.C), .int .i64 (y.P), .int .u64 (y.S), u, .int .i64 (y.Cu), .int .i64 (y.Cl), .int .i64 (y.Ti), .int .i64 (y.Se), .int .i64 (y.Ne), .int .i64 (y.Ma), .int .i64 (y.Sl), .int .i64 (y.m)])) :
    Calls Tryz.prog 25 #[.pointer (some ⟨b, 0, none⟩)] w (LayDoes y ups w) := by
  have CO := Lib.hid (fun w' (hx : Ext w w') => lOf_ok y.V y.W y.C y.P y.S _ ups w' (hL.ext hx) hll hn hg)
  have HY := Lib.hid hy
  have q0 := hB.q0
  have q1 := hB.q1
  have q2 := hB.q2
  have q3 := hB.q3
  have q4 := hB.q4
  have q5 := hB.q5
  have HG : Hid (∀ (b2 n : Nat) w', OwnL w' (.slice (some ⟨b2, 0, none⟩) n n) ups → Ext w w' → LayDoes y ups w (.returned (.agg #[.int .i64 (y.V), .int .i64 (y.W), .int .i64 (y.C), .int .i64 (y.P), .int .u64 (y.S), .slice (some ⟨b2, 0, none⟩) n n, .int .i64 (y.Cu), .int .i64 (y.Cl), .int .i64 (y.Ti), .int .i64 (y.Se), .int .i64 (y.Ne), .int .i64 (y.Ma), .int .i64 (y.Sl), .int .i64 (y.m)])) w') := Lib.hid (fun b2 n w' h1 h2 => ⟨_, rfl, h1.lists, h2⟩)
  generalize LayDoes y ups w = G at *
  have hbw := World.block_lt_of_cell? w ⟨b, 0, none⟩ q0
  obtain ⟨V, W, C, P, S, a, n, cap, Cu, Cl, Ti, Se, Ne, Ma, Sl, m⟩ := y
  dsimp only at CO HY HG q0 q1 q2 q3 q4 q5
  clear hB hL hll hg hy hn
  go_enter Tryz.func25, Tryz.ntmps25
  go_wp2_with fail
  refine (CO.out _ ((Ext.refl w).alloc _)).mono ?_
  rintro e wo ⟨uo, rfl, Oo, Xo⟩
  obtain ⟨bo, fo, cuo, eo, -⟩ := id Oo
  rw [HY.out]
  subst eo
  have qr_0 : wo.cell? ⟨w.heap.size, 0, none⟩ = some (.int .i64 0) := Xo.cell (by simp [go_sem])
  have zr_0 : wo.frozen? ⟨w.heap.size, 0, none⟩ = false := Xo.frozen (v := .int .i64 0) (by simp [go_sem]) (by simp [go_sem])
  have qr_1 : wo.cell? ⟨w.heap.size, 1, none⟩ = some (.int .i64 0) := Xo.cell (by simp [go_sem])
  have zr_1 : wo.frozen? ⟨w.heap.size, 1, none⟩ = false := Xo.frozen (v := .int .i64 0) (by simp [go_sem]) (by simp [go_sem])
  have qr_2 : wo.cell? ⟨w.heap.size, 2, none⟩ = some (.int .i64 0) := Xo.cell (by simp [go_sem])
  have zr_2 : wo.frozen? ⟨w.heap.size, 2, none⟩ = false := Xo.frozen (v := .int .i64 0) (by simp [go_sem]) (by simp [go_sem])
  have qr_3 : wo.cell? ⟨w.heap.size, 3, none⟩ = some (.int .i64 0) := Xo.cell (by simp [go_sem])
  have zr_3 : wo.frozen? ⟨w.heap.size, 3, none⟩ = false := Xo.frozen (v := .int .i64 0) (by simp [go_sem]) (by simp [go_sem])
  have qr_4 : wo.cell? ⟨w.heap.size, 4, none⟩ = some (.int .u64 0) := Xo.cell (by simp [go_sem])
  have zr_4 : wo.frozen? ⟨w.heap.size, 4, none⟩ = false := Xo.frozen (v := .int .u64 0) (by simp [go_sem]) (by simp [go_sem])
  have qr_5 : wo.cell? ⟨w.heap.size, 5, none⟩ = some (.slice none 0 0) := Xo.cell (by simp [go_sem])
  have zr_5 : wo.frozen? ⟨w.heap.size, 5, none⟩ = false := Xo.frozen (v := .slice none 0 0) (by simp [go_sem]) (by simp [go_sem])
  have qr_6 : wo.cell? ⟨w.heap.size, 6, none⟩ = some (.int .i64 0) := Xo.cell (by simp [go_sem])
  have zr_6 : wo.frozen? ⟨w.heap.size, 6, none⟩ = false := Xo.frozen (v := .int .i64 0) (by simp [go_sem]) (by simp [go_sem])
  have qr_7 : wo.cell? ⟨w.heap.size, 7, none⟩ = some (.int .i64 0) := Xo.cell (by simp [go_sem])
  have zr_7 : wo.frozen? ⟨w.heap.size, 7, none⟩ = false := Xo.frozen (v := .int .i64 0) (by simp [go_sem]) (by simp [go_sem])
  have qr_8 : wo.cell? ⟨w.heap.size, 8, none⟩ = some (.int .i64 0) := Xo.cell (by simp [go_sem])
  have zr_8 : wo.frozen? ⟨w.heap.size, 8, none⟩ = false := Xo.frozen (v := .int .i64 0) (by simp [go_sem]) (by simp [go_sem])
  have qr_9 : wo.cell? ⟨w.heap.size, 9, none⟩ = some (.int .i64 0) := Xo.cell (by simp [go_sem])
  have zr_9 : wo.frozen? ⟨w.heap.size, 9, none⟩ = false := Xo.frozen (v := .int .i64 0) (by simp [go_sem]) (by simp [go_sem])
  have qr_10 : wo.cell? ⟨w.heap.size, 10, none⟩ = some (.int .i64 0) := Xo.cell (by simp [go_sem])
  have zr_10 : wo.frozen? ⟨w.heap.size, 10, none⟩ = false := Xo.frozen (v := .int .i64 0) (by simp [go_sem]) (by simp [go_sem])
  have qr_11 : wo.cell? ⟨w.heap.size, 11, none⟩ = some (.int .i64 0) := Xo.cell (by simp [go_sem])
  have zr_11 : wo.frozen? ⟨w.heap.size, 11, none⟩ = false := Xo.frozen (v := .int .i64 0) (by simp [go_sem]) (by simp [go_sem])
  have qr_12 : wo.cell? ⟨w.heap.size, 12, none⟩ = some (.int .i64 0) := Xo.cell (by simp [go_sem])
  have zr_12 : wo.frozen? ⟨w.heap.size, 12, none⟩ = false := Xo.frozen (v := .int .i64 0) (by simp [go_sem]) (by simp [go_sem])
  have qr_13 : wo.cell? ⟨w.heap.size, 13, none⟩ = some (.int .i64 0) := Xo.cell (by simp [go_sem])
  have zr_13 : wo.frozen? ⟨w.heap.size, 13, none⟩ = false := Xo.frozen (v := .int .i64 0) (by simp [go_sem]) (by simp [go_sem])
  have TR : Tag wo w.heap.size 31 := (Tag.new w _ _).ext Xo
  have xo : Ext w wo := Ext.trans ((Ext.refl w).alloc _) Xo
  have po := World.block_lt_of_cell? _ ⟨w.heap.size, 0, none⟩ qr_0
  have ro := Nat.lt_succ_of_lt po
  have HOo := Lib.hid Oo
  generalize hN : ups.length = N at *
  clear Xo Oo q0 q1 q2 q3 q4 q5
  go_upto_region 4 with (fail)
  refine settle_wp ?_
  intro w3 hb3
  have l_0 : w3.cell? ⟨wo.heap.size, 0, none⟩ = some (.int .i64 V) := hb3.cell (by simp [go_sem])
  have l_1 : w3.cell? ⟨wo.heap.size, 1, none⟩ = some (.int .i64 W) := hb3.cell (by simp [go_sem])
  have l_2 : w3.cell? ⟨wo.heap.size, 2, none⟩ = some (.int .i64 C) := hb3.cell (by simp [go_sem])
  have l_3 : w3.cell? ⟨wo.heap.size, 3, none⟩ = some (.int .i64 P) := hb3.cell (by simp [go_sem])
  have l_4 : w3.cell? ⟨wo.heap.size, 4, none⟩ = some (.int .u64 S) := hb3.cell (by simp [go_sem])
  have l_5 : w3.cell? ⟨wo.heap.size, 5, none⟩ = some (.slice (some ⟨bo, 0, none⟩) N N) := hb3.cell (by simp [go_sem])
  have l_6 : w3.cell? ⟨wo.heap.size, 6, none⟩ = some (.int .i64 Cu) := hb3.cell (by simp [go_sem])
  have l_7 : w3.cell? ⟨wo.heap.size, 7, none⟩ = some (.int .i64 Cl) := hb3.cell (by simp [go_sem])
  have l_8 : w3.cell? ⟨wo.heap.size, 8, none⟩ = some (.int .i64 Ti) := hb3.cell (by simp [go_sem])
  have l_9 : w3.cell? ⟨wo.heap.size, 9, none⟩ = some (.int .i64 Se) := hb3.cell (by simp [go_sem])
  have l_10 : w3.cell? ⟨wo.heap.size, 10, none⟩ = some (.int .i64 Ne) := hb3.cell (by simp [go_sem])
  have l_11 : w3.cell? ⟨wo.heap.size, 11, none⟩ = some (.int .i64 Ma) := hb3.cell (by simp [go_sem])
  have l_12 : w3.cell? ⟨wo.heap.size, 12, none⟩ = some (.int .i64 Sl) := hb3.cell (by simp [go_sem])
  have l_13 : w3.cell? ⟨wo.heap.size, 13, none⟩ = some (.int .i64 m) := hb3.cell (by simp [go_sem])
  have x3 := Ext.trans ((Ext.refl wo).alloc _) hb3
  have y_0 := x3.frozen qr_0 zr_0
  have r_0 := x3.cell qr_0
  have y_1 := x3.frozen qr_1 zr_1
  have r_1 := x3.cell qr_1
  have y_2 := x3.frozen qr_2 zr_2
  have r_2 := x3.cell qr_2
  have y_3 := x3.frozen qr_3 zr_3
  have r_3 := x3.cell qr_3
  have y_4 := x3.frozen qr_4 zr_4
  have r_4 := x3.cell qr_4
  have y_5 := x3.frozen qr_5 zr_5
  have r_5 := x3.cell qr_5
  have y_6 := x3.frozen qr_6 zr_6
  have r_6 := x3.cell qr_6
  have y_7 := x3.frozen qr_7 zr_7
  have r_7 := x3.cell qr_7
  have y_8 := x3.frozen qr_8 zr_8
  have r_8 := x3.cell qr_8
  have y_9 := x3.frozen qr_9 zr_9
  have r_9 := x3.cell qr_9
  have y_10 := x3.frozen qr_10 zr_10
  have r_10 := x3.cell qr_10
  have y_11 := x3.frozen qr_11 zr_11
  have r_11 := x3.cell qr_11
  have y_12 := x3.frozen qr_12 zr_12
  have r_12 := x3.cell qr_12
  have y_13 := x3.frozen qr_13 zr_13
  have r_13 := x3.cell qr_13
  have HT3 := Lib.hid (TR.ext x3)
  have HE3 := Lib.hid (xo.trans x3)
  have HO3 := Lib.hid (HOo.out.ext x3)
  clear hb3 x3 xo TR po ro qr_0 zr_0 qr_1 zr_1 qr_2 zr_2 qr_3 zr_3 qr_4 zr_4 qr_5 zr_5 qr_6 zr_6 qr_7 zr_7 qr_8 zr_8 qr_9 zr_9 qr_10 zr_10 qr_11 zr_11 qr_12 zr_12 qr_13 zr_13
  go_wp2
  refine bodyPost_ret (v := (.agg #[.int .i64 V, .int .i64 W, .int .i64 C, .int .i64 P, .int .u64 S, .slice (some ⟨bo, 0, none⟩) N N, .int .i64 Cu, .int .i64 Cl, .int .i64 Ti, .int .i64 Se, .int .i64 Ne, .int .i64 Ma, .int .i64 Sl, .int .i64 m])) (by simp [results, Tryz.results25, go_sem, r_0, r_1, r_2, r_3, r_4, r_5, r_6, r_7, r_8, r_9, r_10, r_11, r_12, r_13]) rfl (HG.out bo N _ ?own ?ext)
  case own => repeat (any_goals (first | with_reducible exact HO3.out | with_reducible exact HT3.out | with_reducible refine Tag.set ?_ | with_reducible refine OwnL.set (t := 31) ?_ ?_ (by decide) (by decide)))
  case ext =>
    have E3 := HE3.out
    repeat (first | with_reducible exact Ext.refl _ | with_reducible assumption | with_reducible refine Ext.alloc ?_ _ | with_reducible refine Ext.drew ?_ | with_reducible refine Ext.drewN ?_ _ | with_reducible refine Ext.setCell ?_ (by simp <;> omega) _ | with_reducible refine Ext.trans ?_ (by assumption))
end Go.Proofs.YtaimmpcijdpgdabGreatDoor
/- The walk of BoardPlays. -/
namespace Go.Proofs.YtaimmpcijdpgdabGreatDoor
open Go.RowKit
set_option linter.unusedVariables false
set_option linter.unusedSimpArgs false
set_option maxHeartbeats 4000000
attribute [local go_sem] later_cell later_frozen later_const
theorem kd_some {V W C P S : Int} {bo n m : Nat} (hok : NumOk V n C) (hm : (m : Int) = nCe V n C) {c : Nat} (hc : c < m) : kd (yOf V W C P S bo n m) c ≠ 0 := by
  rw [yOf_kd hm]
  obtain ⟨h1, h2, -⟩ := use_in hok (c := c) (by omega) (by omega) (k := (useN V n C c).1) (i := (useN V n C c).2) rfl
  generalize (useN V n C c).1 = k at *
  have : k = 1 ∨ k = 2 ∨ k = 3 ∨ k = 4 ∨ k = 5 ∨ k = 6 ∨ k = 7 ∨ k = 8 ∨ k = 9 ∨ k = 10 := by omega
  rcases this with rfl | rfl | rfl | rfl | rfl | rfl | rfl | rfl | rfl | rfl <;> decide
def LayGives (V W C P S : Int) (ups : List (List Int)) (w : World) (e : Ending) (w' : World) : Prop :=
  ∃ (u : Value) (x1 x2 x3 x4 x5 x6 x7 x8 : Int), e = .returned (.agg #[.int .i64 V, .int .i64 W, .int .i64 C, .int .i64 P, .int .u64 S, u, .int .i64 x1, .int .i64 x2, .int .i64 x3, .int .i64 x4, .int .i64 x5, .int .i64 x6, .int .i64 x7, .int .i64 x8]) ∧ ListsV w' u ups ∧ Ext w w'
set_option maxRecDepth 100000 in
theorem boardPlays32 (V C P S : Int) (a : Option Addr) (cap : Nat) (ups : List (List Int)) (a2 : Option Addr) (len2 cap2 : Nat) (ds : List DoR) (w : World) (hS0 : 0 ≤ S) (hS1 : S < 18446744073709551616) (h : Came w a ups.length cap ups) (hD : IsDos w a2 len2 cap2 ds) (E : Parts w) (hb : longB ups = false) (h2l : len2 ≤ 200) (hg : ckC V 32 C P ups = 0) :
    Calls Tryz.prog 3 #[(.agg #[.int .i64 V, .int .i64 32, .int .i64 C, .int .i64 P, .int .u64 (S), .slice a ups.length cap]), .slice a2 len2 cap2] w fun e w' => e = .returned (.bool true) ∧ Below w.heap.size w w' := by
  obtain ⟨hdl, hdc, hdm, hdo, hdr⟩ := hD
  have CV := Lib.hid (fun w' (hx : Ext w w') => live12 w' (E.ext hx))
  have CL := fun w' (hx : Ext w w') => long _ ups w' (h.l.ext hx) (by rw [h.n]; exact h.m) (fun l hl => (h.each l hl).1)
  rw [hb] at CL
  obtain ⟨hll, hn⟩ := came_small h hb
  have hd63 : len2 ≤ 9223372036854775807 := by omega
  have d200 : decide ((200 : Int) < (len2 : Int)) = false := by simp; omega
  have CR := fun w' (hx : Ext w w') => r10Right V 32 C P S _ ups w' (h.l.ext hx) hll hn
  rw [show (ckC V 32 C P ups == 0) = true by simpa using hg] at CR
  have HCL := Lib.hid CL
  have HCR := Lib.hid CR
  have ok := ok_iff.1 hg
  have hok := numOk ok
  have hbd := num_bounds hok
  obtain ⟨n, hn0⟩ : ∃ n, n = ups.length := ⟨_, rfl⟩
  obtain ⟨m, hm⟩ : ∃ m : Nat, (m : Int) = nCe V n C := ⟨(nCe V n C).toNat, by rw [hn0]; omega⟩
  have hokn : NumOk V n C := by rw [hn0]; exact hok
  have CO := fun w' (hx : Ext w w') => lOf_ok V 32 C P S _ ups w' (h.l.ext hx) hll hn hg
  have CNW := fun bo w' (hL' : OwnL w' (.slice (some ⟨bo, 0, none⟩) ups.length ups.length) ups) (xu xl xt xs xn xm xo : Int) => New32 V C P S (some ⟨bo, 0, none⟩) ups.length ups xu xl xt xs xn xm xo m w' hL'.lists hll hn hg hS0 hS1 (by rw [← hn0]; exact hm)
  have CNO := fun bo w' (hL' : OwnL w' (.slice (some ⟨bo, 0, none⟩) ups.length ups.length) ups) (xu xl xt xs xn xm xo : Int) => New64_other V C P S (some ⟨bo, 0, none⟩) ups.length ups xu xl xt xs xn xm xo m w' hL'.lists hll hn hg (by rw [← hn0]; exact hm)
  have CRN := fun w' => rNew12 V 32 C P S a n cap m w' hokn (.inl rfl) ok.rc hS0 hm
  have HRO : Hid (∀ bo (r : RY), r.m = m → r.W = 32 → r.C = C → (∀ c : Nat, c < m → r.kf c = pKind (useN V n C c).1.toNat) → Rel (yOf V 32 C P S bo n m) r 32) := Lib.hid (fun bo r a1 a2 a3 a4 => rel_of hokn hm a1 a2 a3 a4)
  have HLC : Hid (∀ bo w' b g f lv log, BD w' 74 b g (yOf V 32 C P S bo n m) f lv log → OwnL w' (.slice (some ⟨bo, 0, none⟩) n n) ups → Calls Tryz.prog 22 #[.pointer (some ⟨b, 0, none⟩)] w' (LayGives V 32 C P S ups w')) := Lib.hid (fun bo w' b g f lv log hB hO => by
    refine (Layout32 b g _ f lv log ups w' hB hO.lists hll hn hg ?_).mono ?_
    · intro u
      unfold layV yOf
      rw [← hn0]
      simp only [hm]
    · rintro e w'' ⟨u, he, h1, h2⟩
      exact ⟨u, _, _, _, _, _, _, _, _, he, h1, h2⟩)
  have HKD : Hid (∀ bo, ∀ c : Nat, c < m → kd (yOf V 32 C P S bo n m) c ≠ 0) := Lib.hid (fun bo c hc => kd_some hokn hm hc)
  have HLS : Hid (∀ w', Ext w w' → ListsV w' (.slice a n cap) ups) := Lib.hid (fun w' hx => by rw [hn0]; exact h.l.ext hx)
  have CSM := Lib.hid (fun u w' (h1 : ListsV w' u ups) (hx : Ext w w') => rSame V 32 C P S u (.slice a n cap) ups w' h1 (HLS.out w' hx) hn hll)
  have HNAR : Hid (∀ bo, Nar (yOf V 32 C P S bo n m) 32 (fsC V 32 C S n)) := Lib.hid (fun bo => nar_first ok.rc)
  rw [← hn0] at CO CNW CNO
  have HRNG : Hid (∀ i, i < m → 0 ≤ fsC V 32 C S n i ∧ fsC V 32 C S n i < 18446744073709551616) := Lib.hid (fun i _ => fst_rng (.inl rfl) ok.rc hS0 hS1 _ _)
  have HYOK : Hid (∀ bo, YOk (yOf V 32 C P S bo n m)) := Lib.hid (fun bo => yOf_ok hokn hm)
  obtain ⟨Cu, hCu⟩ : ∃ x, x = nCu V n := ⟨_, rfl⟩
  obtain ⟨Cl, hCl⟩ : ∃ x, x = nCl V n := ⟨_, rfl⟩
  obtain ⟨Ti, hTi⟩ : ∃ x, x = nTi V n := ⟨_, rfl⟩
  obtain ⟨Se, hSe⟩ : ∃ x, x = nSe V n := ⟨_, rfl⟩
  obtain ⟨Ne, hNe⟩ : ∃ x, x = nNe V n := ⟨_, rfl⟩
  obtain ⟨Ma, hMa⟩ : ∃ x, x = nMa V n := ⟨_, rfl⟩
  obtain ⟨Sl, hSl⟩ : ∃ x, x = nSl V n C := ⟨_, rfl⟩
  have hLay : ∀ u, layV V 32 C P S u n = (.agg #[.int .i64 V, .int .i64 32, .int .i64 C, .int .i64 P, .int .u64 S, u, .int .i64 Cu, .int .i64 Cl, .int .i64 Ti, .int .i64 Se, .int .i64 Ne, .int .i64 Ma, .int .i64 Sl, .int .i64 m]) := fun u => by unfold layV; rw [hCu, hCl, hTi, hSe, hNe, hMa, hSl, hm]
  have HLAY := Lib.hid hLay
  have HCO := Lib.hid CO
  have HCNW := Lib.hid CNW
  have HCNO := Lib.hid CNO
  have HCRN := Lib.hid CRN
  have HE := Lib.hid E
  have HDO := Lib.hid hdo
  have HDR := Lib.hid hdr
  have HDL := Lib.hid hdl
  have HN0 := Lib.hid hn0
  have hm5 : m ≤ 500 := by rw [← hn0] at hbd; omega
  rw [← hn0] at HCL HCR ⊢
  clear CL CR CO CNW CNO CRN h hb E hll hg ok hok hokn hbd hn hLay hCu hCl hTi hSe hNe hMa hSl hm hn0 hdo hdr hdl hS0 hS1 HLS
  generalize hF : fsC V 32 C S n = F at *
  have HFF := Lib.hid hF
  generalize hY : (fun bo => yOf V 32 C P S bo n m) = Y0 at *
  have HY0 : Hid (∀ bo, yOf V 32 C P S bo n m = Y0 bo) := Lib.hid (fun bo => by rw [← hY])
  clear hF hY
  go_enter Tryz.func3, Tryz.ntmps3
  go_wp2_with fail
  refine (HCL.out _ (by repeat (first | with_reducible exact Ext.refl _ | with_reducible assumption | with_reducible refine Ext.alloc ?_ _ | with_reducible refine Ext.drew ?_ | with_reducible refine Ext.drewN ?_ _ | with_reducible refine Ext.setCell ?_ (by simp <;> omega) _ | with_reducible refine Ext.trans ?_ (by assumption)))).mono ?_
  rintro e w' ⟨rfl, rfl⟩
  go_wp2_with fail
  refine (HCR.out _ (by repeat (first | with_reducible exact Ext.refl _ | with_reducible assumption | with_reducible refine Ext.alloc ?_ _ | with_reducible refine Ext.drew ?_ | with_reducible refine Ext.drewN ?_ _ | with_reducible refine Ext.setCell ?_ (by simp <;> omega) _ | with_reducible refine Ext.trans ?_ (by assumption)))).mono ?_
  rintro e w1 ⟨rfl, hb1⟩
  obtain ⟨hc1, hf1⟩ := hb1.cells
  clear hc1 hf1
  have qc_0 : w1.cell? ⟨w.heap.size, 0, none⟩ = some (.int .i64 V) := (hb1.cells.1 _ _ (by simp <;> omega)).trans (by simp [go_sem])
  have qc_1 : w1.cell? ⟨w.heap.size, 1, none⟩ = some (.int .i64 32) := (hb1.cells.1 _ _ (by simp <;> omega)).trans (by simp [go_sem])
  have qc_2 : w1.cell? ⟨w.heap.size, 2, none⟩ = some (.int .i64 C) := (hb1.cells.1 _ _ (by simp <;> omega)).trans (by simp [go_sem])
  have qc_3 : w1.cell? ⟨w.heap.size, 3, none⟩ = some (.int .i64 P) := (hb1.cells.1 _ _ (by simp <;> omega)).trans (by simp [go_sem])
  have qc_4 : w1.cell? ⟨w.heap.size, 4, none⟩ = some (.int .u64 (S)) := (hb1.cells.1 _ _ (by simp <;> omega)).trans (by simp [go_sem])
  have qc_5 : w1.cell? ⟨w.heap.size, 5, none⟩ = some (.slice a n cap) := (hb1.cells.1 _ _ (by simp <;> omega)).trans (by simp [go_sem])
  have pc := World.block_lt_of_cell? _ ⟨w.heap.size, 0, none⟩ qc_0
  have rc := Nat.lt_succ_of_lt pc
  go_wp2_with fail
  have E1 : Ext w w1 := by repeat (first | with_reducible exact Ext.refl _ | with_reducible assumption | with_reducible refine Ext.alloc ?_ _ | with_reducible refine Ext.drew ?_ | with_reducible refine Ext.drewN ?_ _ | with_reducible refine Ext.setCell ?_ (by simp <;> omega) _ | with_reducible refine Ext.trans ?_ (by assumption))
  refine (HCO.out _ E1).mono ?_
  rintro e wo ⟨uo, rfl, Oo, Xo⟩
  obtain ⟨bo, fo, cuo, eo, -⟩ := id Oo
  rw [← HN0.out] at eo ⊢
  subst eo
  rw [HLAY.out]
  have xo := E1.trans Xo
  have HOo := Lib.hid (Oo.ext ((Ext.refl wo).alloc (.cells #[.int .i64 V, .int .i64 32, .int .i64 C, .int .i64 P, .int .u64 S, .slice (some ⟨bo, 0, none⟩) n n, .int .i64 Cu, .int .i64 Cl, .int .i64 Ti, .int .i64 Se, .int .i64 Ne, .int .i64 Ma, .int .i64 Sl, .int .i64 m] 31)))
  replace qc_0 := Xo.cell qc_0
  replace qc_1 := Xo.cell qc_1
  replace qc_2 := Xo.cell qc_2
  replace qc_3 := Xo.cell qc_3
  replace qc_4 := Xo.cell qc_4
  replace qc_5 := Xo.cell qc_5
  clear Xo Oo E1
  go_upto_region 4 with (fail)
  refine settle_wp ?_
  intro wA hbA
  have XA : Ext wo wA := Ext.trans ((Ext.refl wo).alloc _) hbA
  have ql_0 : wA.cell? ⟨wo.heap.size, 0, none⟩ = some (.int .i64 V) := hbA.cell (by simp [go_sem])
  have ql_1 : wA.cell? ⟨wo.heap.size, 1, none⟩ = some (.int .i64 32) := hbA.cell (by simp [go_sem])
  have ql_2 : wA.cell? ⟨wo.heap.size, 2, none⟩ = some (.int .i64 C) := hbA.cell (by simp [go_sem])
  have ql_3 : wA.cell? ⟨wo.heap.size, 3, none⟩ = some (.int .i64 P) := hbA.cell (by simp [go_sem])
  have ql_4 : wA.cell? ⟨wo.heap.size, 4, none⟩ = some (.int .u64 S) := hbA.cell (by simp [go_sem])
  have ql_5 : wA.cell? ⟨wo.heap.size, 5, none⟩ = some (.slice (some ⟨bo, 0, none⟩) n n) := hbA.cell (by simp [go_sem])
  have ql_6 : wA.cell? ⟨wo.heap.size, 6, none⟩ = some (.int .i64 Cu) := hbA.cell (by simp [go_sem])
  have ql_7 : wA.cell? ⟨wo.heap.size, 7, none⟩ = some (.int .i64 Cl) := hbA.cell (by simp [go_sem])
  have ql_8 : wA.cell? ⟨wo.heap.size, 8, none⟩ = some (.int .i64 Ti) := hbA.cell (by simp [go_sem])
  have ql_9 : wA.cell? ⟨wo.heap.size, 9, none⟩ = some (.int .i64 Se) := hbA.cell (by simp [go_sem])
  have ql_10 : wA.cell? ⟨wo.heap.size, 10, none⟩ = some (.int .i64 Ne) := hbA.cell (by simp [go_sem])
  have ql_11 : wA.cell? ⟨wo.heap.size, 11, none⟩ = some (.int .i64 Ma) := hbA.cell (by simp [go_sem])
  have ql_12 : wA.cell? ⟨wo.heap.size, 12, none⟩ = some (.int .i64 Sl) := hbA.cell (by simp [go_sem])
  have ql_13 : wA.cell? ⟨wo.heap.size, 13, none⟩ = some (.int .i64 m) := hbA.cell (by simp [go_sem])
  replace qc_0 := XA.cell qc_0
  replace qc_1 := XA.cell qc_1
  replace qc_2 := XA.cell qc_2
  replace qc_3 := XA.cell qc_3
  replace qc_4 := XA.cell qc_4
  replace qc_5 := XA.cell qc_5
  have EWA := xo.trans XA
  have HOA := Lib.hid (HOo.out.ext hbA)
  clear hbA XA HOo xo
  refine wp_region_held_drew (S := fun w' => Ext wA w') (by kernel_rfl) ?hbeg (fun hHeld => ?_)
  case hbeg => exact (Ext.refl wA).drew
  have l_0 := fun w' (hx : Ext wA w') => hx.cell ql_0
  have l_1 := fun w' (hx : Ext wA w') => hx.cell ql_1
  have l_2 := fun w' (hx : Ext wA w') => hx.cell ql_2
  have l_3 := fun w' (hx : Ext wA w') => hx.cell ql_3
  have l_4 := fun w' (hx : Ext wA w') => hx.cell ql_4
  have l_5 := fun w' (hx : Ext wA w') => hx.cell ql_5
  have l_6 := fun w' (hx : Ext wA w') => hx.cell ql_6
  have l_7 := fun w' (hx : Ext wA w') => hx.cell ql_7
  have l_8 := fun w' (hx : Ext wA w') => hx.cell ql_8
  have l_9 := fun w' (hx : Ext wA w') => hx.cell ql_9
  have l_10 := fun w' (hx : Ext wA w') => hx.cell ql_10
  have l_11 := fun w' (hx : Ext wA w') => hx.cell ql_11
  have l_12 := fun w' (hx : Ext wA w') => hx.cell ql_12
  have l_13 := fun w' (hx : Ext wA w') => hx.cell ql_13
  have c_0 := fun w' (hx : Ext wA w') => hx.cell qc_0
  have c_1 := fun w' (hx : Ext wA w') => hx.cell qc_1
  have c_2 := fun w' (hx : Ext wA w') => hx.cell qc_2
  have c_3 := fun w' (hx : Ext wA w') => hx.cell qc_3
  have c_4 := fun w' (hx : Ext wA w') => hx.cell qc_4
  have c_5 := fun w' (hx : Ext wA w') => hx.cell qc_5
  refine take_at (i := 0) (v := ?_) rfl rfl (by kernel_rfl) (by kernel_rfl) (by kernel_rfl) (fun _ _ _ h => h) (Or.inl ⟨by rfl, ?hy⟩) (by assumption) ?_
  case hy => (intro wz hSw; (try dsimp only at hSw); go_simp <;> with_reducible rfl)
  simp only [List.setIfInBounds_toArray, List.set_cons_zero, List.set_cons_succ]
  refine take_at (i := 2) (v := ?_) rfl rfl (by kernel_rfl) (by kernel_rfl) (by kernel_rfl) (fun _ _ _ h => h) (Or.inl ⟨by rfl, ?hy⟩) (by assumption) ?_
  case hy => (intro wz hSw; (try dsimp only at hSw); go_simp <;> with_reducible rfl)
  simp only [List.setIfInBounds_toArray, List.set_cons_zero, List.set_cons_succ]
  refine take_at (i := 4) (v := ?_) rfl rfl (by kernel_rfl) (by kernel_rfl) (by kernel_rfl) (fun _ _ _ h => h) (Or.inl ⟨by rfl, ?hy⟩) (by assumption) ?_
  case hy => (intro wz hSw; (try dsimp only at hSw); go_simp <;> with_reducible rfl)
  simp only [List.setIfInBounds_toArray, List.set_cons_zero, List.set_cons_succ]
  clear l_0 l_1 l_2 l_3 l_4 l_5 l_6 l_7 l_8 l_9 l_10 l_11 l_12 l_13 c_0 c_1 c_2 c_3 c_4 c_5
  refine call_at (i := 1) (F := 10) (HCNW.out bo _ (HOA.out.ext hHeld) Cu Cl Ti Se Ne Ma Sl) rfl rfl (by kernel_rfl) (by rfl) (by first | rfl | (go_simp <;> rfl)) ?_
  rintro e w3 ⟨b, g, bo3, rfl, B3, O3, X3, hb3, hg3⟩
  replace hb3 := Nat.le_trans hHeld.size hb3
  replace hg3 := Nat.le_trans hHeld.size hg3
  replace hHeld := hHeld.trans X3
  refine ⟨_, rfl, hHeld, ?_⟩
  simp only [List.setIfInBounds_toArray, List.set_cons_zero, List.set_cons_succ]
  rw [← HN0.out, HFF.out] at B3
  rw [← HN0.out] at O3
  refine call_at (i := 3) (F := 11) (HCNO.out bo _ (HOA.out.ext hHeld) Cu Cl Ti Se Ne Ma Sl) rfl rfl (by kernel_rfl) (by rfl) (by first | rfl | (go_simp <;> rfl)) ?_
  rintro e w5 ⟨rfl, X5⟩
  replace hHeld := hHeld.trans X5
  refine ⟨_, rfl, hHeld, ?_⟩
  simp only [List.setIfInBounds_toArray, List.set_cons_zero, List.set_cons_succ]
  replace B3 := B3.ext X5
  replace O3 := O3.ext X5
  refine call_at (i := 5) (F := 12) (HCRN.out _) rfl rfl (by kernel_rfl) (by rfl) (by first | rfl | (go_simp <;> rfl)) ?_
  rintro e w4 ⟨b', r, rfl, R4, rm, rW, rC, rk, X4, hb4, hg4⟩
  rw [HFF.out] at R4
  have HREL := Lib.hid (HRO.out bo3 r rm rW rC rk)
  have HTWO0 := Lib.hid (two_new B3 hHeld hb3 hg3 R4 X4 hb4 hg4)
  have HOW0 := Lib.hid (O3.ext X4)
  have HYO0 := Lib.hid (HYOK.out bo3)
  have HLC0 := Lib.hid (HLC.out bo3)
  have HKD0 := Lib.hid (HKD.out bo3)
  have HNAR0 : Hid (Nar (yOf V 32 C P S bo3 n m) 32 F) := Lib.hid (HNAR.out bo3)
  have hYm : (yOf V 32 C P S bo3 n m).m = m := rfl
  rw [HY0.out] at HREL HTWO0 HYO0 HLC0 HKD0 HNAR0 hYm
  replace hHeld := hHeld.trans X4
  refine ⟨_, rfl, hHeld, ?_⟩
  simp only [List.setIfInBounds_toArray, List.set_cons_zero, List.set_cons_succ]
  generalize Y0 bo3 = y at *
  clear B3 O3 R4 rW rC rk X4 HCNW HCNO HCRN HCO HLAY HCL HCR HRO HOA HYOK HLC HKD HNAR hb3 hg3 hb4 hg4 X3 X5 ql_0 ql_1 ql_2 ql_3 ql_4 ql_5 ql_6 ql_7 ql_8 ql_9 ql_10 ql_11 ql_12 ql_13
  refine take_at (i := 6) (v := ?_) rfl rfl (by kernel_rfl) (by kernel_rfl) (by kernel_rfl) (fun _ _ _ h => h) (Or.inl ⟨by rfl, ?hy⟩) (by assumption) ?_
  case hy => (intro wz hSw; (try dsimp only at hSw); go_simp <;> with_reducible rfl)
  simp only [List.setIfInBounds_toArray, List.set_cons_zero, List.set_cons_succ]
  refine take_at (i := 7) (v := ?_) rfl rfl (by kernel_rfl) (by kernel_rfl) (by kernel_rfl) (fun _ _ _ h => h) (Or.inl ⟨by rfl, ?hy⟩) (by assumption) ?_
  case hy => (intro wz hSw; (try dsimp only at hSw); go_simp <;> with_reducible rfl)
  simp only [List.setIfInBounds_toArray, List.set_cons_zero, List.set_cons_succ]
  refine take_at (i := 8) (v := ?_) rfl rfl (by kernel_rfl) (by kernel_rfl) (by kernel_rfl) (fun _ _ _ h => h) (Or.inl ⟨by rfl, ?hy⟩) (by assumption) ?_
  case hy => (intro wz hSw; (try dsimp only at hSw); go_simp <;> with_reducible rfl)
  simp only [List.setIfInBounds_toArray, List.set_cons_zero, List.set_cons_succ]
  refine wpAnyH_done (by kernel_rfl) ?_ _
  have qw := hHeld.cell qc_1
  clear hHeld
  go_wp2
  go_loopw [10] (fun i wr => ∃ k : Nat, k ≤ len2 ∧ i = .int .i64 k ∧ ∃ f lv lv' log, Two wA wr 74 b g y f lv log b' r f lv' log ∧ Chain y.m F f log ∧ Nar y 32 f ∧ log.length ≤ k ∧ OwnL wr (.slice (some ⟨bo3, 0, none⟩) n n) ups) (fun i _ => len2 - (intOf i).toNat)
  case atStart => exact ⟨0, Nat.zero_le _, rfl, F, _, _, [], HTWO0.out, Chain.nil (by rw [hYm]; exact HRNG.out), HNAR0.out, Nat.le_refl _, HOW0.out⟩
  case round =>
    clear qw
    obtain ⟨k, hk, rfl, f, lv, lv', log, hT, hC, hN, hL, hO⟩ := hrel
    have hx := hT.ex
    by_cases hlt : k < len2
    · have hkl : (k : Int) < (len2 : Int) := by omega
      have hkd : k < ds.length := by rw [HDL.out]; exact hlt
      obtain ⟨db, doff, ea, hcell⟩ := HDR.out k hkd
      subst ea
      have hok := HDO.out _ (List.getElem_mem hkd)
      obtain ⟨_, _, _, _, wo', wz'⟩ := hok
      obtain ⟨o0, o1⟩ := wf_u64 wo'
      obtain ⟨z0, z1⟩ := wf_u64 wz'
      have CS := Lib.hid (small_step b g y f lv log ds[k] wr hT.B HYO0.out (HE.out.ext (EWA.trans hx)) (by omega) hC.rng o0 o1 z0 z1)
      have CM := Lib.hid (fun w' (hR : RB w' b' r f lv' log) => model_step b' r y 32 f lv' log ds[k] w' hR HREL.out (.inl rfl) hN (by omega) hC.rng o0 z0)
      have HCELL : Hid (∀ w', Ext wA w' → w'.cell? ⟨db, doff + k * 6, none⟩ = some (.int .i64 ds[k].t) ∧ w'.cell? ⟨db, doff + k * 6 + 1, none⟩ = some (.int .i64 ds[k].k) ∧ w'.cell? ⟨db, doff + k * 6 + 2, none⟩ = some (.int .i64 ds[k].c) ∧ w'.cell? ⟨db, doff + k * 6 + 3, none⟩ = some (.int .i64 ds[k].n) ∧ w'.cell? ⟨db, doff + k * 6 + 4, none⟩ = some (.int .u64 ds[k].o) ∧ w'.cell? ⟨db, doff + k * 6 + 5, none⟩ = some (.int .u64 ds[k].z)) := Lib.hid (fun w' hx' => ⟨(EWA.trans hx').cell (hcell 0 _ rfl), (EWA.trans hx').cell (hcell 1 _ rfl), (EWA.trans hx').cell (hcell 2 _ rfl), (EWA.trans hx').cell (hcell 3 _ rfl), (EWA.trans hx').cell (hcell 4 _ rfl), (EWA.trans hx').cell (hcell 5 _ rfl)⟩)
      have HST := Lib.hid (hC.stp 32 (.inl rfl) ds[k] z0 z1)
      have HNS := Lib.hid (hN.stp ds[k] log)
      have HSL := Lib.hid (stp_len y 32 (.inl rfl) ds[k] f log hC.rng z0 z1)
      have HT := Lib.hid hT
      have HO := Lib.hid hO
      have HLL := Lib.hid hL
      have qw := hx.cell qc_1
      generalize ds[k] = d at *
      generalize (stp y 32 d f log).v = sv at *
      generalize (stp y 32 d f log).b = sb at *
      obtain ⟨c0, c1, c2, c3, c4, c5⟩ := HCELL.out wr hx
      clear hT hC hN hL hO hx hcell wo' wz' o0 o1 z0 z1 hkd
      go_wp2_with fail
      refine CS.out.mono ?_
      rintro e w5 ⟨rfl, lv5, B5, T5, A5⟩
      have T2 := HT.out.stepB (by decide) B5 T5 A5
      have HO5 := Lib.hid (HO.out.but T5 (HT.out.B.own (by decide) (by decide)))
      have HT2 := Lib.hid T2
      have hx5 := T2.ex
      clear B5 T5 A5 c0 c1 c2 c3 c4 c5 T2 qw
      obtain ⟨c0, c1, c2, c3, c4, c5⟩ := HCELL.out w5 hx5
      go_wp2_with fail
      refine (CM.out _ HT2.out.R).mono ?_
      rintro e w6 ⟨rfl, lv6, R6, T6, A6⟩
      have HT3 := Lib.hid (HT2.out.stepR R6 T6 A6)
      have HO6 := Lib.hid (HO5.out.but T6 HT2.out.R.own)
      clear R6 T6 A6 c0 c1 c2 c3 c4 c5 hx5
      go_wp2
      exact ⟨⟨k + 1, by omega, by go_num, _, lv5, lv6, _, HT3.out, HST.out, HNS.out, by have := HSL.out; have := HLL.out; omega, HO6.out⟩, by simp [intOf]; omega⟩
    · obtain rfl : k = len2 := by omega
      have hlog : log.length ≤ 200 := by omega
      have HT := Lib.hid hT
      have HO := Lib.hid hO
      have q7 := hT.R.q7
      rw [rm] at q7
      clear hT hC hN hL hO HDO HDR HDL HREL
      go_wp2
      go_loopw [15] (fun i wr2 => ∃ k2 : Nat, k2 ≤ m ∧ i = .int .i64 k2 ∧ Ext wr wr2) (fun i _ => m - (intOf i).toNat)
      case atStart => exact ⟨0, Nat.zero_le _, rfl, Ext.refl _⟩
      case round =>
        obtain ⟨k2, hk2, rfl, hx2⟩ := hrel
        by_cases h2 : k2 < m
        · have h2m : (k2 : Int) < (m : Int) := by omega
          have CP := Lib.hid (fun w' (hx' : Ext wr w') => Peek32 b g y f lv log k2 w' (HT.out.ext (hx2.trans hx')).B HYO0.out (HE.out.ext (EWA.trans (HT.out.ex.trans (hx2.trans hx')))) (HKD0.out k2 h2))
          have T := HT.out.ext hx2
          have p7 := T.R.q7
          rw [rm] at p7
          have pc := T.R.va.c k2 (by rw [rm]; exact h2)
          try dsimp only at pc
          have qw := T.ex.cell qc_1
          have HX := Lib.hid hx2
          generalize f k2 = x at *
          clear hx2 T q7
          go_upto_region 20 with (fail)
          refine wp_region_later (by kernel_rfl) (by kernel_rfl) ?_
          have l7 := fun (g : Later wr) => g.ok.cell p7
          have lc := fun (g : Later wr) => g.ok.cell pc
          have lw := fun (g : Later wr) => g.ok.cell qw
          repeat (go_big_quiet_step ((fail)))
          go_big_quiet_step ((go_at_call 16; exact laterC (CP.out _ (Later.ok _))))
          repeat (go_big_quiet_step ((fail)))
          refine wpQuiet_nil ?_
          intro w4 hl4
          have HX4 := Lib.hid (HX.out.trans (laters_ext hl4))
          clear hl4 l7 lc lw p7 pc qw CP
          go_wp2
          exact ⟨⟨k2 + 1, by omega, by go_num, HX4.out⟩, by simp [intOf]; omega⟩
        · obtain rfl : k2 = m := by omega
          have T := HT.out.ext hx2
          have p7 := T.R.q7
          rw [rm] at p7
          have q8 := T.R.q8
          have qw := T.ex.cell qc_1
          obtain ⟨al, cal, el, -⟩ := rowA_form T.R.row
          subst el
          have CLG := Lib.hid (fun w' (hx' : Ext wr w') => Log32 b g y f lv log w' (T.ext hx').B (by omega))
          have CSA := Lib.hid (fun v base w' (hr : w'.ownsRow base 91 5 v log.length (rowA log)) (hx' : Ext wr w') => rSame12 base 0 v _ log w' hr (T.ext hx').R.row (by omega))
          have CLN := Lib.hid (fun w' (hx' : Ext wr w') => Len32 b g y f lv log w' (T.ext hx').B)
          have CLY := Lib.hid (fun w' (hx' : Ext wr w') => HLC0.out w' b g f lv log (T.ext hx').B ((HO.out.ext hx2).ext hx'))
          have HEW := EWA.trans T.ex
          have hfld : ∀ (u : Value) (x1 x2 x3 x4 x5 x6 x7 x8 : Int) (w : World), (Instr.field 31 (.agg #[.int .i64 V, .int .i64 32, .int .i64 C, .int .i64 P, .int .u64 S, u, .int .i64 x1, .int .i64 x2, .int .i64 x3, .int .i64 x4, .int .i64 x5, .int .i64 x6, .int .i64 x7, .int .i64 x8]) 0).run Tryz.prog w = .ok (.agg #[.int .i64 V, .int .i64 32, .int .i64 C, .int .i64 P, .int .u64 (S), u]) w := fun u x1 x2 x3 x4 x5 x6 x7 x8 w => by kernel_rfl
          have p_0 := T.ex.cell qc_0
          have p_2 := T.ex.cell qc_2
          have p_3 := T.ex.cell qc_3
          have p_4 := T.ex.cell qc_4
          have p_5 := T.ex.cell qc_5
          clear T hx2 HT HO HLC0 q7 qc_0 qc_1 qc_2 qc_3 qc_4 qc_5 HTWO0 HOW0 HNAR0 HKD0 HYO0
          go_upto_region 23 with (fail)
          refine wp_region_held_drew (S := fun w' => Ext wr w') (by kernel_rfl) ?hbeg2 (fun hHeld => ?_)
          case hbeg2 => exact (Ext.refl wr).drew
          have l8 := fun w' (hx : Ext wr w') => hx.cell q8
          have c_0 := fun w' (hx : Ext wr w') => hx.cell p_0
          have c_1 := fun w' (hx : Ext wr w') => hx.cell qw
          have c_2 := fun w' (hx : Ext wr w') => hx.cell p_2
          have c_3 := fun w' (hx : Ext wr w') => hx.cell p_3
          have c_4 := fun w' (hx : Ext wr w') => hx.cell p_4
          have c_5 := fun w' (hx : Ext wr w') => hx.cell p_5
          refine take_at (i := 0) (v := ?_) rfl rfl (by kernel_rfl) (by kernel_rfl) (by kernel_rfl) (fun _ _ _ h => h) (Or.inl ⟨by rfl, ?hy⟩) (by assumption) ?_
          case hy => (intro wz hSw; (try dsimp only at hSw); go_simp <;> with_reducible rfl)
          simp only [List.setIfInBounds_toArray, List.set_cons_zero, List.set_cons_succ]
          refine take_at (i := 2) (v := ?_) rfl rfl (by kernel_rfl) (by kernel_rfl) (by kernel_rfl) (fun _ _ _ h => h) (Or.inl ⟨by rfl, ?hy⟩) (by assumption) ?_
          case hy => (intro wz hSw; (try dsimp only at hSw); go_simp <;> with_reducible rfl)
          simp only [List.setIfInBounds_toArray, List.set_cons_zero, List.set_cons_succ]
          refine take_at (i := 3) (v := ?_) rfl rfl (by kernel_rfl) (by kernel_rfl) (by kernel_rfl) (fun _ _ _ h => h) (Or.inl ⟨by rfl, ?hy⟩) (by assumption) ?_
          case hy => (intro wz hSw; (try dsimp only at hSw); go_simp <;> with_reducible rfl)
          simp only [List.setIfInBounds_toArray, List.set_cons_zero, List.set_cons_succ]
          refine take_at (i := 4) (v := ?_) rfl rfl (by kernel_rfl) (by kernel_rfl) (by kernel_rfl) (fun _ _ _ h => h) (Or.inl ⟨by rfl, ?hy⟩) (by assumption) ?_
          case hy => (intro wz hSw; (try dsimp only at hSw); go_simp <;> with_reducible rfl)
          simp only [List.setIfInBounds_toArray, List.set_cons_zero, List.set_cons_succ]
          refine take_at (i := 5) (v := ?_) rfl rfl (by kernel_rfl) (by kernel_rfl) (by kernel_rfl) (fun _ _ _ h => h) (Or.inl ⟨by rfl, ?hy⟩) (by assumption) ?_
          case hy => (intro wz hSw; (try dsimp only at hSw); go_simp <;> with_reducible rfl)
          simp only [List.setIfInBounds_toArray, List.set_cons_zero, List.set_cons_succ]
          refine call_at (i := 1) (F := 19) (CLG.out _ hHeld) rfl rfl (by kernel_rfl) (by rfl) (by first | rfl | (go_simp <;> rfl)) ?_
          rintro e w3 ⟨v, rfl, R3, X3⟩
          replace hHeld := hHeld.trans X3
          refine ⟨_, rfl, hHeld, ?_⟩
          simp only [List.setIfInBounds_toArray, List.set_cons_zero, List.set_cons_succ]
          refine call_at (i := 6) (F := 18) (CSA.out v _ _ R3 hHeld) rfl rfl (by kernel_rfl) (by rfl) (by first | rfl | (go_simp <;> rfl)) ?_
          rintro e w4 ⟨rfl, X4⟩
          replace hHeld := hHeld.trans X4
          refine ⟨_, rfl, hHeld, ?_⟩
          simp only [List.setIfInBounds_toArray, List.set_cons_zero, List.set_cons_succ]
          clear R3
          refine take_at (i := 7) (v := ?_) rfl rfl (by kernel_rfl) (by kernel_rfl) (by kernel_rfl) (fun _ _ _ h => h) (Or.inl ⟨by rfl, ?hy⟩) (by assumption) ?_
          case hy => (intro wz hSw; (try dsimp only at hSw); go_simp <;> with_reducible rfl)
          simp only [List.setIfInBounds_toArray, List.set_cons_zero, List.set_cons_succ]
          refine take_at (i := 8) (v := ?_) rfl rfl (by kernel_rfl) (by kernel_rfl) (by kernel_rfl) (fun _ _ _ h => h) (Or.inl ⟨by rfl, ?hy⟩) (by assumption) ?_
          case hy => (intro wz hSw; (try dsimp only at hSw); go_simp <;> with_reducible rfl)
          simp only [List.setIfInBounds_toArray, List.set_cons_zero, List.set_cons_succ]
          refine take_at (i := 10) (v := ?_) rfl rfl (by kernel_rfl) (by kernel_rfl) (by kernel_rfl) (fun _ _ _ h => h) (Or.inl ⟨by rfl, ?hy⟩) (by assumption) ?_
          case hy => (intro wz hSw; (try dsimp only at hSw); go_simp <;> with_reducible rfl)
          simp only [List.setIfInBounds_toArray, List.set_cons_zero, List.set_cons_succ]
          refine take_at (i := 11) (v := ?_) rfl rfl (by kernel_rfl) (by kernel_rfl) (by kernel_rfl) (fun _ _ _ h => h) (Or.inl ⟨by rfl, ?hy⟩) (by assumption) ?_
          case hy => (intro wz hSw; (try dsimp only at hSw); go_simp <;> with_reducible rfl)
          simp only [List.setIfInBounds_toArray, List.set_cons_zero, List.set_cons_succ]
          refine take_at (i := 12) (v := ?_) rfl rfl (by kernel_rfl) (by kernel_rfl) (by kernel_rfl) (fun _ _ _ h => h) (Or.inl ⟨by rfl, ?hy⟩) (by assumption) ?_
          case hy => (intro wz hSw; (try dsimp only at hSw); go_simp <;> with_reducible rfl)
          simp only [List.setIfInBounds_toArray, List.set_cons_zero, List.set_cons_succ]
          refine take_at (i := 13) (v := ?_) rfl rfl (by kernel_rfl) (by kernel_rfl) (by kernel_rfl) (fun _ _ _ h => h) (Or.inl ⟨by rfl, ?hy⟩) (by assumption) ?_
          case hy => (intro wz hSw; (try dsimp only at hSw); go_simp <;> with_reducible rfl)
          simp only [List.setIfInBounds_toArray, List.set_cons_zero, List.set_cons_succ]
          refine take_at (i := 14) (v := ?_) rfl rfl (by kernel_rfl) (by kernel_rfl) (by kernel_rfl) (fun _ _ _ h => h) (Or.inl ⟨by rfl, ?hy⟩) (by assumption) ?_
          case hy => (intro wz hSw; (try dsimp only at hSw); go_simp <;> with_reducible rfl)
          simp only [List.setIfInBounds_toArray, List.set_cons_zero, List.set_cons_succ]
          refine call_at (i := 9) (F := 20) (CLN.out _ hHeld) rfl rfl (by kernel_rfl) (by rfl) (by first | rfl | (go_simp <;> rfl)) ?_
          rintro e w5 ⟨rfl, rfl⟩
          refine ⟨_, rfl, hHeld, ?_⟩
          simp only [List.setIfInBounds_toArray, List.set_cons_zero, List.set_cons_succ]
          refine take_at (i := 15) (v := ?_) rfl rfl (by kernel_rfl) (by kernel_rfl) (by kernel_rfl) (fun _ _ _ h => h) (Or.inl ⟨by rfl, ?hy⟩) (by assumption) ?_
          case hy => (intro wz hSw; (try dsimp only at hSw); go_simp <;> with_reducible rfl)
          simp only [List.setIfInBounds_toArray, List.set_cons_zero, List.set_cons_succ]
          refine take_at (i := 16) (v := ?_) rfl rfl (by kernel_rfl) (by kernel_rfl) (by kernel_rfl) (fun _ _ _ h => h) (Or.inl ⟨by rfl, ?hy⟩) (by assumption) ?_
          case hy => (intro wz hSw; (try dsimp only at hSw); go_simp <;> with_reducible rfl)
          simp only [List.setIfInBounds_toArray, List.set_cons_zero, List.set_cons_succ]
          refine take_at (i := 17) (v := ?_) rfl rfl (by kernel_rfl) (by kernel_rfl) (by kernel_rfl) (fun _ _ _ h => h) (Or.inl ⟨by rfl, ?hy⟩) (by assumption) ?_
          case hy => (intro wz hSw; (try dsimp only at hSw); go_simp <;> with_reducible rfl)
          simp only [List.setIfInBounds_toArray, List.set_cons_zero, List.set_cons_succ]
          refine take_at (i := 18) (v := ?_) rfl rfl (by kernel_rfl) (by kernel_rfl) (by kernel_rfl) (fun _ _ _ h => h) (Or.inl ⟨by rfl, ?hy⟩) (by assumption) ?_
          case hy => (intro wz hSw; (try dsimp only at hSw); go_simp <;> with_reducible rfl)
          simp only [List.setIfInBounds_toArray, List.set_cons_zero, List.set_cons_succ]
          refine take_at (i := 21) (v := ?_) rfl rfl (by kernel_rfl) (by kernel_rfl) (by kernel_rfl) (fun _ _ _ h => h) (Or.inl ⟨by rfl, ?hy⟩) (by assumption) ?_
          case hy => (intro wz hSw; (try dsimp only at hSw); go_simp <;> with_reducible rfl)
          simp only [List.setIfInBounds_toArray, List.set_cons_zero, List.set_cons_succ]
          refine call_at (i := 19) (F := 22) (CLY.out _ hHeld) rfl rfl (by kernel_rfl) (by rfl) (by first | rfl | (go_simp <;> rfl)) ?_
          rintro e w7 ⟨u, x1, x2, x3, x4, x5, x6, x7, x8, rfl, L7, X7⟩
          replace hHeld := hHeld.trans X7
          refine ⟨_, rfl, hHeld, ?_⟩
          simp only [List.setIfInBounds_toArray, List.set_cons_zero, List.set_cons_succ]
          refine take_at (i := 20) (v := ?_) rfl rfl (by kernel_rfl) (by kernel_rfl) (by kernel_rfl) (fun _ _ _ h => h) (Or.inl ⟨by rfl, ?hy⟩) (by assumption) ?_
          case hy => (intro wz hSw; (try dsimp only at hSw); go_simp <;> with_reducible rfl)
          simp only [List.setIfInBounds_toArray, List.set_cons_zero, List.set_cons_succ]
          refine call_at (i := 22) (F := 21) (CSM.out u _ L7 (HEW.trans hHeld)) rfl rfl (by kernel_rfl) (by rfl) (by first | rfl | (go_simp <;> rfl)) ?_
          rintro e w8 ⟨rfl, X8⟩
          replace hHeld := hHeld.trans X8
          refine ⟨_, rfl, hHeld, ?_⟩
          simp only [List.setIfInBounds_toArray, List.set_cons_zero, List.set_cons_succ]
          clear L7
          refine take_at (i := 23) (v := ?_) rfl rfl (by kernel_rfl) (by kernel_rfl) (by kernel_rfl) (fun _ _ _ h => h) (Or.inl ⟨by rfl, ?hy⟩) (by assumption) ?_
          case hy => (intro wz hSw; (try dsimp only at hSw); go_simp <;> with_reducible rfl)
          simp only [List.setIfInBounds_toArray, List.set_cons_zero, List.set_cons_succ]
          refine take_at (i := 24) (v := ?_) rfl rfl (by kernel_rfl) (by kernel_rfl) (by kernel_rfl) (fun _ _ _ h => h) (Or.inl ⟨by rfl, ?hy⟩) (by assumption) ?_
          case hy => (intro wz hSw; (try dsimp only at hSw); go_simp <;> with_reducible rfl)
          simp only [List.setIfInBounds_toArray, List.set_cons_zero, List.set_cons_succ]
          refine call_at (i := 25) (F := 8) (CV.out _ (HEW.trans hHeld)) rfl rfl (by kernel_rfl) (by rfl) (by first | rfl | (go_simp <;> rfl)) ?_
          rintro e w9 ⟨rfl, X9⟩
          replace hHeld := hHeld.trans X9
          refine ⟨_, rfl, hHeld, ?_⟩
          simp only [List.setIfInBounds_toArray, List.set_cons_zero, List.set_cons_succ]
          refine take_at (i := 26) (v := ?_) rfl rfl (by kernel_rfl) (by kernel_rfl) (by kernel_rfl) (fun _ _ _ h => h) (Or.inl ⟨by rfl, ?hy⟩) (by assumption) ?_
          case hy => (intro wz hSw; (try dsimp only at hSw); go_simp <;> with_reducible rfl)
          simp only [List.setIfInBounds_toArray, List.set_cons_zero, List.set_cons_succ]
          refine take_at (i := 27) (v := ?_) rfl rfl (by kernel_rfl) (by kernel_rfl) (by kernel_rfl) (fun _ _ _ h => h) (Or.inl ⟨by rfl, ?hy⟩) (by assumption) ?_
          case hy => (intro wz hSw; (try dsimp only at hSw); go_simp <;> with_reducible rfl)
          simp only [List.setIfInBounds_toArray, List.set_cons_zero, List.set_cons_succ]
          refine wpAnyH_done (by kernel_rfl) ?_ _
          have HEE := Lib.hid (HEW.trans hHeld)
          clear hHeld HEW l8 c_0 c_1 c_2 c_3 c_4 c_5 p_0 p_2 p_3 p_4 p_5 qw q8 p7
          go_wp2
          go_ret
          exact ⟨rfl, Ext.below HEE.out⟩
set_option maxRecDepth 100000 in
theorem boardPlays64 (V C P S : Int) (a : Option Addr) (cap : Nat) (ups : List (List Int)) (a2 : Option Addr) (len2 cap2 : Nat) (ds : List DoR) (w : World) (hS0 : 0 ≤ S) (hS1 : S < 18446744073709551616) (h : Came w a ups.length cap ups) (hD : IsDos w a2 len2 cap2 ds) (E : Parts w) (hb : longB ups = false) (h2l : len2 ≤ 200) (hg : ckC V 64 C P ups = 0) :
    Calls Tryz.prog 3 #[(.agg #[.int .i64 V, .int .i64 64, .int .i64 C, .int .i64 P, .int .u64 (S), .slice a ups.length cap]), .slice a2 len2 cap2] w fun e w' => e = .returned (.bool true) ∧ Below w.heap.size w w' := by
  obtain ⟨hdl, hdc, hdm, hdo, hdr⟩ := hD
  have CV := Lib.hid (fun w' (hx : Ext w w') => live12 w' (E.ext hx))
  have CL := fun w' (hx : Ext w w') => long _ ups w' (h.l.ext hx) (by rw [h.n]; exact h.m) (fun l hl => (h.each l hl).1)
  rw [hb] at CL
  obtain ⟨hll, hn⟩ := came_small h hb
  have hd63 : len2 ≤ 9223372036854775807 := by omega
  have d200 : decide ((200 : Int) < (len2 : Int)) = false := by simp; omega
  have CR := fun w' (hx : Ext w w') => r10Right V 64 C P S _ ups w' (h.l.ext hx) hll hn
  rw [show (ckC V 64 C P ups == 0) = true by simpa using hg] at CR
  have HCL := Lib.hid CL
  have HCR := Lib.hid CR
  have ok := ok_iff.1 hg
  have hok := numOk ok
  have hbd := num_bounds hok
  obtain ⟨n, hn0⟩ : ∃ n, n = ups.length := ⟨_, rfl⟩
  obtain ⟨m, hm⟩ : ∃ m : Nat, (m : Int) = nCe V n C := ⟨(nCe V n C).toNat, by rw [hn0]; omega⟩
  have hokn : NumOk V n C := by rw [hn0]; exact hok
  have CO := fun w' (hx : Ext w w') => lOf_ok V 64 C P S _ ups w' (h.l.ext hx) hll hn hg
  have CNW := fun bo w' (hL' : OwnL w' (.slice (some ⟨bo, 0, none⟩) ups.length ups.length) ups) (xu xl xt xs xn xm xo : Int) => New64 V C P S (some ⟨bo, 0, none⟩) ups.length ups xu xl xt xs xn xm xo m w' hL'.lists hll hn hg hS0 hS1 (by rw [← hn0]; exact hm)
  have CNO := fun bo w' (hL' : OwnL w' (.slice (some ⟨bo, 0, none⟩) ups.length ups.length) ups) (xu xl xt xs xn xm xo : Int) => New32_other V C P S (some ⟨bo, 0, none⟩) ups.length ups xu xl xt xs xn xm xo m w' hL'.lists hll hn hg (by rw [← hn0]; exact hm)
  have CRN := fun w' => rNew12 V 64 C P S a n cap m w' hokn (.inr rfl) ok.rc hS0 hm
  have HRO : Hid (∀ bo (r : RY), r.m = m → r.W = 64 → r.C = C → (∀ c : Nat, c < m → r.kf c = pKind (useN V n C c).1.toNat) → Rel (yOf V 64 C P S bo n m) r 64) := Lib.hid (fun bo r a1 a2 a3 a4 => rel_of hokn hm a1 a2 a3 a4)
  have HLC : Hid (∀ bo w' b g f lv log, BD w' 75 b g (yOf V 64 C P S bo n m) f lv log → OwnL w' (.slice (some ⟨bo, 0, none⟩) n n) ups → Calls Tryz.prog 25 #[.pointer (some ⟨b, 0, none⟩)] w' (LayGives V 64 C P S ups w')) := Lib.hid (fun bo w' b g f lv log hB hO => by
    refine (Layout64 b g _ f lv log ups w' hB hO.lists hll hn hg ?_).mono ?_
    · intro u
      unfold layV yOf
      rw [← hn0]
      simp only [hm]
    · rintro e w'' ⟨u, he, h1, h2⟩
      exact ⟨u, _, _, _, _, _, _, _, _, he, h1, h2⟩)
  have HKD : Hid (∀ bo, ∀ c : Nat, c < m → kd (yOf V 64 C P S bo n m) c ≠ 0) := Lib.hid (fun bo c hc => kd_some hokn hm hc)
  have HLS : Hid (∀ w', Ext w w' → ListsV w' (.slice a n cap) ups) := Lib.hid (fun w' hx => by rw [hn0]; exact h.l.ext hx)
  have CSM := Lib.hid (fun u w' (h1 : ListsV w' u ups) (hx : Ext w w') => rSame V 64 C P S u (.slice a n cap) ups w' h1 (HLS.out w' hx) hn hll)
  rw [← hn0] at CO CNW CNO
  have HRNG : Hid (∀ i, i < m → 0 ≤ fsC V 64 C S n i ∧ fsC V 64 C S n i < 18446744073709551616) := Lib.hid (fun i _ => fst_rng (.inr rfl) ok.rc hS0 hS1 _ _)
  have HYOK : Hid (∀ bo, YOk (yOf V 64 C P S bo n m)) := Lib.hid (fun bo => yOf_ok hokn hm)
  obtain ⟨Cu, hCu⟩ : ∃ x, x = nCu V n := ⟨_, rfl⟩
  obtain ⟨Cl, hCl⟩ : ∃ x, x = nCl V n := ⟨_, rfl⟩
  obtain ⟨Ti, hTi⟩ : ∃ x, x = nTi V n := ⟨_, rfl⟩
  obtain ⟨Se, hSe⟩ : ∃ x, x = nSe V n := ⟨_, rfl⟩
  obtain ⟨Ne, hNe⟩ : ∃ x, x = nNe V n := ⟨_, rfl⟩
  obtain ⟨Ma, hMa⟩ : ∃ x, x = nMa V n := ⟨_, rfl⟩
  obtain ⟨Sl, hSl⟩ : ∃ x, x = nSl V n C := ⟨_, rfl⟩
  have hLay : ∀ u, layV V 64 C P S u n = (.agg #[.int .i64 V, .int .i64 64, .int .i64 C, .int .i64 P, .int .u64 S, u, .int .i64 Cu, .int .i64 Cl, .int .i64 Ti, .int .i64 Se, .int .i64 Ne, .int .i64 Ma, .int .i64 Sl, .int .i64 m]) := fun u => by unfold layV; rw [hCu, hCl, hTi, hSe, hNe, hMa, hSl, hm]
  have HLAY := Lib.hid hLay
  have HCO := Lib.hid CO
  have HCNW := Lib.hid CNW
  have HCNO := Lib.hid CNO
  have HCRN := Lib.hid CRN
  have HE := Lib.hid E
  have HDO := Lib.hid hdo
  have HDR := Lib.hid hdr
  have HDL := Lib.hid hdl
  have HN0 := Lib.hid hn0
  have hm5 : m ≤ 500 := by rw [← hn0] at hbd; omega
  rw [← hn0] at HCL HCR ⊢
  clear CL CR CO CNW CNO CRN h hb E hll hg ok hok hokn hbd hn hLay hCu hCl hTi hSe hNe hMa hSl hm hn0 hdo hdr hdl hS0 hS1 HLS
  generalize hF : fsC V 64 C S n = F at *
  have HFF := Lib.hid hF
  generalize hY : (fun bo => yOf V 64 C P S bo n m) = Y0 at *
  have HY0 : Hid (∀ bo, yOf V 64 C P S bo n m = Y0 bo) := Lib.hid (fun bo => by rw [← hY])
  clear hF hY
  go_enter Tryz.func3, Tryz.ntmps3
  go_wp2_with fail
  refine (HCL.out _ (by repeat (first | with_reducible exact Ext.refl _ | with_reducible assumption | with_reducible refine Ext.alloc ?_ _ | with_reducible refine Ext.drew ?_ | with_reducible refine Ext.drewN ?_ _ | with_reducible refine Ext.setCell ?_ (by simp <;> omega) _ | with_reducible refine Ext.trans ?_ (by assumption)))).mono ?_
  rintro e w' ⟨rfl, rfl⟩
  go_wp2_with fail
  refine (HCR.out _ (by repeat (first | with_reducible exact Ext.refl _ | with_reducible assumption | with_reducible refine Ext.alloc ?_ _ | with_reducible refine Ext.drew ?_ | with_reducible refine Ext.drewN ?_ _ | with_reducible refine Ext.setCell ?_ (by simp <;> omega) _ | with_reducible refine Ext.trans ?_ (by assumption)))).mono ?_
  rintro e w1 ⟨rfl, hb1⟩
  obtain ⟨hc1, hf1⟩ := hb1.cells
  clear hc1 hf1
  have qc_0 : w1.cell? ⟨w.heap.size, 0, none⟩ = some (.int .i64 V) := (hb1.cells.1 _ _ (by simp <;> omega)).trans (by simp [go_sem])
  have qc_1 : w1.cell? ⟨w.heap.size, 1, none⟩ = some (.int .i64 64) := (hb1.cells.1 _ _ (by simp <;> omega)).trans (by simp [go_sem])
  have qc_2 : w1.cell? ⟨w.heap.size, 2, none⟩ = some (.int .i64 C) := (hb1.cells.1 _ _ (by simp <;> omega)).trans (by simp [go_sem])
  have qc_3 : w1.cell? ⟨w.heap.size, 3, none⟩ = some (.int .i64 P) := (hb1.cells.1 _ _ (by simp <;> omega)).trans (by simp [go_sem])
  have qc_4 : w1.cell? ⟨w.heap.size, 4, none⟩ = some (.int .u64 (S)) := (hb1.cells.1 _ _ (by simp <;> omega)).trans (by simp [go_sem])
  have qc_5 : w1.cell? ⟨w.heap.size, 5, none⟩ = some (.slice a n cap) := (hb1.cells.1 _ _ (by simp <;> omega)).trans (by simp [go_sem])
  have pc := World.block_lt_of_cell? _ ⟨w.heap.size, 0, none⟩ qc_0
  have rc := Nat.lt_succ_of_lt pc
  go_wp2_with fail
  have E1 : Ext w w1 := by repeat (first | with_reducible exact Ext.refl _ | with_reducible assumption | with_reducible refine Ext.alloc ?_ _ | with_reducible refine Ext.drew ?_ | with_reducible refine Ext.drewN ?_ _ | with_reducible refine Ext.setCell ?_ (by simp <;> omega) _ | with_reducible refine Ext.trans ?_ (by assumption))
  refine (HCO.out _ E1).mono ?_
  rintro e wo ⟨uo, rfl, Oo, Xo⟩
  obtain ⟨bo, fo, cuo, eo, -⟩ := id Oo
  rw [← HN0.out] at eo ⊢
  subst eo
  rw [HLAY.out]
  have xo := E1.trans Xo
  have HOo := Lib.hid (Oo.ext ((Ext.refl wo).alloc (.cells #[.int .i64 V, .int .i64 64, .int .i64 C, .int .i64 P, .int .u64 S, .slice (some ⟨bo, 0, none⟩) n n, .int .i64 Cu, .int .i64 Cl, .int .i64 Ti, .int .i64 Se, .int .i64 Ne, .int .i64 Ma, .int .i64 Sl, .int .i64 m] 31)))
  replace qc_0 := Xo.cell qc_0
  replace qc_1 := Xo.cell qc_1
  replace qc_2 := Xo.cell qc_2
  replace qc_3 := Xo.cell qc_3
  replace qc_4 := Xo.cell qc_4
  replace qc_5 := Xo.cell qc_5
  clear Xo Oo E1
  go_upto_region 4 with (fail)
  refine settle_wp ?_
  intro wA hbA
  have XA : Ext wo wA := Ext.trans ((Ext.refl wo).alloc _) hbA
  have ql_0 : wA.cell? ⟨wo.heap.size, 0, none⟩ = some (.int .i64 V) := hbA.cell (by simp [go_sem])
  have ql_1 : wA.cell? ⟨wo.heap.size, 1, none⟩ = some (.int .i64 64) := hbA.cell (by simp [go_sem])
  have ql_2 : wA.cell? ⟨wo.heap.size, 2, none⟩ = some (.int .i64 C) := hbA.cell (by simp [go_sem])
  have ql_3 : wA.cell? ⟨wo.heap.size, 3, none⟩ = some (.int .i64 P) := hbA.cell (by simp [go_sem])
  have ql_4 : wA.cell? ⟨wo.heap.size, 4, none⟩ = some (.int .u64 S) := hbA.cell (by simp [go_sem])
  have ql_5 : wA.cell? ⟨wo.heap.size, 5, none⟩ = some (.slice (some ⟨bo, 0, none⟩) n n) := hbA.cell (by simp [go_sem])
  have ql_6 : wA.cell? ⟨wo.heap.size, 6, none⟩ = some (.int .i64 Cu) := hbA.cell (by simp [go_sem])
  have ql_7 : wA.cell? ⟨wo.heap.size, 7, none⟩ = some (.int .i64 Cl) := hbA.cell (by simp [go_sem])
  have ql_8 : wA.cell? ⟨wo.heap.size, 8, none⟩ = some (.int .i64 Ti) := hbA.cell (by simp [go_sem])
  have ql_9 : wA.cell? ⟨wo.heap.size, 9, none⟩ = some (.int .i64 Se) := hbA.cell (by simp [go_sem])
  have ql_10 : wA.cell? ⟨wo.heap.size, 10, none⟩ = some (.int .i64 Ne) := hbA.cell (by simp [go_sem])
  have ql_11 : wA.cell? ⟨wo.heap.size, 11, none⟩ = some (.int .i64 Ma) := hbA.cell (by simp [go_sem])
  have ql_12 : wA.cell? ⟨wo.heap.size, 12, none⟩ = some (.int .i64 Sl) := hbA.cell (by simp [go_sem])
  have ql_13 : wA.cell? ⟨wo.heap.size, 13, none⟩ = some (.int .i64 m) := hbA.cell (by simp [go_sem])
  replace qc_0 := XA.cell qc_0
  replace qc_1 := XA.cell qc_1
  replace qc_2 := XA.cell qc_2
  replace qc_3 := XA.cell qc_3
  replace qc_4 := XA.cell qc_4
  replace qc_5 := XA.cell qc_5
  have EWA := xo.trans XA
  have HOA := Lib.hid (HOo.out.ext hbA)
  clear hbA XA HOo xo
  refine wp_region_held_drew (S := fun w' => Ext wA w') (by kernel_rfl) ?hbeg (fun hHeld => ?_)
  case hbeg => exact (Ext.refl wA).drew
  have l_0 := fun w' (hx : Ext wA w') => hx.cell ql_0
  have l_1 := fun w' (hx : Ext wA w') => hx.cell ql_1
  have l_2 := fun w' (hx : Ext wA w') => hx.cell ql_2
  have l_3 := fun w' (hx : Ext wA w') => hx.cell ql_3
  have l_4 := fun w' (hx : Ext wA w') => hx.cell ql_4
  have l_5 := fun w' (hx : Ext wA w') => hx.cell ql_5
  have l_6 := fun w' (hx : Ext wA w') => hx.cell ql_6
  have l_7 := fun w' (hx : Ext wA w') => hx.cell ql_7
  have l_8 := fun w' (hx : Ext wA w') => hx.cell ql_8
  have l_9 := fun w' (hx : Ext wA w') => hx.cell ql_9
  have l_10 := fun w' (hx : Ext wA w') => hx.cell ql_10
  have l_11 := fun w' (hx : Ext wA w') => hx.cell ql_11
  have l_12 := fun w' (hx : Ext wA w') => hx.cell ql_12
  have l_13 := fun w' (hx : Ext wA w') => hx.cell ql_13
  have c_0 := fun w' (hx : Ext wA w') => hx.cell qc_0
  have c_1 := fun w' (hx : Ext wA w') => hx.cell qc_1
  have c_2 := fun w' (hx : Ext wA w') => hx.cell qc_2
  have c_3 := fun w' (hx : Ext wA w') => hx.cell qc_3
  have c_4 := fun w' (hx : Ext wA w') => hx.cell qc_4
  have c_5 := fun w' (hx : Ext wA w') => hx.cell qc_5
  refine take_at (i := 0) (v := ?_) rfl rfl (by kernel_rfl) (by kernel_rfl) (by kernel_rfl) (fun _ _ _ h => h) (Or.inl ⟨by rfl, ?hy⟩) (by assumption) ?_
  case hy => (intro wz hSw; (try dsimp only at hSw); go_simp <;> with_reducible rfl)
  simp only [List.setIfInBounds_toArray, List.set_cons_zero, List.set_cons_succ]
  refine take_at (i := 2) (v := ?_) rfl rfl (by kernel_rfl) (by kernel_rfl) (by kernel_rfl) (fun _ _ _ h => h) (Or.inl ⟨by rfl, ?hy⟩) (by assumption) ?_
  case hy => (intro wz hSw; (try dsimp only at hSw); go_simp <;> with_reducible rfl)
  simp only [List.setIfInBounds_toArray, List.set_cons_zero, List.set_cons_succ]
  refine take_at (i := 4) (v := ?_) rfl rfl (by kernel_rfl) (by kernel_rfl) (by kernel_rfl) (fun _ _ _ h => h) (Or.inl ⟨by rfl, ?hy⟩) (by assumption) ?_
  case hy => (intro wz hSw; (try dsimp only at hSw); go_simp <;> with_reducible rfl)
  simp only [List.setIfInBounds_toArray, List.set_cons_zero, List.set_cons_succ]
  clear l_0 l_1 l_2 l_3 l_4 l_5 l_6 l_7 l_8 l_9 l_10 l_11 l_12 l_13 c_0 c_1 c_2 c_3 c_4 c_5
  refine call_at (i := 1) (F := 10) (HCNO.out bo _ (HOA.out.ext hHeld) Cu Cl Ti Se Ne Ma Sl) rfl rfl (by kernel_rfl) (by rfl) (by first | rfl | (go_simp <;> rfl)) ?_
  rintro e w5 ⟨rfl, X5⟩
  replace hHeld := hHeld.trans X5
  refine ⟨_, rfl, hHeld, ?_⟩
  simp only [List.setIfInBounds_toArray, List.set_cons_zero, List.set_cons_succ]
  refine call_at (i := 3) (F := 11) (HCNW.out bo _ (HOA.out.ext hHeld) Cu Cl Ti Se Ne Ma Sl) rfl rfl (by kernel_rfl) (by rfl) (by first | rfl | (go_simp <;> rfl)) ?_
  rintro e w3 ⟨b, g, bo3, rfl, B3, O3, X3, hb3, hg3⟩
  replace hb3 := Nat.le_trans hHeld.size hb3
  replace hg3 := Nat.le_trans hHeld.size hg3
  replace hHeld := hHeld.trans X3
  refine ⟨_, rfl, hHeld, ?_⟩
  simp only [List.setIfInBounds_toArray, List.set_cons_zero, List.set_cons_succ]
  rw [← HN0.out, HFF.out] at B3
  rw [← HN0.out] at O3
  refine call_at (i := 5) (F := 12) (HCRN.out _) rfl rfl (by kernel_rfl) (by rfl) (by first | rfl | (go_simp <;> rfl)) ?_
  rintro e w4 ⟨b', r, rfl, R4, rm, rW, rC, rk, X4, hb4, hg4⟩
  rw [HFF.out] at R4
  have HREL := Lib.hid (HRO.out bo3 r rm rW rC rk)
  have HTWO0 := Lib.hid (two_new B3 hHeld hb3 hg3 R4 X4 hb4 hg4)
  have HOW0 := Lib.hid (O3.ext X4)
  have HYO0 := Lib.hid (HYOK.out bo3)
  have HLC0 := Lib.hid (HLC.out bo3)
  have HKD0 := Lib.hid (HKD.out bo3)
  have HNAR0 : Hid (Nar (yOf V 64 C P S bo3 n m) 64 F) := Lib.hid (nar64 _ _)
  have hYm : (yOf V 64 C P S bo3 n m).m = m := rfl
  rw [HY0.out] at HREL HTWO0 HYO0 HLC0 HKD0 HNAR0 hYm
  replace hHeld := hHeld.trans X4
  refine ⟨_, rfl, hHeld, ?_⟩
  simp only [List.setIfInBounds_toArray, List.set_cons_zero, List.set_cons_succ]
  generalize Y0 bo3 = y at *
  clear B3 O3 R4 rW rC rk X4 HCNW HCNO HCRN HCO HLAY HCL HCR HRO HOA HYOK HLC HKD hb3 hg3 hb4 hg4 X3 X5 ql_0 ql_1 ql_2 ql_3 ql_4 ql_5 ql_6 ql_7 ql_8 ql_9 ql_10 ql_11 ql_12 ql_13
  refine take_at (i := 6) (v := ?_) rfl rfl (by kernel_rfl) (by kernel_rfl) (by kernel_rfl) (fun _ _ _ h => h) (Or.inl ⟨by rfl, ?hy⟩) (by assumption) ?_
  case hy => (intro wz hSw; (try dsimp only at hSw); go_simp <;> with_reducible rfl)
  simp only [List.setIfInBounds_toArray, List.set_cons_zero, List.set_cons_succ]
  refine take_at (i := 7) (v := ?_) rfl rfl (by kernel_rfl) (by kernel_rfl) (by kernel_rfl) (fun _ _ _ h => h) (Or.inl ⟨by rfl, ?hy⟩) (by assumption) ?_
  case hy => (intro wz hSw; (try dsimp only at hSw); go_simp <;> with_reducible rfl)
  simp only [List.setIfInBounds_toArray, List.set_cons_zero, List.set_cons_succ]
  refine take_at (i := 8) (v := ?_) rfl rfl (by kernel_rfl) (by kernel_rfl) (by kernel_rfl) (fun _ _ _ h => h) (Or.inl ⟨by rfl, ?hy⟩) (by assumption) ?_
  case hy => (intro wz hSw; (try dsimp only at hSw); go_simp <;> with_reducible rfl)
  simp only [List.setIfInBounds_toArray, List.set_cons_zero, List.set_cons_succ]
  refine wpAnyH_done (by kernel_rfl) ?_ _
  have qw := hHeld.cell qc_1
  clear hHeld
  go_wp2
  go_loopw [10] (fun i wr => ∃ k : Nat, k ≤ len2 ∧ i = .int .i64 k ∧ ∃ f lv lv' log, Two wA wr 75 b g y f lv log b' r f lv' log ∧ Chain y.m F f log ∧ Nar y 64 f ∧ log.length ≤ k ∧ OwnL wr (.slice (some ⟨bo3, 0, none⟩) n n) ups) (fun i _ => len2 - (intOf i).toNat)
  case atStart => exact ⟨0, Nat.zero_le _, rfl, F, _, _, [], HTWO0.out, Chain.nil (by rw [hYm]; exact HRNG.out), HNAR0.out, Nat.le_refl _, HOW0.out⟩
  case round =>
    clear qw
    obtain ⟨k, hk, rfl, f, lv, lv', log, hT, hC, hN, hL, hO⟩ := hrel
    have hx := hT.ex
    by_cases hlt : k < len2
    · have hkl : (k : Int) < (len2 : Int) := by omega
      have hkd : k < ds.length := by rw [HDL.out]; exact hlt
      obtain ⟨db, doff, ea, hcell⟩ := HDR.out k hkd
      subst ea
      have hok := HDO.out _ (List.getElem_mem hkd)
      obtain ⟨_, _, _, _, wo', wz'⟩ := hok
      obtain ⟨o0, o1⟩ := wf_u64 wo'
      obtain ⟨z0, z1⟩ := wf_u64 wz'
      have CS := Lib.hid (great_step b g y f lv log ds[k] wr hT.B HYO0.out (HE.out.ext (EWA.trans hx)) (by omega) hC.rng o0 o1 z0 z1)
      have CM := Lib.hid (fun w' (hR : RB w' b' r f lv' log) => model_step b' r y 64 f lv' log ds[k] w' hR HREL.out (.inr rfl) hN (by omega) hC.rng o0 z0)
      have HCELL : Hid (∀ w', Ext wA w' → w'.cell? ⟨db, doff + k * 6, none⟩ = some (.int .i64 ds[k].t) ∧ w'.cell? ⟨db, doff + k * 6 + 1, none⟩ = some (.int .i64 ds[k].k) ∧ w'.cell? ⟨db, doff + k * 6 + 2, none⟩ = some (.int .i64 ds[k].c) ∧ w'.cell? ⟨db, doff + k * 6 + 3, none⟩ = some (.int .i64 ds[k].n) ∧ w'.cell? ⟨db, doff + k * 6 + 4, none⟩ = some (.int .u64 ds[k].o) ∧ w'.cell? ⟨db, doff + k * 6 + 5, none⟩ = some (.int .u64 ds[k].z)) := Lib.hid (fun w' hx' => ⟨(EWA.trans hx').cell (hcell 0 _ rfl), (EWA.trans hx').cell (hcell 1 _ rfl), (EWA.trans hx').cell (hcell 2 _ rfl), (EWA.trans hx').cell (hcell 3 _ rfl), (EWA.trans hx').cell (hcell 4 _ rfl), (EWA.trans hx').cell (hcell 5 _ rfl)⟩)
      have HST := Lib.hid (hC.stp 64 (.inr rfl) ds[k] z0 z1)
      have HNS := Lib.hid (hN.stp ds[k] log)
      have HSL := Lib.hid (stp_len y 64 (.inr rfl) ds[k] f log hC.rng z0 z1)
      have HT := Lib.hid hT
      have HO := Lib.hid hO
      have HLL := Lib.hid hL
      have qw := hx.cell qc_1
      generalize ds[k] = d at *
      generalize (stp y 64 d f log).v = sv at *
      generalize (stp y 64 d f log).b = sb at *
      obtain ⟨c0, c1, c2, c3, c4, c5⟩ := HCELL.out wr hx
      clear hT hC hN hL hO hx hcell wo' wz' o0 o1 z0 z1 hkd
      go_wp2_with fail
      refine CS.out.mono ?_
      rintro e w5 ⟨rfl, lv5, B5, T5, A5⟩
      have T2 := HT.out.stepB (by decide) B5 T5 A5
      have HO5 := Lib.hid (HO.out.but T5 (HT.out.B.own (by decide) (by decide)))
      have HT2 := Lib.hid T2
      have hx5 := T2.ex
      clear B5 T5 A5 c0 c1 c2 c3 c4 c5 T2 qw
      obtain ⟨c0, c1, c2, c3, c4, c5⟩ := HCELL.out w5 hx5
      go_wp2_with fail
      refine (CM.out _ HT2.out.R).mono ?_
      rintro e w6 ⟨rfl, lv6, R6, T6, A6⟩
      have HT3 := Lib.hid (HT2.out.stepR R6 T6 A6)
      have HO6 := Lib.hid (HO5.out.but T6 HT2.out.R.own)
      clear R6 T6 A6 c0 c1 c2 c3 c4 c5 hx5
      go_wp2
      exact ⟨⟨k + 1, by omega, by go_num, _, lv5, lv6, _, HT3.out, HST.out, HNS.out, by have := HSL.out; have := HLL.out; omega, HO6.out⟩, by simp [intOf]; omega⟩
    · obtain rfl : k = len2 := by omega
      have hlog : log.length ≤ 200 := by omega
      have HT := Lib.hid hT
      have HO := Lib.hid hO
      have q7 := hT.R.q7
      rw [rm] at q7
      clear hT hC hN hL hO HDO HDR HDL HREL
      go_wp2
      go_loopw [15] (fun i wr2 => ∃ k2 : Nat, k2 ≤ m ∧ i = .int .i64 k2 ∧ Ext wr wr2) (fun i _ => m - (intOf i).toNat)
      case atStart => exact ⟨0, Nat.zero_le _, rfl, Ext.refl _⟩
      case round =>
        obtain ⟨k2, hk2, rfl, hx2⟩ := hrel
        by_cases h2 : k2 < m
        · have h2m : (k2 : Int) < (m : Int) := by omega
          have CP := Lib.hid (fun w' (hx' : Ext wr w') => Peek64 b g y f lv log k2 w' (HT.out.ext (hx2.trans hx')).B HYO0.out (HE.out.ext (EWA.trans (HT.out.ex.trans (hx2.trans hx')))) (HKD0.out k2 h2))
          have T := HT.out.ext hx2
          have p7 := T.R.q7
          rw [rm] at p7
          have pc := T.R.va.c k2 (by rw [rm]; exact h2)
          try dsimp only at pc
          have qw := T.ex.cell qc_1
          have HX := Lib.hid hx2
          generalize f k2 = x at *
          clear hx2 T q7
          go_upto_region 20 with (fail)
          refine wp_region_later (by kernel_rfl) (by kernel_rfl) ?_
          have l7 := fun (g : Later wr) => g.ok.cell p7
          have lc := fun (g : Later wr) => g.ok.cell pc
          have lw := fun (g : Later wr) => g.ok.cell qw
          repeat (go_big_quiet_step ((fail)))
          go_big_quiet_step ((go_at_call 17; exact laterC (CP.out _ (Later.ok _))))
          repeat (go_big_quiet_step ((fail)))
          refine wpQuiet_nil ?_
          intro w4 hl4
          have HX4 := Lib.hid (HX.out.trans (laters_ext hl4))
          clear hl4 l7 lc lw p7 pc qw CP
          go_wp2
          exact ⟨⟨k2 + 1, by omega, by go_num, HX4.out⟩, by simp [intOf]; omega⟩
        · obtain rfl : k2 = m := by omega
          have T := HT.out.ext hx2
          have p7 := T.R.q7
          rw [rm] at p7
          have q8 := T.R.q8
          have qw := T.ex.cell qc_1
          obtain ⟨al, cal, el, -⟩ := rowA_form T.R.row
          subst el
          have CLG := Lib.hid (fun w' (hx' : Ext wr w') => Log64 b g y f lv log w' (T.ext hx').B (by omega))
          have CSA := Lib.hid (fun v base w' (hr : w'.ownsRow base 91 5 v log.length (rowA log)) (hx' : Ext wr w') => rSame12 base 0 v _ log w' hr (T.ext hx').R.row (by omega))
          have CLN := Lib.hid (fun w' (hx' : Ext wr w') => Len64 b g y f lv log w' (T.ext hx').B)
          have CLY := Lib.hid (fun w' (hx' : Ext wr w') => HLC0.out w' b g f lv log (T.ext hx').B ((HO.out.ext hx2).ext hx'))
          have HEW := EWA.trans T.ex
          have hfld : ∀ (u : Value) (x1 x2 x3 x4 x5 x6 x7 x8 : Int) (w : World), (Instr.field 31 (.agg #[.int .i64 V, .int .i64 64, .int .i64 C, .int .i64 P, .int .u64 S, u, .int .i64 x1, .int .i64 x2, .int .i64 x3, .int .i64 x4, .int .i64 x5, .int .i64 x6, .int .i64 x7, .int .i64 x8]) 0).run Tryz.prog w = .ok (.agg #[.int .i64 V, .int .i64 64, .int .i64 C, .int .i64 P, .int .u64 (S), u]) w := fun u x1 x2 x3 x4 x5 x6 x7 x8 w => by kernel_rfl
          have p_0 := T.ex.cell qc_0
          have p_2 := T.ex.cell qc_2
          have p_3 := T.ex.cell qc_3
          have p_4 := T.ex.cell qc_4
          have p_5 := T.ex.cell qc_5
          clear T hx2 HT HO HLC0 q7 qc_0 qc_1 qc_2 qc_3 qc_4 qc_5 HTWO0 HOW0 HNAR0 HKD0 HYO0
          go_upto_region 24 with (fail)
          refine wp_region_held_drew (S := fun w' => Ext wr w') (by kernel_rfl) ?hbeg2 (fun hHeld => ?_)
          case hbeg2 => exact (Ext.refl wr).drew
          have l8 := fun w' (hx : Ext wr w') => hx.cell q8
          have c_0 := fun w' (hx : Ext wr w') => hx.cell p_0
          have c_1 := fun w' (hx : Ext wr w') => hx.cell qw
          have c_2 := fun w' (hx : Ext wr w') => hx.cell p_2
          have c_3 := fun w' (hx : Ext wr w') => hx.cell p_3
          have c_4 := fun w' (hx : Ext wr w') => hx.cell p_4
          have c_5 := fun w' (hx : Ext wr w') => hx.cell p_5
          refine take_at (i := 0) (v := ?_) rfl rfl (by kernel_rfl) (by kernel_rfl) (by kernel_rfl) (fun _ _ _ h => h) (Or.inl ⟨by rfl, ?hy⟩) (by assumption) ?_
          case hy => (intro wz hSw; (try dsimp only at hSw); go_simp <;> with_reducible rfl)
          simp only [List.setIfInBounds_toArray, List.set_cons_zero, List.set_cons_succ]
          refine take_at (i := 2) (v := ?_) rfl rfl (by kernel_rfl) (by kernel_rfl) (by kernel_rfl) (fun _ _ _ h => h) (Or.inl ⟨by rfl, ?hy⟩) (by assumption) ?_
          case hy => (intro wz hSw; (try dsimp only at hSw); go_simp <;> with_reducible rfl)
          simp only [List.setIfInBounds_toArray, List.set_cons_zero, List.set_cons_succ]
          refine take_at (i := 3) (v := ?_) rfl rfl (by kernel_rfl) (by kernel_rfl) (by kernel_rfl) (fun _ _ _ h => h) (Or.inl ⟨by rfl, ?hy⟩) (by assumption) ?_
          case hy => (intro wz hSw; (try dsimp only at hSw); go_simp <;> with_reducible rfl)
          simp only [List.setIfInBounds_toArray, List.set_cons_zero, List.set_cons_succ]
          refine take_at (i := 4) (v := ?_) rfl rfl (by kernel_rfl) (by kernel_rfl) (by kernel_rfl) (fun _ _ _ h => h) (Or.inl ⟨by rfl, ?hy⟩) (by assumption) ?_
          case hy => (intro wz hSw; (try dsimp only at hSw); go_simp <;> with_reducible rfl)
          simp only [List.setIfInBounds_toArray, List.set_cons_zero, List.set_cons_succ]
          refine take_at (i := 5) (v := ?_) rfl rfl (by kernel_rfl) (by kernel_rfl) (by kernel_rfl) (fun _ _ _ h => h) (Or.inl ⟨by rfl, ?hy⟩) (by assumption) ?_
          case hy => (intro wz hSw; (try dsimp only at hSw); go_simp <;> with_reducible rfl)
          simp only [List.setIfInBounds_toArray, List.set_cons_zero, List.set_cons_succ]
          refine call_at (i := 1) (F := 23) (CLG.out _ hHeld) rfl rfl (by kernel_rfl) (by rfl) (by first | rfl | (go_simp <;> rfl)) ?_
          rintro e w3 ⟨v, rfl, R3, X3⟩
          replace hHeld := hHeld.trans X3
          refine ⟨_, rfl, hHeld, ?_⟩
          simp only [List.setIfInBounds_toArray, List.set_cons_zero, List.set_cons_succ]
          refine call_at (i := 6) (F := 18) (CSA.out v _ _ R3 hHeld) rfl rfl (by kernel_rfl) (by rfl) (by first | rfl | (go_simp <;> rfl)) ?_
          rintro e w4 ⟨rfl, X4⟩
          replace hHeld := hHeld.trans X4
          refine ⟨_, rfl, hHeld, ?_⟩
          simp only [List.setIfInBounds_toArray, List.set_cons_zero, List.set_cons_succ]
          clear R3
          refine take_at (i := 7) (v := ?_) rfl rfl (by kernel_rfl) (by kernel_rfl) (by kernel_rfl) (fun _ _ _ h => h) (Or.inl ⟨by rfl, ?hy⟩) (by assumption) ?_
          case hy => (intro wz hSw; (try dsimp only at hSw); go_simp <;> with_reducible rfl)
          simp only [List.setIfInBounds_toArray, List.set_cons_zero, List.set_cons_succ]
          refine take_at (i := 8) (v := ?_) rfl rfl (by kernel_rfl) (by kernel_rfl) (by kernel_rfl) (fun _ _ _ h => h) (Or.inl ⟨by rfl, ?hy⟩) (by assumption) ?_
          case hy => (intro wz hSw; (try dsimp only at hSw); go_simp <;> with_reducible rfl)
          simp only [List.setIfInBounds_toArray, List.set_cons_zero, List.set_cons_succ]
          refine take_at (i := 10) (v := ?_) rfl rfl (by kernel_rfl) (by kernel_rfl) (by kernel_rfl) (fun _ _ _ h => h) (Or.inl ⟨by rfl, ?hy⟩) (by assumption) ?_
          case hy => (intro wz hSw; (try dsimp only at hSw); go_simp <;> with_reducible rfl)
          simp only [List.setIfInBounds_toArray, List.set_cons_zero, List.set_cons_succ]
          refine take_at (i := 11) (v := ?_) rfl rfl (by kernel_rfl) (by kernel_rfl) (by kernel_rfl) (fun _ _ _ h => h) (Or.inl ⟨by rfl, ?hy⟩) (by assumption) ?_
          case hy => (intro wz hSw; (try dsimp only at hSw); go_simp <;> with_reducible rfl)
          simp only [List.setIfInBounds_toArray, List.set_cons_zero, List.set_cons_succ]
          refine take_at (i := 12) (v := ?_) rfl rfl (by kernel_rfl) (by kernel_rfl) (by kernel_rfl) (fun _ _ _ h => h) (Or.inl ⟨by rfl, ?hy⟩) (by assumption) ?_
          case hy => (intro wz hSw; (try dsimp only at hSw); go_simp <;> with_reducible rfl)
          simp only [List.setIfInBounds_toArray, List.set_cons_zero, List.set_cons_succ]
          refine take_at (i := 13) (v := ?_) rfl rfl (by kernel_rfl) (by kernel_rfl) (by kernel_rfl) (fun _ _ _ h => h) (Or.inl ⟨by rfl, ?hy⟩) (by assumption) ?_
          case hy => (intro wz hSw; (try dsimp only at hSw); go_simp <;> with_reducible rfl)
          simp only [List.setIfInBounds_toArray, List.set_cons_zero, List.set_cons_succ]
          refine take_at (i := 14) (v := ?_) rfl rfl (by kernel_rfl) (by kernel_rfl) (by kernel_rfl) (fun _ _ _ h => h) (Or.inl ⟨by rfl, ?hy⟩) (by assumption) ?_
          case hy => (intro wz hSw; (try dsimp only at hSw); go_simp <;> with_reducible rfl)
          simp only [List.setIfInBounds_toArray, List.set_cons_zero, List.set_cons_succ]
          refine call_at (i := 9) (F := 24) (CLN.out _ hHeld) rfl rfl (by kernel_rfl) (by rfl) (by first | rfl | (go_simp <;> rfl)) ?_
          rintro e w5 ⟨rfl, rfl⟩
          refine ⟨_, rfl, hHeld, ?_⟩
          simp only [List.setIfInBounds_toArray, List.set_cons_zero, List.set_cons_succ]
          refine take_at (i := 15) (v := ?_) rfl rfl (by kernel_rfl) (by kernel_rfl) (by kernel_rfl) (fun _ _ _ h => h) (Or.inl ⟨by rfl, ?hy⟩) (by assumption) ?_
          case hy => (intro wz hSw; (try dsimp only at hSw); go_simp <;> with_reducible rfl)
          simp only [List.setIfInBounds_toArray, List.set_cons_zero, List.set_cons_succ]
          refine take_at (i := 16) (v := ?_) rfl rfl (by kernel_rfl) (by kernel_rfl) (by kernel_rfl) (fun _ _ _ h => h) (Or.inl ⟨by rfl, ?hy⟩) (by assumption) ?_
          case hy => (intro wz hSw; (try dsimp only at hSw); go_simp <;> with_reducible rfl)
          simp only [List.setIfInBounds_toArray, List.set_cons_zero, List.set_cons_succ]
          refine take_at (i := 17) (v := ?_) rfl rfl (by kernel_rfl) (by kernel_rfl) (by kernel_rfl) (fun _ _ _ h => h) (Or.inl ⟨by rfl, ?hy⟩) (by assumption) ?_
          case hy => (intro wz hSw; (try dsimp only at hSw); go_simp <;> with_reducible rfl)
          simp only [List.setIfInBounds_toArray, List.set_cons_zero, List.set_cons_succ]
          refine take_at (i := 18) (v := ?_) rfl rfl (by kernel_rfl) (by kernel_rfl) (by kernel_rfl) (fun _ _ _ h => h) (Or.inl ⟨by rfl, ?hy⟩) (by assumption) ?_
          case hy => (intro wz hSw; (try dsimp only at hSw); go_simp <;> with_reducible rfl)
          simp only [List.setIfInBounds_toArray, List.set_cons_zero, List.set_cons_succ]
          refine take_at (i := 21) (v := ?_) rfl rfl (by kernel_rfl) (by kernel_rfl) (by kernel_rfl) (fun _ _ _ h => h) (Or.inl ⟨by rfl, ?hy⟩) (by assumption) ?_
          case hy => (intro wz hSw; (try dsimp only at hSw); go_simp <;> with_reducible rfl)
          simp only [List.setIfInBounds_toArray, List.set_cons_zero, List.set_cons_succ]
          refine call_at (i := 19) (F := 25) (CLY.out _ hHeld) rfl rfl (by kernel_rfl) (by rfl) (by first | rfl | (go_simp <;> rfl)) ?_
          rintro e w7 ⟨u, x1, x2, x3, x4, x5, x6, x7, x8, rfl, L7, X7⟩
          replace hHeld := hHeld.trans X7
          refine ⟨_, rfl, hHeld, ?_⟩
          simp only [List.setIfInBounds_toArray, List.set_cons_zero, List.set_cons_succ]
          refine take_at (i := 20) (v := ?_) rfl rfl (by kernel_rfl) (by kernel_rfl) (by kernel_rfl) (fun _ _ _ h => h) (Or.inl ⟨by rfl, ?hy⟩) (by assumption) ?_
          case hy => (intro wz hSw; (try dsimp only at hSw); go_simp <;> with_reducible rfl)
          simp only [List.setIfInBounds_toArray, List.set_cons_zero, List.set_cons_succ]
          refine call_at (i := 22) (F := 21) (CSM.out u _ L7 (HEW.trans hHeld)) rfl rfl (by kernel_rfl) (by rfl) (by first | rfl | (go_simp <;> rfl)) ?_
          rintro e w8 ⟨rfl, X8⟩
          replace hHeld := hHeld.trans X8
          refine ⟨_, rfl, hHeld, ?_⟩
          simp only [List.setIfInBounds_toArray, List.set_cons_zero, List.set_cons_succ]
          clear L7
          refine take_at (i := 23) (v := ?_) rfl rfl (by kernel_rfl) (by kernel_rfl) (by kernel_rfl) (fun _ _ _ h => h) (Or.inl ⟨by rfl, ?hy⟩) (by assumption) ?_
          case hy => (intro wz hSw; (try dsimp only at hSw); go_simp <;> with_reducible rfl)
          simp only [List.setIfInBounds_toArray, List.set_cons_zero, List.set_cons_succ]
          refine take_at (i := 24) (v := ?_) rfl rfl (by kernel_rfl) (by kernel_rfl) (by kernel_rfl) (fun _ _ _ h => h) (Or.inl ⟨by rfl, ?hy⟩) (by assumption) ?_
          case hy => (intro wz hSw; (try dsimp only at hSw); go_simp <;> with_reducible rfl)
          simp only [List.setIfInBounds_toArray, List.set_cons_zero, List.set_cons_succ]
          refine call_at (i := 25) (F := 8) (CV.out _ (HEW.trans hHeld)) rfl rfl (by kernel_rfl) (by rfl) (by first | rfl | (go_simp <;> rfl)) ?_
          rintro e w9 ⟨rfl, X9⟩
          replace hHeld := hHeld.trans X9
          refine ⟨_, rfl, hHeld, ?_⟩
          simp only [List.setIfInBounds_toArray, List.set_cons_zero, List.set_cons_succ]
          refine take_at (i := 26) (v := ?_) rfl rfl (by kernel_rfl) (by kernel_rfl) (by kernel_rfl) (fun _ _ _ h => h) (Or.inl ⟨by rfl, ?hy⟩) (by assumption) ?_
          case hy => (intro wz hSw; (try dsimp only at hSw); go_simp <;> with_reducible rfl)
          simp only [List.setIfInBounds_toArray, List.set_cons_zero, List.set_cons_succ]
          refine take_at (i := 27) (v := ?_) rfl rfl (by kernel_rfl) (by kernel_rfl) (by kernel_rfl) (fun _ _ _ h => h) (Or.inl ⟨by rfl, ?hy⟩) (by assumption) ?_
          case hy => (intro wz hSw; (try dsimp only at hSw); go_simp <;> with_reducible rfl)
          simp only [List.setIfInBounds_toArray, List.set_cons_zero, List.set_cons_succ]
          refine wpAnyH_done (by kernel_rfl) ?_ _
          have HEE := Lib.hid (HEW.trans hHeld)
          clear hHeld HEW l8 c_0 c_1 c_2 c_3 c_4 c_5 p_0 p_2 p_3 p_4 p_5 qw q8 p7
          go_wp2
          go_ret
          exact ⟨rfl, Ext.below HEE.out⟩
set_option maxRecDepth 100000 in
theorem boardPlays_walk (V W C P S : Int) (a : Option Addr) (len cap : Nat) (ups : List (List Int)) (a2 : Option Addr) (len2 cap2 : Nat) (ds : List DoR) (w : World) (wf : (Lit.int .i64 V).wf = true ∧ (Lit.int .i64 W).wf = true ∧ (Lit.int .i64 C).wf = true ∧ (Lit.int .i64 P).wf = true ∧ (Lit.int .u64 S).wf = true) (h : Came w a len cap ups) (hD : IsDos w a2 len2 cap2 ds) (E : Parts w) :
    Calls Tryz.prog 3 #[(.agg #[.int .i64 V, .int .i64 W, .int .i64 C, .int .i64 P, .int .u64 (S), .slice a len cap]), .slice a2 len2 cap2] w fun e w' => e = .returned (.bool true) ∧ Below w.heap.size w w' := by
  have hS := wf_u64 wf.2.2.2.2
  obtain ⟨hS0, hS1⟩ := hS
  clear wf
  have CL := fun w' (hx : Ext w w') => long _ ups w' (h.l.ext hx) (by rw [h.n]; exact h.m) (fun l hl => (h.each l hl).1)
  have CV := Lib.hid (fun w' (hx : Ext w w') => live12 w' (E.ext hx))
  cases hb : longB ups
  case true =>
    rw [hb] at CL
    have HCL := Lib.hid CL
    clear CL h hb E hD
    go_enter Tryz.func3, Tryz.ntmps3
    go_wp2_with fail
    refine (HCL.out _ (by repeat (first | with_reducible exact Ext.refl _ | with_reducible assumption | with_reducible refine Ext.alloc ?_ _ | with_reducible refine Ext.drew ?_ | with_reducible refine Ext.drewN ?_ _ | with_reducible refine Ext.setCell ?_ (by simp <;> omega) _ | with_reducible refine Ext.trans ?_ (by assumption)))).mono ?_
    rintro e w' ⟨rfl, rfl⟩
    go_wp2_with fail
    refine (CV.out _ (by repeat (first | with_reducible exact Ext.refl _ | with_reducible assumption | with_reducible refine Ext.alloc ?_ _ | with_reducible refine Ext.drew ?_ | with_reducible refine Ext.drewN ?_ _ | with_reducible refine Ext.setCell ?_ (by simp <;> omega) _ | with_reducible refine Ext.trans ?_ (by assumption)))).mono ?_
    rintro e w1 ⟨rfl, hb1⟩
    obtain ⟨hc1, hf1⟩ := hb1.cells
    go_wp2
    go_ret
    refine ⟨rfl, Ext.below ?_⟩
    repeat (first | with_reducible exact Ext.refl _ | with_reducible assumption | with_reducible refine Ext.alloc ?_ _ | with_reducible refine Ext.drew ?_ | with_reducible refine Ext.drewN ?_ _ | with_reducible refine Ext.setCell ?_ (by simp <;> omega) _ | with_reducible refine Ext.trans ?_ (by assumption))
  rw [hb] at CL
  have HCL := Lib.hid CL
  obtain ⟨hll, hn⟩ := came_small h hb
  obtain rfl := h.n
  have hd63 : len2 ≤ 9223372036854775807 := by have := hD.2.1; have := hD.2.2.1; unfold maxLen at this; omega
  by_cases h200 : 200 < len2
  · have d200 : decide ((200 : Int) < (len2 : Int)) = true := by simp; omega
    clear CL h hb E hD hll hn
    generalize ups.length = n at *
    go_enter Tryz.func3, Tryz.ntmps3
    go_wp2_with fail
    refine (HCL.out _ (by repeat (first | with_reducible exact Ext.refl _ | with_reducible assumption | with_reducible refine Ext.alloc ?_ _ | with_reducible refine Ext.drew ?_ | with_reducible refine Ext.drewN ?_ _ | with_reducible refine Ext.setCell ?_ (by simp <;> omega) _ | with_reducible refine Ext.trans ?_ (by assumption)))).mono ?_
    rintro e w' ⟨rfl, rfl⟩
    go_wp2_with fail
    refine (CV.out _ (by repeat (first | with_reducible exact Ext.refl _ | with_reducible assumption | with_reducible refine Ext.alloc ?_ _ | with_reducible refine Ext.drew ?_ | with_reducible refine Ext.drewN ?_ _ | with_reducible refine Ext.setCell ?_ (by simp <;> omega) _ | with_reducible refine Ext.trans ?_ (by assumption)))).mono ?_
    rintro e w2 ⟨rfl, hb2⟩
    obtain ⟨hc2, hf2⟩ := hb2.cells
    go_wp2
    go_ret
    refine ⟨rfl, Ext.below ?_⟩
    repeat (first | with_reducible exact Ext.refl _ | with_reducible assumption | with_reducible refine Ext.alloc ?_ _ | with_reducible refine Ext.drew ?_ | with_reducible refine Ext.drewN ?_ _ | with_reducible refine Ext.setCell ?_ (by simp <;> omega) _ | with_reducible refine Ext.trans ?_ (by assumption))
  have d200 : decide ((200 : Int) < (len2 : Int)) = false := by simp; omega
  have CR := fun w' (hx : Ext w w') => r10Right V W C P S _ ups w' (h.l.ext hx) hll hn
  by_cases hg : ckC V W C P ups = 0
  case neg =>
    rw [show (ckC V W C P ups == 0) = false by simpa using hg] at CR
    have HCR := Lib.hid CR
    clear CL CR h hb E hD hll hg hn
    generalize ups.length = n at *
    go_enter Tryz.func3, Tryz.ntmps3
    go_wp2_with fail
    refine (HCL.out _ (by repeat (first | with_reducible exact Ext.refl _ | with_reducible assumption | with_reducible refine Ext.alloc ?_ _ | with_reducible refine Ext.drew ?_ | with_reducible refine Ext.drewN ?_ _ | with_reducible refine Ext.setCell ?_ (by simp <;> omega) _ | with_reducible refine Ext.trans ?_ (by assumption)))).mono ?_
    rintro e w' ⟨rfl, rfl⟩
    go_wp2_with fail
    refine (HCR.out _ (by repeat (first | with_reducible exact Ext.refl _ | with_reducible assumption | with_reducible refine Ext.alloc ?_ _ | with_reducible refine Ext.drew ?_ | with_reducible refine Ext.drewN ?_ _ | with_reducible refine Ext.setCell ?_ (by simp <;> omega) _ | with_reducible refine Ext.trans ?_ (by assumption)))).mono ?_
    rintro e w3 ⟨rfl, hb3⟩
    obtain ⟨hc3, hf3⟩ := hb3.cells
    go_wp2_with fail
    refine (CV.out _ (by repeat (first | with_reducible exact Ext.refl _ | with_reducible assumption | with_reducible refine Ext.alloc ?_ _ | with_reducible refine Ext.drew ?_ | with_reducible refine Ext.drewN ?_ _ | with_reducible refine Ext.setCell ?_ (by simp <;> omega) _ | with_reducible refine Ext.trans ?_ (by assumption)))).mono ?_
    rintro e w4 ⟨rfl, hb4⟩
    obtain ⟨hc4, hf4⟩ := hb4.cells
    go_wp2
    go_ret
    refine ⟨rfl, Ext.below ?_⟩
    repeat (first | with_reducible exact Ext.refl _ | with_reducible assumption | with_reducible refine Ext.alloc ?_ _ | with_reducible refine Ext.drew ?_ | with_reducible refine Ext.drewN ?_ _ | with_reducible refine Ext.setCell ?_ (by simp <;> omega) _ | with_reducible refine Ext.trans ?_ (by assumption))
  have h2l : len2 ≤ 200 := by omega
  rcases (ok_iff.1 hg).wd with rfl | rfl
  · exact boardPlays32 V C P S a cap ups a2 len2 cap2 ds w hS0 hS1 h hD E hb h2l hg
  · exact boardPlays64 V C P S a cap ups a2 len2 cap2 ds w hS0 hS1 h hD E hb h2l hg
end Go.Proofs.YtaimmpcijdpgdabGreatDoor

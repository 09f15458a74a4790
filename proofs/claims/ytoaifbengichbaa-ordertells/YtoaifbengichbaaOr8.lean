/- order.rival. -/
import Derived.Test.YtoaifbengichbaaOr7
namespace Go.Proofs.Ytoaifbengichbaa
open Go.RowKit
open Go.WideElems (Fit rd rg rd_key rd_val rg_of)
set_option linter.unusedVariables false
set_option linter.unusedSimpArgs false
set_option maxHeartbeats 4000000
attribute [local go_sem] later_cell later_frozen later_const
theorem Ext.grownBy {w w' : World} (h : Ext w w') : w.grownBy w' none := ⟨h.os, h.tape, h.output, h.size, fun i hi _ => h.block i hi⟩
theorem TM.ext {w w' : World} {bm B : Nat} {ls : List Acc} {m : Nat} (h : TM w bm B ls m) (hx : Ext w w') : TM w' bm B ls m := by
  obtain ⟨D, ⟨es, ck, hb, F, hs, hD, hbb, hlen, hap⟩, h2⟩ := h
  have keep : ∀ {v : Value} {zs : List Int}, w.ownsInts B 3 .i64 v zs → w'.ownsInts B 3 .i64 v zs := fun {v zs} ho => ho.kept hx.grownBy (by cases v.ownBlock <;> simp)
  have one : ∀ x ∈ es.toList, ∀ z, rowElem (H := Unit) w B 3 .i64 x.val = some z → rowElem (H := Unit) w' B 3 .i64 x.val = some z := fun x _ z hz => by
    obtain ⟨zs, ho, rfl⟩ := rowElem_inv hz
    exact rowElem_mk (keep ho)
  obtain ⟨F', hmap⟩ := F.stay one
  refine ⟨D, ⟨es, ck, by rw [hx.block bm (Array.getElem?_eq_some_iff.1 hb).1]; exact hb, F', hs, by rw [hmap.1]; exact hD, hbb, fun x hxm zs ho => ?_, hap⟩, h2⟩
  obtain ⟨y, hy⟩ := F.reads x hxm
  obtain ⟨z, hz, _⟩ := rd_val hy
  obtain ⟨zs0, ho0, _⟩ := rowElem_inv hz
  rw [ho.unique (keep ho0)]
  exact hlen x hxm zs0 ho0
theorem idx0 (W : World) : (Instr.index 78 (.agg #[.int .i64 6, .int .i64 7]) (.int .i64 0)).run Try.prog W = .ok (.int .i64 6) W := by kernel_rfl
theorem idx1 (W : World) : (Instr.index 78 (.agg #[.int .i64 6, .int .i64 7]) (.int .i64 1)).run Try.prog W = .ok (.int .i64 7) W := by kernel_rfl
theorem wf_small {a : Int} (h0 : 0 ≤ a) (h1 : a < 1000) : (Lit.int .i64 a).wf = true := WalkArith.wf_i64 (by omega)
set_option maxRecDepth 100000 in
theorem oRival (n : Nat) (ls : List Acc) (v u : Value) (bm B j : Nat) (w : World) (hA : AccV w v ls) (hC : CkV w u (ck n ls ls.length)) (hT : TM w bm B ls j) (R : RL n ls) (hwf : WfL ls) (hj : j < ls.length) (hp : plB (A ls j).k = true) :
    Calls Try.prog 43 #[v, u, .map (some bm), .int .i64 j] w fun e w' => e = .returned (.int .i64 (rv n ls j)) ∧ Ext w w' := by
  obtain ⟨a, cap, rfl, hcap, hmax⟩ := hA.form
  obtain ⟨a2, cap2, rfl⟩ := hC.form
  have hL := R.l
  have n2 := R.n2
  have okj := cl_ok R j hj
  obtain ⟨b, off, ea, c0, c1, c2, c3, c4⟩ := hA.at (Ext.refl w) hj
  subst ea
  rw [A_at hj] at c0 c1 c2 c3 c4
  obtain ⟨b2, o2, uj, ea, qj, Ij⟩ := hC.at (Ext.refl w) (i := j) (by rw [ck_len]; exact hj)
  subst ea
  rw [ck_get n ls j _ hj] at Ij
  obtain ⟨aj, cj, euj⟩ := Ij.form
  rw [okj.len] at euj
  subst euj
  have HA := Lib.hid hA
  have HC := Lib.hid hC
  have HT := Lib.hid hT
  have HR := Lib.hid R
  have HP := Lib.hid hp
  have HWC := Lib.hid (hwf j hj)
  have hj' : (j : Int) < (ls.length : Int) := by omega
  have HJ := Lib.hid hj
  have HFIN : Hid (∀ M, Inv n ls j (fun t k => 0 ≤ t ∧ t < (n : Int)) M → rv n ls j = M) := Lib.hid (fun M h => h.fin R hj (fun t k h0 h1 _ _ => ⟨h0, h1⟩))
  generalize rv n ls j = RV at *
  rw [ck_len] at *
  obtain ⟨L, hLL⟩ : ∃ L, L = ls.length := ⟨_, rfl⟩
  have HLL := Lib.hid hLL
  rw [← hLL] at hcap hL hj' ⊢
  have KIND : Hid ((A ls j).k = 6 ∨ (A ls j).k = 7) := Lib.hid (by unfold plB at hp; simpa using hp)
  have CW := Lib.hid (fun w => oWrites (A ls j).k w)
  have CW6 := Lib.hid (fun w => oWrites 6 w)
  have CW7 := Lib.hid (fun w => oWrites 7 w)
  rw [show wrB 6 = false by decide] at CW6
  rw [show wrB 7 = true by decide] at CW7
  clear hA hC hT R hwf hp okj Ij hLL hj
  generalize hx : A ls j = x at *
  go_enter Try.func43, Try.ntmps43
  go_upto_region 1 with (fail)
  refine settle_wp ?_
  intro w1 hb1
  have X1 : Ext w w1 := Ext.trans (by repeat (first | with_reducible exact Ext.refl _ | with_reducible assumption | with_reducible refine Ext.alloc ?_ _ | with_reducible refine Ext.drew ?_ | with_reducible refine Ext.drewN ?_ _ | with_reducible refine Ext.setCell ?_ (by simp <;> omega) _ | with_reducible refine Ext.trans ?_ (by assumption))) hb1
  have qa : w1.cell? ⟨w.heap.size, 0, none⟩ = some (.slice (some ⟨b, off, none⟩) L cap) := hb1.cell (by simp [go_sem])
  have qb : w1.cell? ⟨w.heap.size + 1, 0, none⟩ = some (.slice (some ⟨b2, o2, none⟩) L cap2) := hb1.cell (by simp [go_sem])
  have qc : w1.cell? ⟨w.heap.size + 1 + 1, 0, none⟩ = some (.int .i64 j) := hb1.cell (by simp [go_sem])
  replace qj := X1.cell qj
  replace c1 := X1.cell c1
  replace c2 := X1.cell c2
  have HX1 := Lib.hid X1
  clear hb1 X1 c0 c3 c4
  go_wp2
  go_loopw [9, 21] (fun M i wr => ∃ T M' : Nat, T ≤ n ∧ i = .int .i64 T ∧ M = .int .i64 M' ∧ Inv n ls j (fun t k => 0 ≤ t ∧ t < (T : Int)) M' ∧ Ext w1 wr) (fun _ i _ => n - (intOf i).toNat)
  case atStart => exact ⟨0, j, Nat.zero_le _, rfl, rfl, (Inv.start n ls j).more (fun t k h1 h2 h3 => by omega), Ext.refl _⟩
  case round =>
    obtain ⟨T, M, hTn, rfl, rfl, hI, hxw⟩ := hrel
    by_cases hlt : T < n
    case neg =>
      obtain rfl : T = n := by omega
      have e := HFIN.out M hI
      subst e
      have HX := Lib.hid (HX1.out.trans hxw)
      clear hI hxw
      go_wp2
      go_ret
      exact ⟨rfl, HX.out⟩
    have hlt' : (T : Int) < (n : Int) := by omega
    have HI := Lib.hid hI
    have HXW := Lib.hid hxw
    clear hI hxw
    go_wp2
    go_loopw [9, 25] (fun M i wr => ∃ s M' : Nat, s ≤ 2 ∧ i = .int .i64 s ∧ M = .int .i64 M' ∧ Inv n ls j (fun t k => 0 ≤ t ∧ t < (T : Int) ∨ t = T ∧ k < 6 + (s : Int)) M' ∧ Ext w1 wr) (fun _ i _ => 2 - (intOf i).toNat)
    case atStart => exact ⟨0, M, by omega, rfl, rfl, HI.out.more (fun t k h1 h2 h3 => by rcases h1 with h1 | h1; exact h1; omega), HXW.out⟩
    case round =>
      obtain ⟨s, M2, hs, rfl, rfl, hI2, hx2⟩ := hrel
      clear HI HXW
      by_cases hs2 : s < 2
      case neg =>
        obtain rfl : s = 2 := by omega
        have HI2 := Lib.hid (hI2.more (d' := fun t k => 0 ≤ t ∧ t < ((T + 1 : Nat) : Int)) (fun t k h1 h2 h3 => by omega))
        have HX2 := Lib.hid hx2
        clear hI2 hx2
        go_wp2
        exact ⟨⟨T + 1, M2, by omega, by go_num, rfl, HI2.out, HX2.out⟩, by simp [intOf]; omega⟩
      have HX2 := Lib.hid hx2
      have ca := hx2.cell qa
      have cb := hx2.cell qb
      have cc := hx2.cell qc
      have cj := hx2.cell qj
      have ck1 := hx2.cell c1
      have ck2 := hx2.cell c2
      have HI2 := Lib.hid hI2
      clear hI2 hx2
      rcases (show s = 0 ∨ s = 1 by omega) with rfl | rfl
      · rw [show ((0 : Nat) : Int) = 0 from rfl]
        have hix := idx0
        by_cases hk7 : x.k = 7
        · rw [hk7, show wrB 7 = true by decide] at CW
          have STEP := HI2.out.step HR.out HJ.out (by rw [hx]; exact HP.out) (T : Int) 6 (by omega) (by rw [hx]; exact .inr hk7)
          rw [hx] at STEP
          have HLE := Lib.hid HI2.out.le
          have LKP := (HT.out.ext (HX1.out.trans HX2.out)).look (by omega) (c := x.c) (t := (T : Int)) (k := 6) HWC.out (wf_small (by omega) (by omega)) (by omega)
          obtain ⟨pv, hlk, hoi⟩ := LKP
          unfold tkV at hlk
          have hIV : IntsV wr pv (pls ls x.c (T : Int) 6 j) := intsV_row hoi.1
          obtain ⟨ap, cp, ep⟩ := hIV.form
          subst ep
          have hpl := pls_len ls x.c (T : Int) 6 j
          have PAT := Lib.hid (pls_at ls x.c (T : Int) 6 j)
          have PMO := Lib.hid (fun a b => pls_mono (n := n) (ls := ls) (j := j) x.c (T : Int) 6 j a b)
          have CFD := Lib.hid (fun r hr => cand_found (ls := ls) (c := x.c) (t := (T : Int)) (k := 6) (q := fun i => !kn n ls j i) (m := j) (r := r) hr)
          have CNO := Lib.hid (cand_none (ls := ls) (c := x.c) (t := (T : Int)) (k := 6) (q := fun i => !kn n ls j i) (m := j))
          have STEP2 := Lib.hid (STEP.more (d' := fun t k => 0 ≤ t ∧ t < (T : Int) ∨ t = T ∧ k < 6 + ((0 + 1 : Nat) : Int)) (fun t k h1 h2 h3 => by omega))
          generalize cand ls x.c (T : Int) 6 (fun i => !kn n ls j i) j = cd at *
          generalize hpls : pls ls x.c (T : Int) 6 j = pl at *
          clear hoi STEP hpls
          have HIV := Lib.hid hIV
          clear hIV
          have CS := search pl.length (fun k => !kn n ls j (pl.getD k 0).toNat) #[.pointer (some ⟨w.heap.size, 0, none⟩), .pointer (some ⟨w.heap.size + 1, 0, none⟩), .pointer (some ⟨w.heap.size + 1 + 1, 0, none⟩), .pointer (some ⟨wr.heap.size, 0, none⟩)] (wr.alloc (.cells #[.slice ap pl.length cp] 27)) (by omega) (fun k hk w' hx' => by
            obtain ⟨y, ey, hy, _⟩ := PAT.out k hk
            have XX : Ext wr w' := Ext.trans ((Ext.refl wr).alloc _) hx'
            have X0 : Ext w w' := HX1.out.trans (HX2.out.trans XX)
            have := closure n ls ls.length j pl k y _ _ _ w.heap.size (w.heap.size + 1) (w.heap.size + 1 + 1) wr.heap.size w' (HA.out.ext X0) (HC.out.ext X0) HR.out (Nat.le_refl _) HJ.out (by rw [← HLL.out]; exact XX.cell ca) (by rw [← HLL.out]; exact XX.cell cb) (XX.cell cc) (hx'.cell (by simp [go_sem])) (HIV.out.ext XX) hk (by omega) ey (by have := HJ.out; omega)
            simp only [ey, Int.toNat_natCast]
            exact this) (fun a b hab hb h => PMO.out a b hab hb h)
          have HCS := Lib.hid CS
          have lw : w.heap.size + 1 + 1 < wr.heap.size := World.block_lt_of_cell? _ _ cc
          clear CS
          generalize hr : firstP (fun k => !kn n ls j (pl.getD k 0).toNat) pl.length = r at *
          have HRR := Lib.hid hr
          have hrl : r ≤ pl.length := by rw [← hr]; exact firstP_le _ _
          clear hr
          generalize hN : pl.length = N at *
          go_wp2_with fail
          refine (CW6.out _).mono ?_
          rintro e w' ⟨rfl, rfl⟩
          go_wp2_with fail
          refine (CW.out _).mono ?_
          rintro e w' ⟨rfl, rfl⟩
          go_wp2_with (first | (at_lookup; refine wpList_lookup_run rfl _ _ 68 false rfl rfl rfl hlk ?_; go_frame) | fail)
          refine HCS.out.mono ?_
          rintro e w5 ⟨rfl, X5⟩
          have XX5 : Ext wr w5 := Ext.trans ((Ext.refl wr).alloc _) X5
          have qp : w5.cell? ⟨wr.heap.size, 0, none⟩ = some (.slice ap N cp) := X5.cell (by simp [go_sem])
          have HX5 := Lib.hid (HX2.out.trans XX5)
          have I5 := HIV.out.ext XX5
          clear X5 XX5 ca cb cc cj ck1 ck2
          by_cases hrN : r < N
          case neg =>
            have dN : ¬ ((r : Int) < (N : Int)) := by omega
            have ecd := CNO.out hrN
            have HST := Lib.hid (show Inv n ls j (fun t k => 0 ≤ t ∧ t < (T : Int) ∨ t = T ∧ k < 6 + ((0 + 1 : Nat) : Int)) M2 by
              have := STEP2.out
              rw [ecd, Nat.min_eq_left HLE.out] at this
              exact this)
            clear I5
            go_wp2
            exact ⟨⟨0 + 1, M2, by omega, by go_num, rfl, HST.out, HX5.out⟩, by simp [intOf]⟩
          have dN : (r : Int) < (N : Int) := by omega
          obtain ⟨ecd, hcd⟩ := CFD.out r rfl (by omega)
          obtain ⟨bp, op, cp', ee, hcell⟩ := I5.full (by omega)
          cases ee
          have qr := hcell r (by omega)
          rw [ecd] at qr
          clear I5 hcell ecd
          by_cases hmc : M2 ≤ cd
          · have hmc' : (M2 : Int) ≤ (cd : Int) := by omega
            have HST := STEP2.out
            rw [Nat.min_eq_left hmc] at HST
            have HST2 := Lib.hid HST
            clear HST
            go_wp2
            exact ⟨⟨0 + 1, M2, by omega, by go_num, by first | rfl | (simp; omega), HST2.out, HX5.out⟩, by simp [intOf]⟩
          · have hmc' : ¬ ((M2 : Int) ≤ (cd : Int)) := by omega
            have HST := STEP2.out
            rw [Nat.min_eq_right (by omega)] at HST
            have HST2 := Lib.hid HST
            clear HST
            go_wp2
            exact ⟨⟨0 + 1, cd, by omega, by go_num, by first | rfl | (simp; omega), HST2.out, HX5.out⟩, by simp [intOf]⟩
        · have hk6 : x.k = 6 := by rcases KIND.out with h | h; exact h; exact absurd h hk7
          rw [hk6, show wrB 6 = false by decide] at CW
          have HST := Lib.hid (HI2.out.more (d' := fun t k => 0 ≤ t ∧ t < (T : Int) ∨ t = T ∧ k < 6 + ((0 + 1 : Nat) : Int)) (fun t k h1 h2 h3 => by rw [hx] at h3; omega))
          go_wp2_with fail
          refine (CW6.out _).mono ?_
          rintro e w' ⟨rfl, rfl⟩
          go_wp2_with fail
          refine (CW.out _).mono ?_
          rintro e w' ⟨rfl, rfl⟩
          go_wp2
          exact ⟨⟨0 + 1, M2, by omega, by go_num, rfl, HST.out, HX2.out⟩, by simp [intOf]⟩
      · rw [show ((1 : Nat) : Int) = 1 from rfl]
        have hix := idx1
        clear CW CW6
        have STEP := HI2.out.step HR.out HJ.out (by rw [hx]; exact HP.out) (T : Int) 7 (by omega) (.inl rfl)
        rw [hx] at STEP
        have HLE := Lib.hid HI2.out.le
        have LKP := (HT.out.ext (HX1.out.trans HX2.out)).look (by omega) (c := x.c) (t := (T : Int)) (k := 7) HWC.out (wf_small (by omega) (by omega)) (by omega)
        obtain ⟨pv, hlk, hoi⟩ := LKP
        unfold tkV at hlk
        have hIV : IntsV wr pv (pls ls x.c (T : Int) 7 j) := intsV_row hoi.1
        obtain ⟨ap, cp, ep⟩ := hIV.form
        subst ep
        have hpl := pls_len ls x.c (T : Int) 7 j
        have PAT := Lib.hid (pls_at ls x.c (T : Int) 7 j)
        have PMO := Lib.hid (fun a b => pls_mono (n := n) (ls := ls) (j := j) x.c (T : Int) 7 j a b)
        have CFD := Lib.hid (fun r hr => cand_found (ls := ls) (c := x.c) (t := (T : Int)) (k := 7) (q := fun i => !kn n ls j i) (m := j) (r := r) hr)
        have CNO := Lib.hid (cand_none (ls := ls) (c := x.c) (t := (T : Int)) (k := 7) (q := fun i => !kn n ls j i) (m := j))
        have STEP2 := Lib.hid (STEP.more (d' := fun t k => 0 ≤ t ∧ t < (T : Int) ∨ t = T ∧ k < 6 + ((1 + 1 : Nat) : Int)) (fun t k h1 h2 h3 => by omega))
        generalize cand ls x.c (T : Int) 7 (fun i => !kn n ls j i) j = cd at *
        generalize hpls : pls ls x.c (T : Int) 7 j = pl at *
        clear hoi STEP hpls
        have HIV := Lib.hid hIV
        clear hIV
        have CS := search pl.length (fun k => !kn n ls j (pl.getD k 0).toNat) #[.pointer (some ⟨w.heap.size, 0, none⟩), .pointer (some ⟨w.heap.size + 1, 0, none⟩), .pointer (some ⟨w.heap.size + 1 + 1, 0, none⟩), .pointer (some ⟨wr.heap.size, 0, none⟩)] (wr.alloc (.cells #[.slice ap pl.length cp] 27)) (by omega) (fun k hk w' hx' => by
          obtain ⟨y, ey, hy, _⟩ := PAT.out k hk
          have XX : Ext wr w' := Ext.trans ((Ext.refl wr).alloc _) hx'
          have X0 : Ext w w' := HX1.out.trans (HX2.out.trans XX)
          have := closure n ls ls.length j pl k y _ _ _ w.heap.size (w.heap.size + 1) (w.heap.size + 1 + 1) wr.heap.size w' (HA.out.ext X0) (HC.out.ext X0) HR.out (Nat.le_refl _) HJ.out (by rw [← HLL.out]; exact XX.cell ca) (by rw [← HLL.out]; exact XX.cell cb) (XX.cell cc) (hx'.cell (by simp [go_sem])) (HIV.out.ext XX) hk (by omega) ey (by have := HJ.out; omega)
          simp only [ey, Int.toNat_natCast]
          exact this) (fun a b hab hb h => PMO.out a b hab hb h)
        have HCS := Lib.hid CS
        have lw : w.heap.size + 1 + 1 < wr.heap.size := World.block_lt_of_cell? _ _ cc
        clear CS
        generalize hr : firstP (fun k => !kn n ls j (pl.getD k 0).toNat) pl.length = r at *
        have HRR := Lib.hid hr
        have hrl : r ≤ pl.length := by rw [← hr]; exact firstP_le _ _
        clear hr
        generalize hN : pl.length = N at *
        go_wp2_with fail
        refine (CW7.out _).mono ?_
        rintro e w' ⟨rfl, rfl⟩
        go_wp2_with (first | (at_lookup; refine wpList_lookup_run rfl _ _ 68 false rfl rfl rfl hlk ?_; go_frame) | fail)
        refine HCS.out.mono ?_
        rintro e w5 ⟨rfl, X5⟩
        have XX5 : Ext wr w5 := Ext.trans ((Ext.refl wr).alloc _) X5
        have qp : w5.cell? ⟨wr.heap.size, 0, none⟩ = some (.slice ap N cp) := X5.cell (by simp [go_sem])
        have HX5 := Lib.hid (HX2.out.trans XX5)
        have I5 := HIV.out.ext XX5
        clear X5 XX5 ca cb cc cj ck1 ck2
        by_cases hrN : r < N
        case neg =>
          have dN : ¬ ((r : Int) < (N : Int)) := by omega
          have ecd := CNO.out hrN
          have HST := Lib.hid (show Inv n ls j (fun t k => 0 ≤ t ∧ t < (T : Int) ∨ t = T ∧ k < 6 + ((1 + 1 : Nat) : Int)) M2 by
            have := STEP2.out
            rw [ecd, Nat.min_eq_left HLE.out] at this
            exact this)
          clear I5
          go_wp2
          exact ⟨⟨1 + 1, M2, by omega, by go_num, rfl, HST.out, HX5.out⟩, by simp [intOf]⟩
        have dN : (r : Int) < (N : Int) := by omega
        obtain ⟨ecd, hcd⟩ := CFD.out r rfl (by omega)
        obtain ⟨bp, op, cp', ee, hcell⟩ := I5.full (by omega)
        cases ee
        have qr := hcell r (by omega)
        rw [ecd] at qr
        clear I5 hcell ecd
        by_cases hmc : M2 ≤ cd
        · have hmc' : (M2 : Int) ≤ (cd : Int) := by omega
          have HST := STEP2.out
          rw [Nat.min_eq_left hmc] at HST
          have HST2 := Lib.hid HST
          clear HST
          go_wp2
          exact ⟨⟨1 + 1, M2, by omega, by go_num, by first | rfl | (simp; omega), HST2.out, HX5.out⟩, by simp [intOf]⟩
        · have hmc' : ¬ ((M2 : Int) ≤ (cd : Int)) := by omega
          have HST := STEP2.out
          rw [Nat.min_eq_right (by omega)] at HST
          have HST2 := Lib.hid HST
          clear HST
          go_wp2
          exact ⟨⟨1 + 1, cd, by omega, by go_num, by first | rfl | (simp; omega), HST2.out, HX5.out⟩, by simp [intOf]⟩
end Go.Proofs.Ytoaifbengichbaa

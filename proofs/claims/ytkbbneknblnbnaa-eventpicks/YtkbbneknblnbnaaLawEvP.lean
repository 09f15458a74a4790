/- The walk of EventPicks. -/
import Derived.Test.YtkbbneknblnbnaaEvL
import Derived.Test.YtkbbneknblnbnaaEvG
import Derived.Test.YtkbbneknblnbnaaEv8
import Derived.Test.YtkbbneknblnbnaaEvF
import Derived.Test.YtkbbneknblnbnaaOpenE
namespace Go.Proofs.Ytkbbneknblnbnaa
open Go.RowKit
set_option linter.unusedVariables false
set_option linter.unusedSimpArgs false
set_option maxHeartbeats 4000000
attribute [local go_sem] later_cell later_frozen later_const
set_option maxRecDepth 100000 in
theorem eventPicks_walk (a : Option Addr) (len cap : Nat) (L : List Ev) (t i : Int) (ka : Option Addr) (kl kc : Nat) (zs : List Int) (w : World) (w0 : IsEvs w a len cap L) (w1 : (Lit.int .i64 t).wf = true) (w2 : (Lit.int .i64 i).wf = true) (w3 : IsRow .i64 w ka kl kc zs) :
    Calls Try.prog 4 #[.slice a len cap, .agg #[.int .i64 t, .int .i64 i], .slice ka kl kc] w fun e w' => e = .returned (.bool true) ∧ Below w.heap.size w w' := by
  obtain ⟨e, hE, hwf⟩ := w0
  subst e
  obtain ⟨hK, hkl, -⟩ := intsV_of_row w3
  have hi := (wf_i64 w2).2
  generalize zs.take kl = xs at *
  clear w1 w2 w3 hwf
  have HE := Lib.hid hE
  have HK := Lib.hid hK
  have CL := Lib.hid (fun w' (hx : Ext w w') => eLong (.slice a L.length cap) L 200 w' (hE.ext hx) (by decide))
  clear hE hK
  cases hlg : lng L 200
  case true =>
    rw [hlg] at CL
    go_enter Try.func4, Try.ntmps4
    go_wp2_with fail
    refine (CL.out _ (by repeat (first | with_reducible exact Ext.refl _ | with_reducible assumption | with_reducible refine Ext.alloc ?_ _ | with_reducible refine Ext.drew ?_ | with_reducible refine Ext.drewN ?_ _ | with_reducible refine Ext.setCell ?_ (by simp <;> omega) _ | with_reducible refine Ext.trans ?_ (by assumption)))).mono ?_
    rintro e w2 ⟨rfl, X2⟩
    have Y2 : Ext w w2 := Ext.trans (by repeat (first | with_reducible exact Ext.refl _ | with_reducible assumption | with_reducible refine Ext.alloc ?_ _ | with_reducible refine Ext.drew ?_ | with_reducible refine Ext.drewN ?_ _ | with_reducible refine Ext.setCell ?_ (by simp <;> omega) _ | with_reducible refine Ext.trans ?_ (by assumption))) X2
    go_wp2_with fail
    refine (live15 _).mono ?_
    rintro e w3 ⟨rfl, X3⟩
    go_wp2
    go_ret
    exact ⟨rfl, (Y2.trans X3).below⟩
  rw [hlg] at CL
  obtain ⟨h200, h100⟩ := lng_no hlg
  clear hlg
  by_cases h50 : 50 < kl
  · have h50' : (50 : Int) < (kl : Int) := by omega
    go_enter Try.func4, Try.ntmps4
    go_wp2_with fail
    refine (CL.out _ (by repeat (first | with_reducible exact Ext.refl _ | with_reducible assumption | with_reducible refine Ext.alloc ?_ _ | with_reducible refine Ext.drew ?_ | with_reducible refine Ext.drewN ?_ _ | with_reducible refine Ext.setCell ?_ (by simp <;> omega) _ | with_reducible refine Ext.trans ?_ (by assumption)))).mono ?_
    rintro e w2 ⟨rfl, X2⟩
    have Y2 : Ext w w2 := Ext.trans (by repeat (first | with_reducible exact Ext.refl _ | with_reducible assumption | with_reducible refine Ext.alloc ?_ _ | with_reducible refine Ext.drew ?_ | with_reducible refine Ext.drewN ?_ _ | with_reducible refine Ext.setCell ?_ (by simp <;> omega) _ | with_reducible refine Ext.trans ?_ (by assumption))) X2
    go_wp2_with fail
    refine (live15 _).mono ?_
    rintro e w3 ⟨rfl, X3⟩
    go_wp2
    go_ret
    exact ⟨rfl, (Y2.trans X3).below⟩
  have h50' : ¬ (50 : Int) < (kl : Int) := by omega
  have hd6 : ∀ e ∈ L, e.d.length ≤ 1000000 := fun e he => by have := h100 e he; omega
  have hx6 : xs.length ≤ 1000000 := by omega
  have hF6 : ∀ p : Ev → Bool, ∀ e ∈ L.filter p, e.d.length ≤ 1000000 := fun p e he => hd6 e (List.mem_filter.1 he).1
  have E1 := Lib.hid (fun w' (hx : Ext w w') => eEnds _ L i w' (HE.out.ext hx) hi)
  have E2 := Lib.hid (fun w' (hx : Ext w w') => rEnds _ L i w' (HE.out.ext hx) hi)
  have C1 := Lib.hid (fun w' (hx : Ext w w') => eOf _ L t w' (HE.out.ext hx) (by omega) hd6)
  have C2 := Lib.hid (fun w' (hx : Ext w w') => rOf _ L t w' (HE.out.ext hx) hx.size (by omega))
  have C3 := Lib.hid (fun w' (hx : Ext w w') => eOnly _ L _ xs w' (HE.out.ext hx) (by omega) hd6 (HK.out.ext hx) hx6)
  have C4 := Lib.hid (fun w' (hx : Ext w w') => rOnly _ L _ xs w' (HE.out.ext hx) hx.size (by omega) (HK.out.ext hx) hx6)
  have C5 := Lib.hid (fun w' (hx : Ext w w') => eCopy _ L w' (HE.out.ext hx) (by omega) hd6)
  have S1 := Lib.hid (fun B1 B2 a b w' (h1 : EvsV w' B1 a (L.filter fun e => decide (e.t = t))) (h2 : EvsV w' B2 b (L.filter fun e => decide (e.t = t))) => rSame_is a b _ _ w' h1 h2 (hF6 _) (hF6 _))
  have S2 := Lib.hid (fun B1 B2 a b w' (h1 : EvsV w' B1 a (L.filter fun e => xs.any fun y => decide (e.k = y))) (h2 : EvsV w' B2 b (L.filter fun e => xs.any fun y => decide (e.k = y))) => rSame_is a b _ _ w' h1 h2 (hF6 _) (hF6 _))
  have S3 := Lib.hid (fun B1 a w' (hx : Ext w w') (h1 : EvsV w' B1 a L) => rSame_is a _ _ _ w' h1 (HE.out.ext hx) hd6 hd6)
  have S4 := Lib.hid (fun w' (hx : Ext w w') => eSame_is _ _ _ _ w' (HE.out.ext hx) (HE.out.ext hx) hd6 hd6)
  have S5 := Lib.hid (fun B1 b w' (hx : Ext w w') (h1 : EvsV w' B1 b (L.filter fun e => decide (e.t = t))) => eSame_is _ b _ _ w' (HE.out.ext hx) h1 hd6 (hF6 _))
  have S6 := Lib.hid (fun B1 b w' (hx : Ext w w') (h1 : EvsV w' B1 b (L.filter fun e => decide (e.t = t))) => rSame_is _ b _ _ w' (HE.out.ext hx) h1 hd6 (hF6 _))
  rw [decide_eq_true (rfl : (L.filter fun e => decide (e.t = t)) = L.filter fun e => decide (e.t = t))] at S1
  rw [decide_eq_true (rfl : (L.filter fun e => xs.any fun y => decide (e.k = y)) = L.filter fun e => xs.any fun y => decide (e.k = y))] at S2
  rw [decide_eq_true (rfl : L = L)] at S3 S4
  generalize decide (L = L.filter fun e => decide (e.t = t)) = sb at *
  generalize (L.filter fun e => decide (e.t = t)) = F1 at *
  generalize (L.filter fun e => xs.any fun y => decide (e.k = y)) = F2 at *
  have hv0 : endV L i = -1 ∨ endV L i = 0 ∨ 0 < endV L i := by
    unfold endV
    split
    · split
      · rename_i h1 h2
        rcases ixG_spec (fun e : Ev => decide (e.k = 2) && decide (e.t = L[i.toNat].t)) (L.drop (i.toNat + 1)) (i.toNat + 1) with ⟨h, _⟩ | ⟨j, h, _⟩
        · exact .inl h
        · right; rw [h]; omega
      · exact .inl rfl
    · exact .inl rfl
  have hv1 : (endV L i = -1 ∧ (if endV L i < 0 then 0 else endV L i) = 0 ∧ decide (0 ≤ endV L i) = false) ∨ (endV L i = 0 ∧ (if endV L i < 0 then 0 else endV L i) = 0 ∧ decide (0 ≤ endV L i) = true) ∨ (0 < endV L i ∧ (if endV L i < 0 then 0 else endV L i) = endV L i ∧ decide (0 ≤ endV L i) = true) := by
    rcases hv0 with h | h | h
    · left; rw [h]; exact ⟨rfl, rfl, rfl⟩
    · right; left; rw [h]; exact ⟨rfl, rfl, rfl⟩
    · right; right; exact ⟨h, if_neg (by omega), decide_eq_true (by omega)⟩
  generalize (if endV L i < 0 then 0 else endV L i) = V0 at *
  generalize decide (0 ≤ endV L i) = vb at *
  generalize endV L i = V at *
  have HV := Lib.hid hv1
  clear hv1
  clear h200 h100 hd6 hx6 hF6 hi h50 hv0
  go_enter Try.func4, Try.ntmps4
  go_wp2_with fail
  refine (CL.out _ (by repeat (first | with_reducible exact Ext.refl _ | with_reducible assumption | with_reducible refine Ext.alloc ?_ _ | with_reducible refine Ext.drew ?_ | with_reducible refine Ext.drewN ?_ _ | with_reducible refine Ext.setCell ?_ (by simp <;> omega) _ | with_reducible refine Ext.trans ?_ (by assumption)))).mono ?_
  rintro e w2 ⟨rfl, X2⟩
  have q0 : w2.cell? ⟨w.heap.size, 0, none⟩ = some (.int .i64 t) := X2.cell (by simp [go_sem])
  have q1 : w2.cell? ⟨w.heap.size, 1, none⟩ = some (.int .i64 i) := X2.cell (by simp [go_sem])
  have Y2 := Lib.hid (Ext.trans (by repeat (first | with_reducible exact Ext.refl _ | with_reducible assumption | with_reducible refine Ext.alloc ?_ _ | with_reducible refine Ext.drew ?_ | with_reducible refine Ext.drewN ?_ _ | with_reducible refine Ext.setCell ?_ (by simp <;> omega) _ | with_reducible refine Ext.trans ?_ (by assumption))) X2 : Ext w w2)
  clear X2
  go_wp2
  refine wp_region_later (by kernel_rfl) (by kernel_rfl) ?_
  have l0 := fun (g : Later w2) => g.ok.cell q0
  have l1 := fun (g : Later w2) => g.ok.cell q1
  repeat (go_big_quiet_step ((fail)))
  refine wpQuiet_nil ?_
  intro w3 hl3
  have Y3 := Lib.hid (Y2.out.trans (laters_ext hl3))
  clear hl3 l0 l1 q0 q1
  go_wp2_with fail
  refine (E1.out _ Y3.out).mono ?_
  rintro e w4 ⟨rfl, X4⟩
  have Y4 := Lib.hid (Y3.out.trans X4)
  clear X4
  go_wp2_with fail
  refine (E2.out _ Y4.out).mono ?_
  rintro e w5 ⟨rfl, X5⟩
  have Y5 := Lib.hid (Y4.out.trans X5)
  clear X5
  go_wp2_with fail
  refine (C1.out _ Y5.out).mono ?_
  rintro e w6 ⟨v6, B6, rfl, R6, X6⟩
  have Y6 := Lib.hid (Y5.out.trans X6)
  have H6 := Lib.hid R6
  clear X6 R6
  go_wp2_with fail
  refine (C2.out _ Y6.out).mono ?_
  rintro e w7 ⟨v7, rfl, R7, X7⟩
  have Y7 := Lib.hid (Y6.out.trans X7)
  have H7 := Lib.hid (H6.out.ext X7)
  have N7 := Lib.hid R7.evs
  clear X7 R7 H6
  go_wp2_with fail
  refine (S1.out _ _ _ _ _ H7.out N7.out).mono ?_
  rintro e w8 ⟨rfl, X8⟩
  have Y8 := Lib.hid (Y7.out.trans X8)
  clear X8 H7 N7
  go_wp2_with fail
  refine (C3.out _ Y8.out).mono ?_
  rintro e w9 ⟨v9, B9, rfl, R9, X9⟩
  have Y9 := Lib.hid (Y8.out.trans X9)
  have H9 := Lib.hid R9
  clear X9 R9
  go_wp2_with fail
  refine (C4.out _ Y9.out).mono ?_
  rintro e wa ⟨va, rfl, Ra, Xa⟩
  have Ya := Lib.hid (Y9.out.trans Xa)
  have Ha := Lib.hid (H9.out.ext Xa)
  have Na := Lib.hid Ra.evs
  clear Xa Ra H9
  go_wp2_with fail
  refine (S2.out _ _ _ _ _ Ha.out Na.out).mono ?_
  rintro e wb ⟨rfl, Xb⟩
  have Yb := Lib.hid (Ya.out.trans Xb)
  clear Xb Ha Na
  rcases HV.out with ⟨rfl, rfl, rfl⟩ | ⟨rfl, rfl, rfl⟩ | ⟨hv, rfl, rfl⟩
  · (try have hv1 : 0 ≤ V := by omega)
    (try have hv2 : ¬ V < 0 := by omega)
    (try have hv3 : ¬ V ≤ 0 := by omega)
    clear HV
    go_wp2_with fail
    refine (C2.out _ Yb.out).mono ?_
    rintro e wc ⟨vc, rfl, Rc, Xc⟩
    have Yc := Lib.hid (Yb.out.trans Xc)
    have Hc := Lib.hid Rc.evs
    clear Xc Rc
    go_wp2_with fail
    refine (C5.out _ Yc.out).mono ?_
    rintro e wd ⟨vd, rfl, Rd, Xd⟩
    have Yd := Lib.hid (Yc.out.trans Xd)
    have Hd := Lib.hid (Hc.out.ext Xd)
    have Nd := Lib.hid Rd.evs
    clear Xd Rd
    go_wp2_with fail
    refine (S3.out _ _ _ Yd.out Nd.out).mono ?_
    rintro e we ⟨rfl, Xe⟩
    have Ye := Lib.hid (Yd.out.trans Xe)
    have He := Lib.hid (Hd.out.ext Xe)
    clear Xe
    go_wp2_with fail
    refine (S4.out _ Ye.out).mono ?_
    rintro e wf ⟨rfl, Xf⟩
    have Yf := Lib.hid (Ye.out.trans Xf)
    have Hf := Lib.hid (He.out.ext Xf)
    clear Xf
    go_wp2_with fail
    refine (S5.out _ _ _ Yf.out Hf.out).mono ?_
    rintro e wg ⟨rfl, Xg⟩
    have Yg := Lib.hid (Yf.out.trans Xg)
    have Hg := Lib.hid (Hf.out.ext Xg)
    clear Xg
    go_wp2_with fail
    refine (S6.out _ _ _ Yg.out Hg.out).mono ?_
    rintro e wh ⟨rfl, Xh⟩
    have Yh := Lib.hid (Yg.out.trans Xh)
    clear Xh
    go_wp2_with fail
    refine (live15 _).mono ?_
    rintro e wi ⟨rfl, Xi⟩
    go_wp2
    go_ret
    exact ⟨rfl, (Yh.out.trans Xi).below⟩
  · (try have hv1 : 0 ≤ V := by omega)
    (try have hv2 : ¬ V < 0 := by omega)
    (try have hv3 : ¬ V ≤ 0 := by omega)
    clear HV
    go_wp2_with fail
    refine (C2.out _ Yb.out).mono ?_
    rintro e wc ⟨vc, rfl, Rc, Xc⟩
    have Yc := Lib.hid (Yb.out.trans Xc)
    have Hc := Lib.hid Rc.evs
    clear Xc Rc
    go_wp2_with fail
    refine (C5.out _ Yc.out).mono ?_
    rintro e wd ⟨vd, rfl, Rd, Xd⟩
    have Yd := Lib.hid (Yc.out.trans Xd)
    have Hd := Lib.hid (Hc.out.ext Xd)
    have Nd := Lib.hid Rd.evs
    clear Xd Rd
    go_wp2_with fail
    refine (S3.out _ _ _ Yd.out Nd.out).mono ?_
    rintro e we ⟨rfl, Xe⟩
    have Ye := Lib.hid (Yd.out.trans Xe)
    have He := Lib.hid (Hd.out.ext Xe)
    clear Xe
    go_wp2_with fail
    refine (S4.out _ Ye.out).mono ?_
    rintro e wf ⟨rfl, Xf⟩
    have Yf := Lib.hid (Ye.out.trans Xf)
    have Hf := Lib.hid (He.out.ext Xf)
    clear Xf
    go_wp2_with fail
    refine (S5.out _ _ _ Yf.out Hf.out).mono ?_
    rintro e wg ⟨rfl, Xg⟩
    have Yg := Lib.hid (Yf.out.trans Xg)
    have Hg := Lib.hid (Hf.out.ext Xg)
    clear Xg
    go_wp2_with fail
    refine (S6.out _ _ _ Yg.out Hg.out).mono ?_
    rintro e wh ⟨rfl, Xh⟩
    have Yh := Lib.hid (Yg.out.trans Xh)
    clear Xh
    go_wp2_with fail
    refine (live15 _).mono ?_
    rintro e wi ⟨rfl, Xi⟩
    go_wp2
    go_ret
    exact ⟨rfl, (Yh.out.trans Xi).below⟩
  · (try have hv1 : 0 ≤ V := by omega)
    (try have hv2 : ¬ V < 0 := by omega)
    (try have hv3 : ¬ V ≤ 0 := by omega)
    clear HV
    go_wp2_with fail
    refine (C2.out _ Yb.out).mono ?_
    rintro e wc ⟨vc, rfl, Rc, Xc⟩
    have Yc := Lib.hid (Yb.out.trans Xc)
    have Hc := Lib.hid Rc.evs
    clear Xc Rc
    go_wp2_with fail
    refine (C5.out _ Yc.out).mono ?_
    rintro e wd ⟨vd, rfl, Rd, Xd⟩
    have Yd := Lib.hid (Yc.out.trans Xd)
    have Hd := Lib.hid (Hc.out.ext Xd)
    have Nd := Lib.hid Rd.evs
    clear Xd Rd
    go_wp2_with fail
    refine (S3.out _ _ _ Yd.out Nd.out).mono ?_
    rintro e we ⟨rfl, Xe⟩
    have Ye := Lib.hid (Yd.out.trans Xe)
    have He := Lib.hid (Hd.out.ext Xe)
    clear Xe
    go_wp2_with fail
    refine (S4.out _ Ye.out).mono ?_
    rintro e wf ⟨rfl, Xf⟩
    have Yf := Lib.hid (Ye.out.trans Xf)
    have Hf := Lib.hid (He.out.ext Xf)
    clear Xf
    go_wp2_with fail
    refine (S5.out _ _ _ Yf.out Hf.out).mono ?_
    rintro e wg ⟨rfl, Xg⟩
    have Yg := Lib.hid (Yf.out.trans Xg)
    have Hg := Lib.hid (Hf.out.ext Xg)
    clear Xg
    go_wp2_with fail
    refine (S6.out _ _ _ Yg.out Hg.out).mono ?_
    rintro e wh ⟨rfl, Xh⟩
    have Yh := Lib.hid (Yg.out.trans Xh)
    clear Xh
    go_wp2_with fail
    refine (live15 _).mono ?_
    rintro e wi ⟨rfl, Xi⟩
    go_wp2
    go_ret
    exact ⟨rfl, (Yh.out.trans Xi).below⟩
end Go.Proofs.Ytkbbneknblnbnaa

/- The walk of OrderGoesOn. -/
import Derived.Test.YtoaifbengichbaaOr15
import Derived.Test.YtoaifbengichbaaLawOrR
namespace Go.Proofs.Ytoaifbengichbaa
open Go.RowKit
set_option linter.unusedVariables false
set_option linter.unusedSimpArgs false
set_option maxHeartbeats 4000000
attribute [local go_sem] later_cell later_frozen later_const
def z0 (x : Acc) : Acc := { x with t := 0 }
def oneL (ls : List Acc) (k : Nat) : List Acc := (ls.take k).map z0
theorem oneL_len (ls : List Acc) (k : Nat) (h : k ≤ ls.length) : (oneL ls k).length = k := by unfold oneL; rw [List.length_map, List.length_take]; omega
theorem oneL_at (ls : List Acc) (k i : Nat) (h : k ≤ ls.length) (hi : i < k) : A (oneL ls k) i = z0 (A ls i) := by
  have h1 : i < (oneL ls k).length := by rw [oneL_len ls k h]; exact hi
  rw [← A_at h1, ← A_at (show i < ls.length by omega)]
  unfold oneL
  simp
theorem oneL_succ (ls : List Acc) (k : Nat) (h : k < ls.length) : oneL ls (k + 1) = oneL ls k ++ [z0 (A ls k)] := by
  unfold oneL
  rw [List.take_succ_eq_append_getElem h, List.map_append, A_at h]
  rfl
theorem oneL_wf {ls : List Acc} (h : WfL ls) (k : Nat) (hk : k ≤ ls.length) : WfL (oneL ls k) := fun i hi => by
  rw [oneL_len ls k hk] at hi
  rw [oneL_at ls k i hk hi]
  exact h i (by omega)
theorem one_race {ls : List Acc} (k : Nat) (hk : k ≤ ls.length) : raceV 1 (oneL ls k) = .tuple #[.int .i64 0, .int .i64 0, .bool false] := by
  refine race_none fun j hj => ?_
  rw [oneL_len ls k hk] at hj
  have e : rv 1 (oneL ls k) j = j := firstP_unique (Nat.le_refl _) (fun i hi => by
    unfold clash
    rw [oneL_at ls k i hk (by omega), oneL_at ls k j hk hj]
    simp [z0]) (fun h => absurd h (Nat.lt_irrefl _))
  rw [e]
  simp
/-- a race of one thread's accesses: none -/
theorem race_one (ls : List Acc) (k : Nat) (hk : k ≤ ls.length) (hl : ls.length ≤ 1000) (hwf : WfL ls) (v : Value) (w : World) (h : AccV w v (oneL ls k)) : Calls Try.prog 26 #[.int .i64 1, v] w fun e w' => e = .returned (.tuple #[.int .i64 0, .int .i64 0, .bool false]) ∧ Ext w w' := by
  cases hr : rightL 1 (oneL ls k)
  · exact oRace_no 1 v _ w h hr
  · obtain ⟨m, e, R⟩ := rl_of hr (by rw [oneL_len ls k hk]; omega)
    obtain rfl : m = 1 := by omega
    have := oRace_yes 1 v _ w h R (oneL_wf hwf k hk)
    rw [one_race k hk] at this
    exact this
theorem goes_on {n : Int} {ls : List Acc} (hl : ls.length ≤ 1000) {i j k : Int} (h1 : bhB n ls i j = true) (h2 : bhB n ls j k = true) : bhB n ls i k = true := by
  unfold bhB at h1 h2 ⊢
  split at h1
  · cases h1
  · rename_i c1
    split at h2
    · cases h2
    · rename_i c2
      obtain ⟨a1, a2, a3, a4⟩ : ¬ j < 0 ∧ ¬ i ≤ j ∧ ¬ (ls.length : Int) ≤ i ∧ ¬ rightL n ls = false := ⟨fun h => c1 (.inl h), fun h => c1 (.inr (.inl h)), fun h => c1 (.inr (.inr (.inl h))), fun h => c1 (.inr (.inr (.inr h)))⟩
      obtain ⟨b1, b2, _, _⟩ : ¬ k < 0 ∧ ¬ j ≤ k ∧ ¬ (ls.length : Int) ≤ j ∧ ¬ rightL n ls = false := ⟨fun h => c2 (.inl h), fun h => c2 (.inr (.inl h)), fun h => c2 (.inr (.inr (.inl h))), fun h => c2 (.inr (.inr (.inr h)))⟩
      obtain ⟨m, rfl, R⟩ := rl_of (by simpa using a4) hl
      rw [if_neg (fun h => h.elim b1 (fun h => h.elim (by omega) (fun h => h.elim a3 a4)))]
      rw [show ((m : Nat) : Int).toNat = m by omega] at h1 h2 ⊢
      exact kn_trans R (by omega) h2 i.toNat (by omega) (by omega) h1
theorem goes_down {n : Int} {ls : List Acc} {i j : Int} (h : bhB n ls i j = true) : ¬ i ≤ j := by
  unfold bhB at h
  split at h
  · cases h
  · rename_i c
    exact fun h => c (.inr (.inl h))
theorem bh_step {m : Nat} {ls : List Acc} (R : RL m ls) {x : Nat} (hx : x + 1 < ls.length) : bhB m ls ((x : Int) + 1) (x : Int) = kn m ls (x + 1) x := by
  unfold bhB
  rw [if_neg (fun h => h.elim (by omega) (fun h => h.elim (by omega) (fun h => h.elim (by omega) (fun h => by rw [R.right] at h; cases h))))]
  rw [show ((m : Nat) : Int).toNat = m by omega, show ((x : Int) + 1).toNat = x + 1 by omega, show (x : Int).toNat = x by omega]
set_option maxRecDepth 100000 in
theorem orderGoesOn_walk (n : Int) (a : Option Addr) (len cap : Nat) (ls : List Acc) (i j k : Int) (w : World) (wn : (Lit.int .i64 n).wf = true) (hI : IsAccs w a len cap ls) (wi : (Lit.int .i64 i).wf = true) (wj : (Lit.int .i64 j).wf = true) (wk : (Lit.int .i64 k).wf = true) :
    Calls Try.prog 6 #[.int .i64 n, .slice a len cap, .agg #[.int .i64 i, .int .i64 j, .int .i64 k]] w fun e w' => e = .returned (.bool true) ∧ Below w.heap.size w w' := by
  obtain ⟨hlen, hA, hwf⟩ := hI
  subst hlen
  have CV := Lib.hid (fun w => live13 w)
  by_cases h60 : 60 < ls.length
  · have d0 : decide ((60 : Int) < (ls.length : Int)) = true := by simp; omega
    clear hA hwf
    go_enter Try.func6, Try.ntmps6
    go_wp2_with fail
    refine (CV.out _).mono ?_
    rintro e w1 ⟨rfl, X1⟩
    go_wp2
    go_ret
    refine ⟨rfl, Ext.below ?_⟩
    repeat (first | with_reducible exact Ext.refl _ | with_reducible assumption | with_reducible refine Ext.alloc ?_ _ | with_reducible refine Ext.drew ?_ | with_reducible refine Ext.drewN ?_ _ | with_reducible refine Ext.setCell ?_ (by simp <;> omega) _ | with_reducible refine Ext.trans ?_ (by assumption))
  have d0 : decide ((60 : Int) < (ls.length : Int)) = false := by simp; omega
  have hl : ls.length ≤ 60 := by omega
  have hW := wfl_of hwf
  have CB := Lib.hid (fun x y w' (hx : Ext w w') => oBehind n _ ls x y w' (hA.ext hx) (by omega) hW)
  have HGO := Lib.hid (fun h1 h2 => goes_on (n := n) (ls := ls) (i := i) (j := j) (k := k) (by omega) h1 h2)
  have HGD := Lib.hid (fun h => goes_down (n := n) (ls := ls) (i := i) (j := j) h)
  have CO := Lib.hid (fun v w' h => race_one ls ls.length (Nat.le_refl _) (by omega) hW v w' h)
  have HA := Lib.hid hA
  have HW := Lib.hid hW
  clear hA hwf hW h60
  go_enter Try.func6, Try.ntmps6
  go_upto_region 3 with (fail)
  refine settle_wp ?_
  intro w1 hb1
  have qt_0 : w1.cell? ⟨w.heap.size, 0, none⟩ = some (.int .i64 i) := (hb1.cells.1 _ _ (by simp <;> omega)).trans (by simp [go_sem])
  have qt_1 : w1.cell? ⟨w.heap.size, 1, none⟩ = some (.int .i64 j) := (hb1.cells.1 _ _ (by simp <;> omega)).trans (by simp [go_sem])
  have qt_2 : w1.cell? ⟨w.heap.size, 2, none⟩ = some (.int .i64 k) := (hb1.cells.1 _ _ (by simp <;> omega)).trans (by simp [go_sem])
  have pt := World.block_lt_of_cell? _ ⟨w.heap.size, 0, none⟩ qt_0
  have rt := Nat.lt_succ_of_lt pt
  have hX1 : Ext w w1 := by repeat (first | with_reducible exact Ext.refl _ | with_reducible assumption | with_reducible refine Ext.alloc ?_ _ | with_reducible refine Ext.drew ?_ | with_reducible refine Ext.drewN ?_ _ | with_reducible refine Ext.setCell ?_ (by simp <;> omega) _ | with_reducible refine Ext.trans ?_ (by assumption))
  refine wp_region_later (by kernel_rfl) (by kernel_rfl) ?_
  have lt_0 := fun (g : Later w1) => g.ok.cell qt_0
  have lt_1 := fun (g : Later w1) => g.ok.cell qt_1
  have lt_2 := fun (g : Later w1) => g.ok.cell qt_2
  repeat (go_big_quiet_step ((fail)))
  refine wpQuiet_nil ?_
  intro w2 hl2
  have hb2 := laters_ext hl2
  clear hl2 lt_0 lt_1 lt_2
  have hx2 : Ext w1 w2 := by repeat (first | with_reducible exact Ext.refl _ | with_reducible assumption | with_reducible refine Ext.alloc ?_ _ | with_reducible refine Ext.drew ?_ | with_reducible refine Ext.drewN ?_ _ | with_reducible refine Ext.setCell ?_ (by simp <;> omega) _ | with_reducible refine Ext.trans ?_ (by assumption))
  replace qt_0 := hx2.cell qt_0
  replace qt_1 := hx2.cell qt_1
  replace qt_2 := hx2.cell qt_2
  replace pt := Nat.lt_of_lt_of_le pt hx2.size
  replace rt := Nat.lt_succ_of_lt pt
  clear hx2
  have hX2 := Lib.hid (hX1.trans (by assumption : Ext w1 w2))
  clear hX1 qt_0 qt_1 qt_2
  go_upto_region 4 with (fail)
  go_cut [52] (fun c wx => c = .bool false ∧ Ext w wx)
  case first =>
    have CB1 := Lib.hid (fun w' hx => CB.out i j w' hx)
    have CB2 := Lib.hid (fun w' hx => CB.out j k w' hx)
    have CB3 := Lib.hid (fun w' hx => CB.out i k w' hx)
    cases b1 : bhB n ls i j
    case false =>
      rw [b1] at CB1
      clear b1
      go_wp2_with fail
      refine (CB1.out _ hX2.out).mono ?_
      rintro e wb ⟨rfl, Y1⟩
      go_wp2_with fail
      go_meet
      exact ⟨rfl, hX2.out.trans Y1⟩
    have d1 : decide (i ≤ j) = false := by have := HGD.out b1; simp; omega
    have HB3 := Lib.hid (fun h => HGO.out b1 h)
    rw [b1] at CB1
    clear b1
    cases b2 : bhB n ls j k
    case false =>
      rw [b2] at CB2
      clear b2
      go_wp2_with fail
      refine (CB1.out _ hX2.out).mono ?_
      rintro e wb ⟨rfl, Y1⟩
      go_wp2_with fail
      refine (CB2.out _ (hX2.out.trans Y1)).mono ?_
      rintro e wc ⟨rfl, Y2⟩
      go_wp2_with fail
      go_meet
      exact ⟨rfl, (hX2.out.trans Y1).trans Y2⟩
    rw [HB3.out b2] at CB3
    rw [b2] at CB2
    clear b2
    go_wp2_with fail
    refine (CB1.out _ hX2.out).mono ?_
    rintro e wb ⟨rfl, Y1⟩
    go_wp2_with fail
    refine (CB2.out _ (hX2.out.trans Y1)).mono ?_
    rintro e wc ⟨rfl, Y2⟩
    go_wp2_with fail
    refine (CB3.out _ ((hX2.out.trans Y1).trans Y2)).mono ?_
    rintro e wd ⟨rfl, Y3⟩
    go_wp2_with fail
    go_meet
    exact ⟨rfl, ((hX2.out.trans Y1).trans Y2).trans Y3⟩
  case rest =>
  obtain ⟨rfl, hXc⟩ := hcut
  have HXC := Lib.hid hXc
  clear hXc hX2 HGO HGD
  go_wp2
  go_loopw [11, 10] (fun x o wr => ∃ q : Nat, q ≤ ls.length ∧ x = .int .i64 q ∧ RA wr w.heap.size o (oneL ls q) ∧ Ext w wr) (fun x _ _ => ls.length - (intOf x).toNat)
  case atStart => exact ⟨0, Nat.zero_le _, rfl, ⟨rfl, .inl ⟨rfl, rfl⟩⟩, HXC.out⟩
  case round =>
    obtain ⟨q, hq, rfl, hR, hx⟩ := hrel
    by_cases hlt : q < ls.length
    case pos =>
      have hqL : (q : Int) < (ls.length : Int) := by omega
      obtain ⟨b, off, ea, c0, c1, c2, c3, c4⟩ := HA.out.at hx hlt
      subst ea
      rw [A_at hlt] at c0 c1 c2 c3 c4
      have HR := Lib.hid hR
      have HX := Lib.hid hx
      have HS := Lib.hid (oneL_succ ls q hlt)
      have HN := Lib.hid (fun w g hg => new_acc w g hg (z0 (A ls q)))
      have hol := oneL_len ls q hq
      have HOL : Hid ((oneL ls q).length ≤ 1000000) := Lib.hid (by omega)
      clear hR hx hol
      generalize A ls q = x at *
      go_wp2_with (at_builtin; refine appA _ rfl _ _ rfl w _ _ rfl (HR.out.ext (by repeat (first | with_reducible exact Ext.refl _ | with_reducible assumption | with_reducible refine Ext.alloc ?_ _ | with_reducible refine Ext.drew ?_ | with_reducible refine Ext.drewN ?_ _ | with_reducible refine Ext.setCell ?_ (by simp <;> omega) _ | with_reducible refine Ext.trans ?_ (by assumption)))) (HX.out.trans (by repeat (first | with_reducible exact Ext.refl _ | with_reducible assumption | with_reducible refine Ext.alloc ?_ _ | with_reducible refine Ext.drew ?_ | with_reducible refine Ext.drewN ?_ _ | with_reducible refine Ext.setCell ?_ (by simp <;> omega) _ | with_reducible refine Ext.trans ?_ (by assumption)))) _ (z0 x) rfl (HN.out _ _ (by simp)) HOL.out ?_; intro v4 w4 R4 X4; have HR4 := Lib.hid R4; have HX4 := Lib.hid X4; clear R4 X4)
      exact ⟨⟨q + 1, by omega, by go_num, by rw [HS.out]; exact HR4.out, HX4.out⟩, by simp [intOf]; omega⟩
    obtain rfl : q = ls.length := by omega
    have HO := Lib.hid hR.accv
    have HX := Lib.hid hx
    clear hR hx
    cases hr : rightL n ls
    case false =>
      have CC := Lib.hid (fun w' (hx : Ext w w') => oClocks_no n _ ls w' (HA.out.ext hx) hr)
      go_wp2_with fail
      refine (CO.out _ _ HO.out).mono ?_
      rintro e w5 ⟨rfl, X5⟩
      go_wp2_with fail
      refine (CC.out _ (HX.out.trans X5)).mono ?_
      rintro e w6 ⟨rfl, X6⟩
      go_wp2
      refine wp_loop_rounds 1 ?_
      rw [rounds_succ]
      go_wp2_with fail
      refine (CV.out _).mono ?_
      rintro e w7 ⟨rfl, X7⟩
      go_wp2
      go_ret
      exact ⟨rfl, (((HX.out.trans X5).trans X6).trans X7).below⟩
    obtain ⟨m, rfl, R⟩ := rl_of hr (by omega)
    have n2 := R.n2
    have CC := Lib.hid (fun w' (hx : Ext w w') => oClocks_yes m _ ls w' (HA.out.ext hx) R HW.out)
    have HRR := Lib.hid R
    clear R hr
    go_wp2_with fail
    refine (CO.out _ _ HO.out).mono ?_
    rintro e w5 ⟨rfl, X5⟩
    go_wp2_with fail
    refine (CC.out _ (HX.out.trans X5)).mono ?_
    rintro e w6 ⟨cv, rfl, CK, X6⟩
    obtain ⟨a6, cap6, rfl⟩ := CK.form
    have HCK := Lib.hid CK
    have HX6 := Lib.hid ((HX.out.trans X5).trans X6)
    rw [ck_len]
    clear CK X5 X6 HO CO CC
    go_wp2
    go_loopw [17] (fun x wr => ∃ y : Nat, x = .int .i64 ((y : Int) + 1) ∧ y ≤ ls.length ∧ Ext w6 wr) (fun x _ => ls.length + 1 - (intOf x).toNat)
    case atStart => exact ⟨0, rfl, Nat.zero_le _, Ext.refl _⟩
    case round =>
      obtain ⟨y, rfl, hy, hx⟩ := hrel
      by_cases hlt : y + 1 < ls.length
      case neg =>
        have hge : ¬ ((y : Int) + 1 < (ls.length : Int)) := by omega
        have d1 : decide ((y : Int) + 1 < (ls.length : Int)) = false := by simp; omega
        have HXF := Lib.hid (HX6.out.trans hx)
        clear hx
        go_wp2_with fail
        refine (CV.out _).mono ?_
        rintro e w7 ⟨rfl, X7⟩
        go_wp2
        go_ret
        exact ⟨rfl, (HXF.out.trans X7).below⟩
      have hltI : (y : Int) + 1 < (ls.length : Int) := by omega
      have hyI : (y : Int) < (ls.length : Int) := by omega
      have hyl : y < ls.length := by omega
      have R := HRR.out
      obtain ⟨b, off, ea, qa_0, _⟩ := HA.out.at (HX6.out.trans hx) hyl
      subst ea
      rw [A_at hyl] at qa_0
      obtain ⟨t0, t1⟩ := R.t hyl
      obtain ⟨tn, htn⟩ : ∃ tn : Nat, (A ls y).t = tn := ⟨(A ls y).t.toNat, by omega⟩
      have oki := cl_ok R (y + 1) hlt
      have okj := cl_ok R y hyl
      obtain ⟨b2, o2, ui, ea, qb_0, Ii⟩ := HCK.out.at hx (i := y + 1) (by rw [ck_len]; exact hlt)
      subst ea
      obtain ⟨b3, o3, uj, ea, qb_1, Ij⟩ := HCK.out.at hx (i := y) (by rw [ck_len]; exact hyl)
      cases ea
      rw [ck_get m ls (y + 1) _ hlt] at Ii
      rw [ck_get m ls y _ hyl] at Ij
      obtain ⟨bj, oj, cj, euj, hcj⟩ := Ij.full (by rw [okj.len]; omega)
      subst euj
      have htnn : tn < m := by omega
      have qc_0 := hcj tn (by rw [okj.len]; exact htnn)
      rw [okj.len] at qb_1
      have CK := fun W (hx : Ext wr W) => tKnows ui (cl m ls (y + 1)) (A ls y).t ((cl m ls y).getD (A ls y).t.toNat 0) W (Ii.ext hx) (by rw [oki.len]; omega)
      rw [kn_eq R hyl hlt, htn, Int.toNat_natCast] at CK
      rw [htn] at qa_0
      have HCT := Lib.hid CK
      have CBH := Lib.hid (fun W (hx' : Ext wr W) => CB.out ((y : Int) + 1) (y : Int) W ((HX6.out.trans hx).trans hx'))
      rw [bh_step R hlt] at CBH
      have htn' : (tn : Int) < (m : Int) := by omega
      have HX := Lib.hid hx
      generalize (cl m ls y).getD tn 0 = z at *
      generalize kn m ls (y + 1) y = K at *
      clear CK R oki okj Ii Ij hcj htn t0 t1 hx CB CV
      go_upto_region 18 with (fail)
      refine wp_region_later (by kernel_rfl) (by kernel_rfl) ?_
      have la_0 := fun (g : Later wr) => g.ok.cell qa_0
      have lb_0 := fun (g : Later wr) => g.ok.cell qb_0
      have lb_1 := fun (g : Later wr) => g.ok.cell qb_1
      have lc_0 := fun (g : Later wr) => g.ok.cell qc_0
      repeat (go_big_quiet_step ((fail)))
      go_big_quiet_step ((go_at_call 19; exact laterC (CBH.out _ (Later.ok _))))
      repeat (go_big_quiet_step ((fail)))
      go_big_quiet_step ((go_at_call 28; exact laterS (HCT.out _ (Later.ok _))))
      repeat (go_big_quiet_step ((fail)))
      refine wpQuiet_nil ?_
      intro w3 hl3
      have hb3 := laters_ext hl3
      clear hl3 la_0 lb_0 lb_1 lc_0
      have hx3 : Ext wr w3 := by repeat (first | with_reducible exact Ext.refl _ | with_reducible assumption | with_reducible refine Ext.alloc ?_ _ | with_reducible refine Ext.drew ?_ | with_reducible refine Ext.drewN ?_ _ | with_reducible refine Ext.setCell ?_ (by simp <;> omega) _ | with_reducible refine Ext.trans ?_ (by assumption))
      replace qa_0 := hx3.cell qa_0
      replace qb_0 := hx3.cell qb_0
      replace qb_1 := hx3.cell qb_1
      replace qc_0 := hx3.cell qc_0
      clear hx3
      go_wp2
      exact ⟨⟨y + 1, by go_num, by omega, HX.out.trans (by repeat (first | with_reducible exact Ext.refl _ | with_reducible assumption | with_reducible refine Ext.alloc ?_ _ | with_reducible refine Ext.drew ?_ | with_reducible refine Ext.drewN ?_ _ | with_reducible refine Ext.setCell ?_ (by simp <;> omega) _ | with_reducible refine Ext.trans ?_ (by assumption)))⟩, by simp [intOf]; omega⟩
end Go.Proofs.Ytoaifbengichbaa

/- order.Race. -/
import Derived.Test.YtoaifbengichbaaOr8
namespace Go.Proofs.Ytoaifbengichbaa
open Go.RowKit
set_option linter.unusedVariables false
set_option linter.unusedSimpArgs false
set_option maxHeartbeats 4000000
attribute [local go_sem] later_cell later_frozen later_const
/-- an entry of a map, its run known -/
theorem wpList_entry_run {P : Program} {w w' : World} {ops : Array Oper} {rest : List Oper} {o : Oper} {a : Act} {Q : Exit → Act → World → Prop} (hg : o.guard = none) (m x : Operand) (t : TypeId) (hop : o.op = Op.mapEntry t m x)
    {mv kv v : Value} (hm : a.eval m = mv) (hx : a.eval x = kv) (hrun : (Instr.mapEntry t mv kv).run P w = .ok v w') (hK : wpList P ops Q rest (a.put o.dst v) w') : wpList P ops Q (o :: rest) a w := by
  refine wpList_plain hg fun K' hK' => ?_
  unfold Oper.wp
  simp [execOp, hop, hm, hx, hrun, Result.andThen]
  exact hK' _ _ hK
/-- .. and its store -/
theorem wpList_store_run {P : Program} {w w' : World} {ops : Array Oper} {rest : List Oper} {o : Oper} {a : Act} {Q : Exit → Act → World → Prop} (hg : o.guard = none) (m s x : Operand) (t : TypeId) (hop : o.op = Op.entryStore t m s x)
    {mv sv v : Value} (hm : a.eval m = mv) (hs : a.eval s = sv) (hx : a.eval x = v) (hrun : (Instr.entryStore t mv sv v).run P w = .ok () w') (hK : wpList P ops Q rest (a.put o.dst undef) w') : wpList P ops Q (o :: rest) a w := by
  refine wpList_plain hg fun K' hK' => ?_
  unfold Oper.wp
  simp [execOp, hop, hm, hs, hx, hrun, Result.andThen]
  exact hK' _ _ hK
theorem TM.skip {w : World} {bm B : Nat} {ls : List Acc} {m : Nat} (h : TM w bm B ls m) (hn : plB (A ls m).k = false) : TM w bm B ls (m + 1) := by
  obtain ⟨D, ⟨es, ck, hb, F, hs, hD, hbb, hlen, hap⟩, h2⟩ := h
  refine ⟨D, ⟨es, ck, hb, F, Nat.le_succ_of_le hs, hD, hbb, fun x hx zs ho => Nat.le_succ_of_le (hlen x hx zs ho), hap⟩, fun c t k kl hkl hk => ?_⟩
  rw [pls_succ, if_neg (fun hu => ?_)]
  · exact h2 c t k kl hkl hk
  · unfold useB at hu
    simp at hu
    unfold plB at hn
    rw [hu.2.2] at hn
    simp at hn
    omega
/-- the first access that races with an earlier one -/
def jj (n : Nat) (ls : List Acc) : Nat := firstP (fun j => plB (A ls j).k && decide (rv n ls j < j)) ls.length
def raceV (n : Nat) (ls : List Acc) : Value := if jj n ls < ls.length then .tuple #[.int .i64 (rv n ls (jj n ls)), .int .i64 (jj n ls), .bool true] else .tuple #[.int .i64 0, .int .i64 0, .bool false]
theorem race_none {n : Nat} {ls : List Acc} (h : ∀ j, j < ls.length → (plB (A ls j).k && decide (rv n ls j < j)) = false) : raceV n ls = .tuple #[.int .i64 0, .int .i64 0, .bool false] := by
  have e : jj n ls = ls.length := firstP_unique (Nat.le_refl _) h (fun h => absurd h (Nat.lt_irrefl _))
  unfold raceV
  rw [if_neg (by omega)]
theorem race_at {n : Nat} {ls : List Acc} {m : Nat} (hm : m < ls.length) (h : ∀ j, j < m → (plB (A ls j).k && decide (rv n ls j < j)) = false) (hp : plB (A ls m).k = true) (hr : rv n ls m < m) : raceV n ls = .tuple #[.int .i64 (rv n ls m), .int .i64 m, .bool true] := by
  have e : jj n ls = m := firstP_unique (Nat.le_of_lt hm) h (fun _ => by rw [hp]; simpa using hr)
  unfold raceV
  rw [e, if_pos hm]
theorem oRace_no (n : Int) (v : Value) (ls : List Acc) (w : World) (h : AccV w v ls) (hr : rightL n ls = false) : Calls Try.prog 26 #[.int .i64 n, v] w fun e w' => e = .returned (.tuple #[.int .i64 0, .int .i64 0, .bool false]) ∧ Ext w w' := by
  have HC := Lib.hid (oClocks_no n v ls w h hr)
  have hmm := @run_makeMap Try.prog
  clear h
  go_enter Try.func26, Try.ntmps26
  go_wp2_with fail
  refine HC.out.mono ?_
  rintro e w1 ⟨rfl, X1⟩
  go_wp2
  refine wp_loop_rounds 1 ?_
  rw [rounds_succ]
  go_wp2
  refine bodyPost_ret (v := .tuple #[.int .i64 0, .int .i64 0, .bool false]) (by simp [results, Try.results26, go_sem]) rfl ⟨rfl, X1.alloc _⟩
set_option maxRecDepth 100000 in
theorem oRace_yes (n : Nat) (v : Value) (ls : List Acc) (w : World) (hA : AccV w v ls) (R : RL n ls) (hwf : WfL ls) : Calls Try.prog 26 #[.int .i64 n, v] w fun e w' => e = .returned (raceV n ls) ∧ Ext w w' := by
  have HC := Lib.hid (oClocks_yes n v ls w hA R hwf)
  obtain ⟨a, cap, rfl, hcap, hmax⟩ := hA.form
  have hL := R.l
  have HA := Lib.hid hA
  have HR := Lib.hid R
  have HWF := Lib.hid hwf
  have HNONE := Lib.hid (fun h => race_none (n := n) (ls := ls) h)
  have HAT := Lib.hid (fun m hm h hp hr => race_at (n := n) (ls := ls) (m := m) hm h hp hr)
  generalize hRV : raceV n ls = RV at *
  have hmm := @run_makeMap Try.prog
  obtain ⟨i0, hi, hz0, hz1, hz2⟩ := info_parts info_int
  clear hA R hwf hRV
  go_enter Try.func26, Try.ntmps26
  go_wp2_with fail
  refine HC.out.mono ?_
  rintro e w1 ⟨cv, rfl, CK, X1⟩
  obtain ⟨a2, cap2, rfl⟩ := CK.form
  have HCK := Lib.hid CK
  have HX1 := Lib.hid X1
  have HTM := Lib.hid (TM.made w1 ls)
  have HX2 : Hid (Ext w1 (w1.alloc (.map #[] 0))) := Lib.hid ((Ext.refl w1).alloc _)
  have hsz1 := X1.size
  rw [ck_len]
  clear CK X1 HC
  go_wp2
  generalize w1.alloc (.map #[] 0) = w2 at *
  go_loopw [19] (fun i wr => ∃ m : Nat, m ≤ ls.length ∧ i = .int .i64 m ∧ (∀ j, j < m → (plB (A ls j).k && decide (rv n ls j < j)) = false) ∧ TM wr w1.heap.size (w1.heap.size + 1) ls m ∧ Ext w1 wr) (fun i _ => ls.length - (intOf i).toNat)
  case atStart => exact ⟨0, Nat.zero_le _, rfl, fun j h => absurd h (Nat.not_lt_zero _), HTM.out, HX2.out⟩
  case round =>
    obtain ⟨m, hm, rfl, hall, hT, hx⟩ := hrel
    clear HTM HX2
    by_cases hlt : m < ls.length
    case neg =>
      obtain rfl : m = ls.length := by omega
      have e := HNONE.out hall
      subst e
      have HX := Lib.hid (HX1.out.trans hx)
      clear hall hT hx
      go_wp2
      refine bodyPost_ret (v := .tuple #[.int .i64 0, .int .i64 0, .bool false]) (by simp [results, Try.results26, go_sem]) rfl ⟨rfl, HX.out⟩
    have hlt' : (m : Int) < (ls.length : Int) := by omega
    obtain ⟨b, off, ea, c0, c1, c2, c3, c4⟩ := HA.out.at (HX1.out.trans hx) hlt
    subst ea
    rw [A_at hlt] at c0 c1 c2 c3 c4
    have HALL := Lib.hid hall
    have HT := Lib.hid hT
    have HX := Lib.hid hx
    have CP := Lib.hid (fun w => oPlain (A ls m).k w)
    clear hall hT hx
    go_upto_region 7 with (fail)
    refine settle_wp ?_
    intro wA hbA
    have XA : Ext wr wA := Ext.trans (by repeat (first | with_reducible exact Ext.refl _ | with_reducible assumption | with_reducible refine Ext.alloc ?_ _ | with_reducible refine Ext.drew ?_ | with_reducible refine Ext.drewN ?_ _ | with_reducible refine Ext.setCell ?_ (by simp <;> omega) _ | with_reducible refine Ext.trans ?_ (by assumption))) hbA
    have qa_0 : wA.cell? ⟨wr.heap.size, 0, none⟩ = some (.int .i64 (A ls m).t) := hbA.cell (by simp [go_sem])
    have qa_1 : wA.cell? ⟨wr.heap.size, 1, none⟩ = some (.int .i64 (A ls m).k) := hbA.cell (by simp [go_sem])
    have qa_2 : wA.cell? ⟨wr.heap.size, 2, none⟩ = some (.int .i64 (A ls m).c) := hbA.cell (by simp [go_sem])
    have HXA := Lib.hid (HX.out.trans XA)
    have HTA := Lib.hid (HT.out.ext XA)
    clear hbA XA c0 c1 c2 c3 c4
    cases hp : plB (A ls m).k
    · rw [hp] at CP
      have HSK := Lib.hid (HTA.out.skip hp)
      have HAL : Hid (∀ j, j < m + 1 → (plB (A ls j).k && decide (rv n ls j < j)) = false) := Lib.hid (fun j hj => by
        by_cases e : j = m
        · subst e; rw [hp]; rfl
        · exact HALL.out j (by omega))
      go_wp2_with fail
      refine (CP.out _).mono ?_
      rintro e w' ⟨rfl, rfl⟩
      go_wp2
      exact ⟨⟨m + 1, by omega, by go_num, HAL.out, HSK.out, HXA.out⟩, by simp [intOf]; omega⟩
    rw [hp] at CP
    have CRV := Lib.hid (oRival n ls _ _ w1.heap.size (w1.heap.size + 1) m wA (HA.out.ext (HX1.out.trans HXA.out)) (HCK.out.ext HXA.out) HTA.out HR.out HWF.out hlt hp)
    rw [ck_len] at CRV
    go_wp2_with fail
    refine (CP.out _).mono ?_
    rintro e w' ⟨rfl, rfl⟩
    go_wp2_with fail
    refine CRV.out.mono ?_
    rintro e w3 ⟨rfl, X3⟩
    by_cases hrv : rv n ls m < m
    · have e := HAT.out m hlt HALL.out hp hrv
      subst e
      have hrv' : ((rv n ls m : Nat) : Int) < (m : Int) := by omega
      have HX3 := Lib.hid (HX1.out.trans (HXA.out.trans X3))
      clear X3
      go_wp2
      refine bodyPost_ret (v := .tuple #[.int .i64 (rv n ls m), .int .i64 m, .bool true]) (by simp [results, Try.results26, go_sem]) rfl ⟨rfl, HX3.out⟩
    have hrv' : ¬ ((rv n ls m : Nat) : Int) < (m : Int) := by omega
    have HAL : Hid (∀ j, j < m + 1 → (plB (A ls j).k && decide (rv n ls j < j)) = false) := Lib.hid (fun j hj => by
      by_cases e : j = m
      · subst e; rw [hp]; simp; omega
      · exact HALL.out j (by omega))
    replace qa_0 := X3.cell qa_0
    replace qa_1 := X3.cell qa_1
    replace qa_2 := X3.cell qa_2
    have HX3 := Lib.hid (HXA.out.trans X3)
    have HT3 := Lib.hid (HTA.out.ext X3)
    generalize rv n ls m = r at *
    clear X3
    go_upto_region 12 with (fail)
    refine settle_wp ?_
    intro wK hbK
    have XK : Ext w3 wK := Ext.trans (by repeat (first | with_reducible exact Ext.refl _ | with_reducible assumption | with_reducible refine Ext.alloc ?_ _ | with_reducible refine Ext.drew ?_ | with_reducible refine Ext.drewN ?_ _ | with_reducible refine Ext.setCell ?_ (by simp <;> omega) _ | with_reducible refine Ext.trans ?_ (by assumption))) hbK
    have qk_0 : wK.cell? ⟨w3.heap.size, 0, none⟩ = some (.int .i64 (A ls m).c) := hbK.cell (by simp [go_sem])
    have qk_1 : wK.cell? ⟨w3.heap.size, 1, none⟩ = some (.int .i64 (A ls m).t) := hbK.cell (by simp [go_sem])
    have qk_2 : wK.cell? ⟨w3.heap.size, 2, none⟩ = some (.int .i64 (A ls m).k) := hbK.cell (by simp [go_sem])
    obtain ⟨t0, t1⟩ := HR.out.t hlt
    have n2 := HR.out.n2
    have TK := (HT3.out.ext XK).ext ((Ext.refl wK).alloc (.cells #[.int .i64 m] 3))
    have HKX := Lib.hid (HX3.out.trans XK)
    obtain ⟨v0, st, w4, hme, ho4, g4, hst⟩ := TK.entry (by omega) (HWF.out m hlt) (wf_small t0 (by omega)) (by unfold plB at hp; simpa using hp)
    unfold tkV at hme
    have hplen := pls_len ls (A ls m).c (A ls m).t (A ls m).k m
    have bmlt : w1.heap.size < wK.heap.size := by
      obtain ⟨es, ckk, hh⟩ := (HT3.out.ext XK).heap
      exact (Array.getElem?_eq_some_iff.1 hh).1
    have qn : w4.cell? ⟨wK.heap.size, 0, none⟩ = some (.int .i64 m) := (but_grown g4).cell (by simp [go_sem]) (fun e => by have := Option.some.inj e; omega)
    have hs4 : w1.heap.size + 1 ≤ w4.heap.size := Nat.le_trans (by simp; omega) g4.size
    have E4 : Ext w1 w4 := (HKX.out.alloc (.cells #[.int .i64 m] 3)).grown g4 (fun k hk => by cases hk; exact Nat.le_refl _)
    have HME := Lib.hid hme
    have HO4 := Lib.hid ho4
    have HST := Lib.hid hst
    have HE4 := Lib.hid E4
    have HNEW : Hid (∀ j u, [Value.int .i64 (m : Int)][j]? = some u → w4.cell? ((⟨wK.heap.size, 0, none⟩ : Addr).add j) = some u) := Lib.hid (fun j u hu => by
      match j, hu with
      | 0, hu =>
        simp at hu
        subst hu
        simpa [Addr.add] using qn)
    have HONE : Hid (∀ u ∈ [Value.int .i64 (m : Int)], u.oneCell' = true) := Lib.hid (fun u hu => by simp at hu; subst hu; rfl)
    have HWM : Hid ((Lit.int .i64 (m : Int)).wf = true) := Lib.hid (wf_small (by omega) (by omega))
    have h63 : (pls ls (A ls m).c (A ls m).t (A ls m).k m).length + 1 ≤ maxLen := by unfold maxLen; omega
    have hby : ((pls ls (A ls m).c (A ls m).t (A ls m).k m).length + 1) * 8 ≤ 140737488355328 := by omega
    clear hme ho4 hst E4 TK g4 hbK XK qa_0 qa_1 qa_2 t0 t1
    generalize hpz : pls ls (A ls m).c (A ls m).t (A ls m).k m = zs at *
    clear hpz
    go_wp2_with (first
      | (at_builtin; refine wpList_append_own_at _ rfl _ _ 27 rfl (w1.heap.size + 1) 3 i0 (.int .i64 0) 1 8 Try.underlying27 hi hz0 hz1 hz2 rfl (by decide) v0 zs.length (zs.map (Value.int .i64)) rfl HO4.out.1 ⟨wK.heap.size, 0, none⟩ 1 1 [.int .i64 (m : Int)] rfl rfl HNEW.out HONE.out h63 hby hs4 ?_; intro v5 w5 h5 hg5 hnil hloc; obtain ⟨w6, hr6, hT6, hg6⟩ := HST.out w5 v5 hg5 (HO4.out.appended h5 HWM.out) (hloc.imp id (fun h => ⟨_, h, Nat.le_refl _⟩)); have HFIN6 := Lib.hid (And.intro hT6 ((HE4.out.grown hg5 (fun k hk => by have := (HO4.out.1.lt k hk).1; omega)).grown hg6 (fun k hk => by cases hk; exact Nat.le_refl _))); clear h5 hg5 hnil hloc hT6 hg6; go_frame)
      | (refine wpList_entry_run rfl _ _ 68 rfl rfl rfl HME.out ?_; go_frame)
      | (refine wpList_store_run rfl _ _ _ 68 rfl rfl rfl rfl hr6 ?_; go_frame)
      | go_in)
    exact ⟨⟨m + 1, by omega, by go_num, HAL.out, HFIN6.out.1, HFIN6.out.2⟩, by simp [intOf]; omega⟩
end Go.Proofs.Ytoaifbengichbaa

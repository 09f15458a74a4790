/- Two events, and two slices of events, the same? How long are they? -/
import Derived.Test.YtkbbneknblnbnaaEv1
import Derived.Test.YtkbbneknblnbnaaCf4
namespace Go.Proofs.Ytkbbneknblnbnaa
open Go.RowKit
set_option linter.unusedVariables false
set_option linter.unusedSimpArgs false
set_option maxHeartbeats 2000000
attribute [local go_sem] later_cell later_frozen later_const
theorem eEqual_is (x y : Ev) (u v : Value) (w : World) (hu : IntsV w u x.d) (hv : IntsV w v y.d) (lx : x.d.length ≤ 1000000) (ly : y.d.length ≤ 1000000) :
    Calls Try.prog 42 #[evA x u, evA y v] w fun e w' => e = .returned (.bool (decide (x = y))) ∧ Ext w w' := by
  have CE := Lib.hid (fun W (h : Ext w W) => equalS_is u v x.d y.d W (hu.ext h) (hv.ext h) lx ly)
  clear hu hv lx ly
  obtain ⟨k, t, o, n, p, c, d⟩ := x
  obtain ⟨k', t', o', n', p', c', d'⟩ := y
  unfold evA
  dsimp only at CE ⊢
  by_cases h0 : k = k'
  case neg =>
    have e0 : (k == k') = false := by simpa using h0
    rw [show decide ((⟨k, t, o, n, p, c, d⟩ : Ev) = ⟨k', t', o', n', p', c', d'⟩) = false by simp [h0]]
    go_enter Try.func42, Try.ntmps42
    go_wp2
    go_ret
    refine ⟨rfl, ?_⟩
    repeat (first | with_reducible exact Ext.refl _ | with_reducible assumption | with_reducible refine Ext.alloc ?_ _ | with_reducible refine Ext.drew ?_ | with_reducible refine Ext.drewN ?_ _ | with_reducible refine Ext.setCell ?_ (by simp <;> omega) _ | with_reducible refine Ext.trans ?_ (by assumption))
  subst h0
  by_cases h1 : t = t'
  case neg =>
    have e0 : (t == t') = false := by simpa using h1
    rw [show decide ((⟨k, t, o, n, p, c, d⟩ : Ev) = ⟨k, t', o', n', p', c', d'⟩) = false by simp [h1]]
    go_enter Try.func42, Try.ntmps42
    go_wp2
    go_ret
    refine ⟨rfl, ?_⟩
    repeat (first | with_reducible exact Ext.refl _ | with_reducible assumption | with_reducible refine Ext.alloc ?_ _ | with_reducible refine Ext.drew ?_ | with_reducible refine Ext.drewN ?_ _ | with_reducible refine Ext.setCell ?_ (by simp <;> omega) _ | with_reducible refine Ext.trans ?_ (by assumption))
  subst h1
  by_cases h2 : o = o'
  case neg =>
    have e0 : (o == o') = false := by simpa using h2
    rw [show decide ((⟨k, t, o, n, p, c, d⟩ : Ev) = ⟨k, t, o', n', p', c', d'⟩) = false by simp [h2]]
    go_enter Try.func42, Try.ntmps42
    go_wp2
    go_ret
    refine ⟨rfl, ?_⟩
    repeat (first | with_reducible exact Ext.refl _ | with_reducible assumption | with_reducible refine Ext.alloc ?_ _ | with_reducible refine Ext.drew ?_ | with_reducible refine Ext.drewN ?_ _ | with_reducible refine Ext.setCell ?_ (by simp <;> omega) _ | with_reducible refine Ext.trans ?_ (by assumption))
  subst h2
  by_cases h3 : n = n'
  case neg =>
    have e0 : (n == n') = false := by simpa using h3
    rw [show decide ((⟨k, t, o, n, p, c, d⟩ : Ev) = ⟨k, t, o, n', p', c', d'⟩) = false by simp [h3]]
    go_enter Try.func42, Try.ntmps42
    go_wp2
    go_ret
    refine ⟨rfl, ?_⟩
    repeat (first | with_reducible exact Ext.refl _ | with_reducible assumption | with_reducible refine Ext.alloc ?_ _ | with_reducible refine Ext.drew ?_ | with_reducible refine Ext.drewN ?_ _ | with_reducible refine Ext.setCell ?_ (by simp <;> omega) _ | with_reducible refine Ext.trans ?_ (by assumption))
  subst h3
  by_cases h4 : p = p'
  case neg =>
    have e0 : (p == p') = false := by simpa using h4
    rw [show decide ((⟨k, t, o, n, p, c, d⟩ : Ev) = ⟨k, t, o, n, p', c', d'⟩) = false by simp [h4]]
    go_enter Try.func42, Try.ntmps42
    go_wp2
    go_ret
    refine ⟨rfl, ?_⟩
    repeat (first | with_reducible exact Ext.refl _ | with_reducible assumption | with_reducible refine Ext.alloc ?_ _ | with_reducible refine Ext.drew ?_ | with_reducible refine Ext.drewN ?_ _ | with_reducible refine Ext.setCell ?_ (by simp <;> omega) _ | with_reducible refine Ext.trans ?_ (by assumption))
  subst h4
  by_cases h5 : c = c'
  case neg =>
    have e0 : (c == c') = false := by simpa using h5
    rw [show decide ((⟨k, t, o, n, p, c, d⟩ : Ev) = ⟨k, t, o, n, p, c', d'⟩) = false by simp [h5]]
    go_enter Try.func42, Try.ntmps42
    go_wp2
    go_ret
    refine ⟨rfl, ?_⟩
    repeat (first | with_reducible exact Ext.refl _ | with_reducible assumption | with_reducible refine Ext.alloc ?_ _ | with_reducible refine Ext.drew ?_ | with_reducible refine Ext.drewN ?_ _ | with_reducible refine Ext.setCell ?_ (by simp <;> omega) _ | with_reducible refine Ext.trans ?_ (by assumption))
  subst h5
  rw [show decide ((⟨k, t, o, n, p, c, d⟩ : Ev) = ⟨k, t, o, n, p, c, d'⟩) = decide (d = d') by simp]
  generalize decide (d = d') = r at *
  go_enter Try.func42, Try.ntmps42
  go_wp2_with fail
  refine (CE.out _ (by repeat (first | with_reducible exact Ext.refl _ | with_reducible assumption | with_reducible refine Ext.alloc ?_ _ | with_reducible refine Ext.drew ?_ | with_reducible refine Ext.drewN ?_ _ | with_reducible refine Ext.setCell ?_ (by simp <;> omega) _ | with_reducible refine Ext.trans ?_ (by assumption)))).mono ?_
  rintro e w2 ⟨rfl, X2⟩
  have X3 : Ext w w2 := Ext.trans (by repeat (first | with_reducible exact Ext.refl _ | with_reducible assumption | with_reducible refine Ext.alloc ?_ _ | with_reducible refine Ext.drew ?_ | with_reducible refine Ext.drewN ?_ _ | with_reducible refine Ext.setCell ?_ (by simp <;> omega) _ | with_reducible refine Ext.trans ?_ (by assumption))) X2
  clear X2
  cases r
  · go_wp2
    go_ret
    exact ⟨rfl, X3⟩
  · go_wp2
    go_ret
    exact ⟨rfl, X3⟩
theorem rOne_is (x y : Ev) (u v : Value) (w : World) (hu : IntsV w u x.d) (hv : IntsV w v y.d) (lx : x.d.length ≤ 1000000) (ly : y.d.length ≤ 1000000) :
    Calls Try.prog 35 #[evA x u, evA y v] w fun e w' => e = .returned (.bool (decide (x = y))) ∧ Ext w w' := by
  have CE := Lib.hid (fun W (h : Ext w W) => same5_is u v x.d y.d W (hu.ext h) (hv.ext h) lx ly)
  clear hu hv lx ly
  obtain ⟨k, t, o, n, p, c, d⟩ := x
  obtain ⟨k', t', o', n', p', c', d'⟩ := y
  unfold evA
  dsimp only at CE ⊢
  by_cases h0 : k = k'
  case neg =>
    have e0 : (k == k') = false := by simpa using h0
    rw [show decide ((⟨k, t, o, n, p, c, d⟩ : Ev) = ⟨k', t', o', n', p', c', d'⟩) = false by simp [h0]]
    go_enter Try.func35, Try.ntmps35
    go_wp2
    go_ret
    refine ⟨rfl, ?_⟩
    repeat (first | with_reducible exact Ext.refl _ | with_reducible assumption | with_reducible refine Ext.alloc ?_ _ | with_reducible refine Ext.drew ?_ | with_reducible refine Ext.drewN ?_ _ | with_reducible refine Ext.setCell ?_ (by simp <;> omega) _ | with_reducible refine Ext.trans ?_ (by assumption))
  subst h0
  by_cases h1 : t = t'
  case neg =>
    have e0 : (t == t') = false := by simpa using h1
    rw [show decide ((⟨k, t, o, n, p, c, d⟩ : Ev) = ⟨k, t', o', n', p', c', d'⟩) = false by simp [h1]]
    go_enter Try.func35, Try.ntmps35
    go_wp2
    go_ret
    refine ⟨rfl, ?_⟩
    repeat (first | with_reducible exact Ext.refl _ | with_reducible assumption | with_reducible refine Ext.alloc ?_ _ | with_reducible refine Ext.drew ?_ | with_reducible refine Ext.drewN ?_ _ | with_reducible refine Ext.setCell ?_ (by simp <;> omega) _ | with_reducible refine Ext.trans ?_ (by assumption))
  subst h1
  by_cases h2 : o = o'
  case neg =>
    have e0 : (o == o') = false := by simpa using h2
    rw [show decide ((⟨k, t, o, n, p, c, d⟩ : Ev) = ⟨k, t, o', n', p', c', d'⟩) = false by simp [h2]]
    go_enter Try.func35, Try.ntmps35
    go_wp2
    go_ret
    refine ⟨rfl, ?_⟩
    repeat (first | with_reducible exact Ext.refl _ | with_reducible assumption | with_reducible refine Ext.alloc ?_ _ | with_reducible refine Ext.drew ?_ | with_reducible refine Ext.drewN ?_ _ | with_reducible refine Ext.setCell ?_ (by simp <;> omega) _ | with_reducible refine Ext.trans ?_ (by assumption))
  subst h2
  by_cases h3 : n = n'
  case neg =>
    have e0 : (n == n') = false := by simpa using h3
    rw [show decide ((⟨k, t, o, n, p, c, d⟩ : Ev) = ⟨k, t, o, n', p', c', d'⟩) = false by simp [h3]]
    go_enter Try.func35, Try.ntmps35
    go_wp2
    go_ret
    refine ⟨rfl, ?_⟩
    repeat (first | with_reducible exact Ext.refl _ | with_reducible assumption | with_reducible refine Ext.alloc ?_ _ | with_reducible refine Ext.drew ?_ | with_reducible refine Ext.drewN ?_ _ | with_reducible refine Ext.setCell ?_ (by simp <;> omega) _ | with_reducible refine Ext.trans ?_ (by assumption))
  subst h3
  by_cases h4 : p = p'
  case neg =>
    have e0 : (p == p') = false := by simpa using h4
    rw [show decide ((⟨k, t, o, n, p, c, d⟩ : Ev) = ⟨k, t, o, n, p', c', d'⟩) = false by simp [h4]]
    go_enter Try.func35, Try.ntmps35
    go_wp2
    go_ret
    refine ⟨rfl, ?_⟩
    repeat (first | with_reducible exact Ext.refl _ | with_reducible assumption | with_reducible refine Ext.alloc ?_ _ | with_reducible refine Ext.drew ?_ | with_reducible refine Ext.drewN ?_ _ | with_reducible refine Ext.setCell ?_ (by simp <;> omega) _ | with_reducible refine Ext.trans ?_ (by assumption))
  subst h4
  by_cases h5 : c = c'
  case neg =>
    have e0 : (c == c') = false := by simpa using h5
    rw [show decide ((⟨k, t, o, n, p, c, d⟩ : Ev) = ⟨k, t, o, n, p, c', d'⟩) = false by simp [h5]]
    go_enter Try.func35, Try.ntmps35
    go_wp2
    go_ret
    refine ⟨rfl, ?_⟩
    repeat (first | with_reducible exact Ext.refl _ | with_reducible assumption | with_reducible refine Ext.alloc ?_ _ | with_reducible refine Ext.drew ?_ | with_reducible refine Ext.drewN ?_ _ | with_reducible refine Ext.setCell ?_ (by simp <;> omega) _ | with_reducible refine Ext.trans ?_ (by assumption))
  subst h5
  rw [show decide ((⟨k, t, o, n, p, c, d⟩ : Ev) = ⟨k, t, o, n, p, c, d'⟩) = decide (d = d') by simp]
  generalize decide (d = d') = r at *
  go_enter Try.func35, Try.ntmps35
  go_wp2_with fail
  refine (CE.out _ (by repeat (first | with_reducible exact Ext.refl _ | with_reducible assumption | with_reducible refine Ext.alloc ?_ _ | with_reducible refine Ext.drew ?_ | with_reducible refine Ext.drewN ?_ _ | with_reducible refine Ext.setCell ?_ (by simp <;> omega) _ | with_reducible refine Ext.trans ?_ (by assumption)))).mono ?_
  rintro e w2 ⟨rfl, X2⟩
  have X3 : Ext w w2 := Ext.trans (by repeat (first | with_reducible exact Ext.refl _ | with_reducible assumption | with_reducible refine Ext.alloc ?_ _ | with_reducible refine Ext.drew ?_ | with_reducible refine Ext.drewN ?_ _ | with_reducible refine Ext.setCell ?_ (by simp <;> omega) _ | with_reducible refine Ext.trans ?_ (by assumption))) X2
  clear X2
  cases r
  · go_wp2
    go_ret
    exact ⟨rfl, X3⟩
  · go_wp2
    go_ret
    exact ⟨rfl, X3⟩
theorem getD_take {α : Type} {xs ys : List α} {k : Nat} (h : xs.take k = ys.take k) (hx : k < xs.length) (hy : k < ys.length) (e : xs[k] = ys[k]) : xs.take (k + 1) = ys.take (k + 1) := by
  rw [List.take_succ_eq_append_getElem hx, List.take_succ_eq_append_getElem hy, h, e]
/-- where a slice of events lies, and what it has -/
theorem EvsV.get {w : World} {B : Nat} {v : Value} {L : List Ev} (h : EvsV w B v L) : ∃ a cap, v = .slice a L.length cap ∧ L.length ≤ 9223372036854775807 ∧ ∀ w', Ext w w' → ∀ i (hi : i < L.length), ∃ b off u, a = some ⟨b, off, none⟩ ∧ AtE w' B b (off + i * 7) u L[i] := by
  obtain ⟨a, cap, e, hc, hm⟩ := h.form
  subst e
  exact ⟨a, cap, rfl, by unfold maxLen at hm; omega, fun w' hx i hi => h.at hx hi⟩
theorem rSame_is {B1 B2 : Nat} (a b : Value) (xs ys : List Ev) (w : World) (h1 : EvsV w B1 a xs) (h2 : EvsV w B2 b ys) (k1 : ∀ e ∈ xs, e.d.length ≤ 1000000) (k2 : ∀ e ∈ ys, e.d.length ≤ 1000000) :
    Calls Try.prog 14 #[a, b] w fun e w' => e = .returned (.bool (decide (xs = ys))) ∧ Ext w w' := by
  obtain ⟨a1, c1, e, hm1, f1⟩ := h1.get
  subst e
  obtain ⟨a2, c2, e, hm2, f2⟩ := h2.get
  subst e
  have H1 := Lib.hid f1
  have H2 := Lib.hid f2
  have K1 := Lib.hid k1
  have K2 := Lib.hid k2
  obtain ⟨n, hn⟩ : ∃ n, n = xs.length := ⟨_, rfl⟩
  obtain ⟨m, hm⟩ : ∃ m, m = ys.length := ⟨_, rfl⟩
  rw [← hn, ← hm]
  rw [← hn] at hm1
  rw [← hm] at hm2
  clear h1 h2 f1 f2 k1 k2
  by_cases hnm : n = m
  case neg =>
    have e : decide (xs = ys) = false := by
      rw [decide_eq_false_iff_not]
      intro e
      rw [e] at hn
      omega
    rw [e]
    have k : ((n : Int) != (m : Int)) = true := by simp; omega
    clear hn hm e hnm
    go_enter Try.func14, Try.ntmps14
    go_wp2
    go_ret
    exact ⟨rfl, Ext.refl _⟩
  subst hnm
  have HN := Lib.hid hn
  have HM := Lib.hid hm
  clear hn hm
  generalize hv : decide (xs = ys) = v
  have HV := Lib.hid hv
  clear hv
  go_enter Try.func14, Try.ntmps14
  go_wp2
  go_loopw [5] (fun i wr => ∃ k : Nat, k ≤ n ∧ i = .int .i64 k ∧ Ext w wr ∧ Hid (xs.take k = ys.take k)) (fun i _ => n - (intOf i).toNat)
  case atStart => exact ⟨0, Nat.zero_le _, rfl, Ext.refl _, Lib.hid rfl⟩
  case round =>
    obtain ⟨k, hk, rfl, hx, HT⟩ := hrel
    by_cases hlt : k < n
    · have hkx : k < xs.length := by have := HN.out; omega
      have hky : k < ys.length := by have := HM.out; omega
      have hkn : (k : Int) < (n : Int) := by omega
      obtain ⟨b1, o1, u1, e1, A1⟩ := H1.out wr hx k hkx
      obtain ⟨b2, o2, u2, e2, A2⟩ := H2.out wr hx k hky
      subst e1
      subst e2
      have L1 := K1.out xs[k] (List.getElem_mem hkx)
      have L2 := K2.out ys[k] (List.getElem_mem hky)
      have CE := Lib.hid (fun (g : Later wr) => rOne_is xs[k] ys[k] u1 u2 g.world (A1.d.ints.ext g.ok) (A2.d.ints.ext g.ok) L1 L2)
      have HTS := Lib.hid (fun e => getD_take HT.out hkx hky e)
      have HTN : Hid (¬ xs[k] = ys[k] → false = v) := Lib.hid (fun h => by
        rw [← HV.out]
        symm
        rw [decide_eq_false_iff_not]
        intro e
        subst e
        exact h rfl)
      obtain ⟨c0, c1', c2', c3, c4, c5, c6, -⟩ := A1
      obtain ⟨d0, d1, d2, d3, d4, d5, d6, -⟩ := A2
      clear L1 L2 HT
      generalize xs[k] = x at *
      generalize ys[k] = y at *
      unfold evA at CE
      by_cases hxy : x = y
      · have HT2 := Lib.hid (HTS.out hxy)
        have hdd : decide (x = y) = true := by simpa using hxy
        rw [hdd] at CE
        clear HTS HTN hdd hxy hkx hky
        go_wp2
        refine wp_region_later (by kernel_rfl) (by kernel_rfl) ?_
        have l0 := fun (g : Later wr) => g.ok.cell c0
        have l1 := fun (g : Later wr) => g.ok.cell c1'
        have l2 := fun (g : Later wr) => g.ok.cell c2'
        have l3 := fun (g : Later wr) => g.ok.cell c3
        have l4 := fun (g : Later wr) => g.ok.cell c4
        have l5 := fun (g : Later wr) => g.ok.cell c5
        have l6 := fun (g : Later wr) => g.ok.cell c6
        have m0 := fun (g : Later wr) => g.ok.cell d0
        have m1 := fun (g : Later wr) => g.ok.cell d1
        have m2 := fun (g : Later wr) => g.ok.cell d2
        have m3 := fun (g : Later wr) => g.ok.cell d3
        have m4 := fun (g : Later wr) => g.ok.cell d4
        have m5 := fun (g : Later wr) => g.ok.cell d5
        have m6 := fun (g : Later wr) => g.ok.cell d6
        repeat (go_big_quiet_step ((fail)))
        go_big_quiet_step ((go_at_call 35; exact laterC (CE.out _)))
        repeat (go_big_quiet_step ((fail)))
        refine wpQuiet_nil ?_
        intro w6 hl6
        have X6 := laters_ext hl6
        clear hl6 l0 l1 l2 l3 l4 l5 l6 m0 m1 m2 m3 m4 m5 m6
        go_wp2
        exact ⟨⟨k + 1, by omega, by go_num, hx.trans X6, HT2⟩, by simp [intOf]; omega⟩
      · have HVV := Lib.hid (HTN.out hxy)
        have hdd : decide (x = y) = false := by simpa using hxy
        rw [hdd] at CE
        clear HTS HTN hdd hxy hkx hky
        go_wp2
        refine wp_region_later (by kernel_rfl) (by kernel_rfl) ?_
        have l0 := fun (g : Later wr) => g.ok.cell c0
        have l1 := fun (g : Later wr) => g.ok.cell c1'
        have l2 := fun (g : Later wr) => g.ok.cell c2'
        have l3 := fun (g : Later wr) => g.ok.cell c3
        have l4 := fun (g : Later wr) => g.ok.cell c4
        have l5 := fun (g : Later wr) => g.ok.cell c5
        have l6 := fun (g : Later wr) => g.ok.cell c6
        have m0 := fun (g : Later wr) => g.ok.cell d0
        have m1 := fun (g : Later wr) => g.ok.cell d1
        have m2 := fun (g : Later wr) => g.ok.cell d2
        have m3 := fun (g : Later wr) => g.ok.cell d3
        have m4 := fun (g : Later wr) => g.ok.cell d4
        have m5 := fun (g : Later wr) => g.ok.cell d5
        have m6 := fun (g : Later wr) => g.ok.cell d6
        repeat (go_big_quiet_step ((fail)))
        go_big_quiet_step ((go_at_call 35; exact laterC (CE.out _)))
        repeat (go_big_quiet_step ((fail)))
        refine wpQuiet_nil ?_
        intro w6 hl6
        have X6 := laters_ext hl6
        clear hl6 l0 l1 l2 l3 l4 l5 l6 m0 m1 m2 m3 m4 m5 m6
        go_wp2
        go_ret
        exact ⟨congrArg (fun x => Ending.returned (Value.bool x)) HVV.out, hx.trans X6⟩
    · have HVV : Hid (true = v) := Lib.hid (by
        rw [← HV.out]
        symm
        rw [decide_eq_true_eq]
        exact take_all HT.out (by have := HN.out; omega) (by have := HM.out; omega))
      clear HT
      go_wp2
      go_ret
      exact ⟨congrArg (fun x => Ending.returned (Value.bool x)) HVV.out, hx⟩
end Go.Proofs.Ytkbbneknblnbnaa

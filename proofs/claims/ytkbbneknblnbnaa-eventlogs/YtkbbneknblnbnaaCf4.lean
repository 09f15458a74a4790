/- Two lists, and two graphs, the same? (the document's Same and Graphs; slices.Equal, EqualFunc) -/
import Derived.Test.YtkbbneknblnbnaaLists
import Derived.Deep.DeepCutAuto
namespace Go.Proofs.Ytkbbneknblnbnaa
open Go.RowKit
set_option linter.unusedVariables false
set_option maxHeartbeats 1000000
attribute [local go_sem] later_cell later_frozen later_const
theorem take_same {α : Type} {xs ys : List α} {k : Nat} (d : α) (h : xs.take k = ys.take k) (hx : k < xs.length) (hy : k < ys.length) (e : xs.getD k d = ys.getD k d) : xs.take (k + 1) = ys.take (k + 1) := by
  rw [List.take_succ_eq_append_getElem hx, List.take_succ_eq_append_getElem hy, h]
  rw [show xs.getD k d = xs[k] by simp [hx], show ys.getD k d = ys[k] by simp [hy]] at e
  rw [e]
theorem take_all {α : Type} {xs ys : List α} {k : Nat} (h : xs.take k = ys.take k) (hx : xs.length ≤ k) (hy : ys.length ≤ k) : xs = ys := by
  rwa [List.take_of_length_le hx, List.take_of_length_le hy] at h
theorem same5_is (a b : Value) (xs ys : List Int) (w : World) (h1 : IntsV w a xs) (h2 : IntsV w b ys) (hl : xs.length ≤ 1000000) (hl2 : ys.length ≤ 1000000) :
    Calls Try.prog 53 #[a, b] w fun e w' => e = .returned (.bool (decide (xs = ys))) ∧ Ext w w' := by
  obtain ⟨a1, c1, rfl, f1⟩ := h1.form
  obtain ⟨a2, c2, rfl, f2⟩ := h2.form
  have H1 := Lib.hid f1
  have H2 := Lib.hid f2
  obtain ⟨n, hn⟩ : ∃ n, n = xs.length := ⟨_, rfl⟩
  obtain ⟨m, hm⟩ : ∃ m, m = ys.length := ⟨_, rfl⟩
  rw [← hn, ← hm]
  rw [← hn] at hl
  rw [← hm] at hl2
  clear f1 f2 h1 h2
  by_cases hnm : n = m
  · subst hnm
    have HN := Lib.hid hn
    have HM := Lib.hid hm
    clear hn hm
    generalize hv : decide (xs = ys) = v
    have HV := Lib.hid hv
    clear hv
    go_enter Try.func53, Try.ntmps53
    go_wp2
    go_loopw [5] (fun i wr => ∃ k : Nat, k ≤ n ∧ i = .int .i64 k ∧ Ext w wr ∧ Hid (xs.take k = ys.take k)) (fun i _ => n - (intOf i).toNat)
    case atStart => exact ⟨0, Nat.zero_le _, rfl, Ext.refl _, Lib.hid rfl⟩
    case round =>
      obtain ⟨k, hk, rfl, hx, HT⟩ := hrel
      by_cases hlt : k < n
      · have hkx : k < xs.length := by have := HN.out; omega
        have hky : k < ys.length := by have := HM.out; omega
        obtain ⟨b1, o1, e1, q1⟩ := H1.out k hkx
        obtain ⟨b2, o2, e2, q2⟩ := H2.out k hky
        subst e1
        subst e2
        have d1 := hx.cell q1
        have d2 := hx.cell q2
        have hkn : (k : Int) < (n : Int) := by omega
        have HTS := Lib.hid (fun e => take_same (0 : Int) HT.out hkx hky e)
        by_cases hz : xs.getD k 0 = ys.getD k 0
        · have HT2 := Lib.hid (HTS.out hz)
          rw [← hz] at d2
          clear q1 q2 HTS hz HT hkx hky
          generalize xs.getD k 0 = z at *
          go_wp2
          refine wp_region_later (by kernel_rfl) (by kernel_rfl) ?_
          have l1 := fun (g : Later wr) => g.ok.cell d1
          have l2 := fun (g : Later wr) => g.ok.cell d2
          repeat (go_big_quiet_step ((fail)))
          refine wpQuiet_nil ?_
          intro w6 hl6
          have X6 := laters_ext hl6
          clear hl6 l1 l2
          go_wp2
          exact ⟨⟨k + 1, by omega, by go_num, hx.trans X6, HT2⟩, by simp [intOf]; omega⟩
        · have HVV : Hid (false = v) := Lib.hid (by
            rw [← HV.out]
            symm
            rw [decide_eq_false_iff_not]
            intro e
            exact hz (by rw [e]))
          have kz : (xs.getD k 0 != ys.getD k 0) = true := by simpa using hz
          clear q1 q2 HTS hz HT hkx hky
          generalize xs.getD k 0 = z at *
          generalize ys.getD k 0 = z' at *
          go_wp2
          refine wp_region_later (by kernel_rfl) (by kernel_rfl) ?_
          have l1 := fun (g : Later wr) => g.ok.cell d1
          have l2 := fun (g : Later wr) => g.ok.cell d2
          repeat (go_big_quiet_step ((fail)))
          refine wpQuiet_nil ?_
          intro w6 hl6
          have X6 := laters_ext hl6
          clear hl6 l1 l2
          go_wp2
          go_ret
          exact ⟨congrArg (fun x => Ending.returned (Value.bool x)) HVV.out, hx.trans X6⟩
      · have HVV : Hid (true = v) := Lib.hid (by
          rw [← HV.out]
          symm
          rw [decide_eq_true_eq]
          exact take_all HT.out (by have := HN.out; omega) (by have := HM.out; omega))
        clear HT
        go_wp2
        go_ret
        exact ⟨congrArg (fun x => Ending.returned (Value.bool x)) HVV.out, hx⟩
  · have e : decide (xs = ys) = false := by
      rw [decide_eq_false_iff_not]
      intro e
      rw [e] at hn
      omega
    rw [e]
    have k : ((n : Int) != (m : Int)) = true := by simp; omega
    clear hn hm e hnm
    go_enter Try.func53, Try.ntmps53
    go_wp2
    go_ret
    exact ⟨rfl, Ext.refl _⟩
theorem equalS_is (a b : Value) (xs ys : List Int) (w : World) (h1 : IntsV w a xs) (h2 : IntsV w b ys) (hl : xs.length ≤ 1000000) (hl2 : ys.length ≤ 1000000) :
    Calls Try.prog 55 #[a, b] w fun e w' => e = .returned (.bool (decide (xs = ys))) ∧ Ext w w' := by
  obtain ⟨a1, c1, rfl, f1⟩ := h1.form
  obtain ⟨a2, c2, rfl, f2⟩ := h2.form
  have H1 := Lib.hid f1
  have H2 := Lib.hid f2
  obtain ⟨n, hn⟩ : ∃ n, n = xs.length := ⟨_, rfl⟩
  obtain ⟨m, hm⟩ : ∃ m, m = ys.length := ⟨_, rfl⟩
  rw [← hn, ← hm]
  rw [← hn] at hl
  rw [← hm] at hl2
  clear f1 f2 h1 h2
  by_cases hnm : n = m
  · subst hnm
    have HN := Lib.hid hn
    have HM := Lib.hid hm
    clear hn hm
    generalize hv : decide (xs = ys) = v
    have HV := Lib.hid hv
    clear hv
    go_enter Try.func55, Try.ntmps55
    go_wp2
    go_loopw [13] (fun i wr => ∃ k : Nat, k ≤ n ∧ i = .int .i64 k ∧ Ext w wr ∧ Hid (xs.take k = ys.take k)) (fun i _ => n - (intOf i).toNat)
    case atStart => exact ⟨0, Nat.zero_le _, rfl, Ext.refl _, Lib.hid rfl⟩
    case round =>
      obtain ⟨k, hk, rfl, hx, HT⟩ := hrel
      by_cases hlt : k < n
      · have hkx : k < xs.length := by have := HN.out; omega
        have hky : k < ys.length := by have := HM.out; omega
        obtain ⟨b1, o1, e1, q1⟩ := H1.out k hkx
        obtain ⟨b2, o2, e2, q2⟩ := H2.out k hky
        subst e1
        subst e2
        have d1 := hx.cell q1
        have d2 := hx.cell q2
        have hkn : (k : Int) < (n : Int) := by omega
        have HTS := Lib.hid (fun e => take_same (0 : Int) HT.out hkx hky e)
        by_cases hz : xs.getD k 0 = ys.getD k 0
        · have HT2 := Lib.hid (HTS.out hz)
          rw [← hz] at d2
          clear q1 q2 HTS hz HT hkx hky
          generalize xs.getD k 0 = z at *
          go_wp2
          refine wp_region_later (by kernel_rfl) (by kernel_rfl) ?_
          have l1 := fun (g : Later wr) => g.ok.cell d1
          have l2 := fun (g : Later wr) => g.ok.cell d2
          repeat (go_big_quiet_step ((fail)))
          refine wpQuiet_nil ?_
          intro w6 hl6
          have X6 := laters_ext hl6
          clear hl6 l1 l2
          go_wp2
          exact ⟨⟨k + 1, by omega, by go_num, hx.trans X6, HT2⟩, by simp [intOf]; omega⟩
        · have HVV : Hid (false = v) := Lib.hid (by
            rw [← HV.out]
            symm
            rw [decide_eq_false_iff_not]
            intro e
            exact hz (by rw [e]))
          have kz : (xs.getD k 0 != ys.getD k 0) = true := by simpa using hz
          clear q1 q2 HTS hz HT hkx hky
          generalize xs.getD k 0 = z at *
          generalize ys.getD k 0 = z' at *
          go_wp2
          refine wp_region_later (by kernel_rfl) (by kernel_rfl) ?_
          have l1 := fun (g : Later wr) => g.ok.cell d1
          have l2 := fun (g : Later wr) => g.ok.cell d2
          repeat (go_big_quiet_step ((fail)))
          refine wpQuiet_nil ?_
          intro w6 hl6
          have X6 := laters_ext hl6
          clear hl6 l1 l2
          go_wp2
          go_ret
          exact ⟨congrArg (fun x => Ending.returned (Value.bool x)) HVV.out, hx.trans X6⟩
      · have HVV : Hid (true = v) := Lib.hid (by
          rw [← HV.out]
          symm
          rw [decide_eq_true_eq]
          exact take_all HT.out (by have := HN.out; omega) (by have := HM.out; omega))
        clear HT
        go_wp2
        go_ret
        exact ⟨congrArg (fun x => Ending.returned (Value.bool x)) HVV.out, hx⟩
  · have e : decide (xs = ys) = false := by
      rw [decide_eq_false_iff_not]
      intro e
      rw [e] at hn
      omega
    rw [e]
    have k : ((n : Int) != (m : Int)) = true := by simp; omega
    clear hn hm e hnm
    go_enter Try.func55, Try.ntmps55
    go_wp2
    go_ret
    exact ⟨rfl, Ext.refl _⟩
end Go.Proofs.Ytkbbneknblnbnaa

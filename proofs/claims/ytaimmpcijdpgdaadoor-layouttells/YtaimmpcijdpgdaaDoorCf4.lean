/- Two lists, and two graphs, the same? (the document's Same and Graphs; slices.Equal, EqualFunc) -/
import Derived.Test.YtaimmpcijdpgdaaDoorLists
import Derived.Deep.DeepCutAuto
namespace Go.Proofs.YtaimmpcijdpgdaaDoor
open Go.RowKit
set_option linter.unusedVariables false
set_option maxHeartbeats 1000000
attribute [local go_sem] later_cell later_frozen later_const
theorem take_same {α : Type} {xs ys : List α} {k : Nat} (d : α) (h : xs.take k = ys.take k) (hx : k < xs.length) (hy : k < ys.length) (e : xs.getD k d = ys.getD k d) : xs.take (k + 1) = ys.take (k + 1) := by
  rw [List.take_succ_eq_append_getElem hx, List.take_succ_eq_append_getElem hy, h]
  rw [show xs.getD k d = xs[k] by simp [hx], show ys.getD k d = ys[k] by simp [hy]] at e
  rw [e]
theorem take_all {α : Type} {xs ys : List α} {k : Nat} (h : xs.take k = ys.take k) (hx : xs.length ≤ k) (hy : ys.length ≤ k) : xs = ys := by
  rwa [List.take_of_length_le hx, List.take_of_length_le hy] at h
theorem same5_is (a b : Value) (xs ys : List Int) (w : World) (h1 : IntsV w a xs) (h2 : IntsV w b ys) (hl : xs.length ≤ 1000000) (hl2 : ys.length ≤ 1000000) :
    Calls Tryd.prog 50 #[a, b] w fun e w' => e = .returned (.bool (decide (xs = ys))) ∧ Ext w w' := by
  obtain ⟨a1, c1, rfl, f1⟩ := h1.form
  obtain ⟨a2, c2, rfl, f2⟩ := h2.form
  have H1 := Lib.hid f1
  have H2 := Lib.hid f2
  obtain ⟨n, hn⟩ : ∃ n, n = xs.length := ⟨_, rfl⟩
  obtain ⟨m, hm⟩ : ∃ m, m = ys.length := ⟨_, rfl⟩
  rw [← hn, ← hm]
  rw [← hn] at hl
  rw [← hm] at hl2
  clear f1 f2 h1 h2
  by_cases hnm : n = m
  · subst hnm
    have HN := Lib.hid hn
    have HM := Lib.hid hm
    clear hn hm
    generalize hv : decide (xs = ys) = v
    have HV := Lib.hid hv
    clear hv
    go_enter Tryd.func50, Tryd.ntmps50
    go_wp2
    go_loopw [5] (fun i wr => ∃ k : Nat, k ≤ n ∧ i = .int .i64 k ∧ Ext w wr ∧ Hid (xs.take k = ys.take k)) (fun i _ => n - (intOf i).toNat)
    case atStart => exact ⟨0, Nat.zero_le _, rfl, Ext.refl _, Lib.hid rfl⟩
    case round =>
      obtain ⟨k, hk, rfl, hx, HT⟩ := hrel
      by_cases hlt : k < n
      · have hkx : k < xs.length := by have := HN.out; omega
        have hky : k < ys.length := by have := HM.out; omega
        obtain ⟨b1, o1, e1, q1⟩ := H1.out k hkx
        obtain ⟨b2, o2, e2, q2⟩ := H2.out k hky
        subst e1
        subst e2
        have d1 := hx.cell q1
        have d2 := hx.cell q2
        have hkn : (k : Int) < (n : Int) := by omega
        have HTS := Lib.hid (fun e => take_same (0 : Int) HT.out hkx hky e)
        by_cases hz : xs.getD k 0 = ys.getD k 0
        · have HT2 := Lib.hid (HTS.out hz)
          rw [← hz] at d2
          clear q1 q2 HTS hz HT hkx hky
          generalize xs.getD k 0 = z at *
          go_wp2
          refine wp_region_later (by kernel_rfl) (by kernel_rfl) ?_
          have l1 := fun (g : Later wr) => g.ok.cell d1
          have l2 := fun (g : Later wr) => g.ok.cell d2
          repeat (go_big_quiet_step ((fail)))
          refine wpQuiet_nil ?_
          intro w6 hl6
          have X6 := laters_ext hl6
          clear hl6 l1 l2
          go_wp2
          exact ⟨⟨k + 1, by omega, by go_num, hx.trans X6, HT2⟩, by simp [intOf]; omega⟩
        · have HVV : Hid (false = v) := Lib.hid (by
            rw [← HV.out]
            symm
            rw [decide_eq_false_iff_not]
            intro e
            exact hz (by rw [e]))
          have kz : (xs.getD k 0 != ys.getD k 0) = true := by simpa using hz
          clear q1 q2 HTS hz HT hkx hky
          generalize xs.getD k 0 = z at *
          generalize ys.getD k 0 = z' at *
          go_wp2
          refine wp_region_later (by kernel_rfl) (by kernel_rfl) ?_
          have l1 := fun (g : Later wr) => g.ok.cell d1
          have l2 := fun (g : Later wr) => g.ok.cell d2
          repeat (go_big_quiet_step ((fail)))
          refine wpQuiet_nil ?_
          intro w6 hl6
          have X6 := laters_ext hl6
          clear hl6 l1 l2
          go_wp2
          go_ret
          exact ⟨congrArg (fun x => Ending.returned (Value.bool x)) HVV.out, hx.trans X6⟩
      · have HVV : Hid (true = v) := Lib.hid (by
          rw [← HV.out]
          symm
          rw [decide_eq_true_eq]
          exact take_all HT.out (by have := HN.out; omega) (by have := HM.out; omega))
        clear HT
        go_wp2
        go_ret
        exact ⟨congrArg (fun x => Ending.returned (Value.bool x)) HVV.out, hx⟩
  · have e : decide (xs = ys) = false := by
      rw [decide_eq_false_iff_not]
      intro e
      rw [e] at hn
      omega
    rw [e]
    have k : ((n : Int) != (m : Int)) = true := by simp; omega
    clear hn hm e hnm
    go_enter Tryd.func50, Tryd.ntmps50
    go_wp2
    go_ret
    exact ⟨rfl, Ext.refl _⟩
theorem rGraphs_is (a b : Value) (xs ys : List (List Int)) (w : World) (h1 : ListsV w a xs) (h2 : ListsV w b ys) (hl : xs.length ≤ 1000000) (hl2 : ys.length ≤ 1000000) (k1 : ∀ l ∈ xs, l.length ≤ 1000000) (k2 : ∀ l ∈ ys, l.length ≤ 1000000) :
    Calls Tryd.prog 33 #[a, b] w fun e w' => e = .returned (.bool (decide (xs = ys))) ∧ Ext w w' := by
  obtain ⟨a1, c1, e, -⟩ := id h1
  subst e
  obtain ⟨a2, c2, e, -⟩ := id h2
  subst e
  have H1 := Lib.hid h1
  have H2 := Lib.hid h2
  have K1 := Lib.hid k1
  have K2 := Lib.hid k2
  obtain ⟨n, hn⟩ : ∃ n, n = xs.length := ⟨_, rfl⟩
  obtain ⟨m, hm⟩ : ∃ m, m = ys.length := ⟨_, rfl⟩
  rw [← hn, ← hm]
  rw [← hn] at hl
  rw [← hm] at hl2
  clear h1 h2 k1 k2
  by_cases hnm : n = m
  · subst hnm
    have HN := Lib.hid hn
    have HM := Lib.hid hm
    clear hn hm
    generalize hv : decide (xs = ys) = v
    have HV := Lib.hid hv
    clear hv
    go_enter Tryd.func33, Tryd.ntmps33
    go_wp2
    go_loopw [5] (fun i wr => ∃ k : Nat, k ≤ n ∧ i = .int .i64 k ∧ Ext w wr ∧ Hid (xs.take k = ys.take k)) (fun i _ => n - (intOf i).toNat)
    case atStart => exact ⟨0, Nat.zero_le _, rfl, Ext.refl _, Lib.hid rfl⟩
    case round =>
      obtain ⟨k, hk, rfl, hx, HT⟩ := hrel
      by_cases hlt : k < n
      · have hkx : k < xs.length := by have := HN.out; omega
        have hky : k < ys.length := by have := HM.out; omega
        obtain ⟨b1, o1, u1, cu1, e1, d1, i1⟩ := H1.out.at hx hkx
        obtain ⟨b2, o2, u2, cu2, e2, d2, i2⟩ := H2.out.at hx hky
        subst e1
        subst e2
        have hkn : (k : Int) < (n : Int) := by omega
        have HTS := Lib.hid (fun e => take_same ([] : List Int) HT.out hkx hky e)
        have CE := fun (g : Later wr) => same5_is _ _ _ _ g.world (i1.ext g.ok) (i2.ext g.ok) (K1.out _ (by rw [show xs.getD k [] = xs[k] by simp [hkx]]; exact List.getElem_mem hkx)) (K2.out _ (by rw [show ys.getD k [] = ys[k] by simp [hky]]; exact List.getElem_mem hky))
        by_cases hz : xs.getD k [] = ys.getD k []
        · have HT2 := Lib.hid (HTS.out hz)
          rw [decide_eq_true hz] at CE
          have HCE := Lib.hid CE
          clear CE i1 i2 HTS hz HT hkx hky
          generalize (xs.getD k []).length = z at *
          generalize (ys.getD k []).length = z' at *
          go_wp2
          refine wp_region_later (by kernel_rfl) (by kernel_rfl) ?_
          have l1 := fun (g : Later wr) => g.ok.cell d1
          have l2 := fun (g : Later wr) => g.ok.cell d2
          repeat (go_big_quiet_step ((fail)))
          go_big_quiet_step ((go_at_call 50; exact laterC (HCE.out _)))
          repeat (go_big_quiet_step ((fail)))
          refine wpQuiet_nil ?_
          intro w6 hl6
          have X6 := laters_ext hl6
          clear hl6 l1 l2
          go_wp2
          exact ⟨⟨k + 1, by omega, by go_num, hx.trans X6, HT2⟩, by simp [intOf]; omega⟩
        · have HVV : Hid (false = v) := Lib.hid (by
            rw [← HV.out]
            symm
            rw [decide_eq_false_iff_not]
            intro e
            exact hz (by rw [e]))
          rw [decide_eq_false hz] at CE
          have HCE := Lib.hid CE
          clear CE i1 i2 HTS hz HT hkx hky
          generalize (xs.getD k []).length = z at *
          generalize (ys.getD k []).length = z' at *
          go_wp2
          refine wp_region_later (by kernel_rfl) (by kernel_rfl) ?_
          have l1 := fun (g : Later wr) => g.ok.cell d1
          have l2 := fun (g : Later wr) => g.ok.cell d2
          repeat (go_big_quiet_step ((fail)))
          go_big_quiet_step ((go_at_call 50; exact laterC (HCE.out _)))
          repeat (go_big_quiet_step ((fail)))
          refine wpQuiet_nil ?_
          intro w6 hl6
          have X6 := laters_ext hl6
          clear hl6 l1 l2
          go_wp2
          go_ret
          exact ⟨congrArg (fun x => Ending.returned (Value.bool x)) HVV.out, hx.trans X6⟩
      · have HVV : Hid (true = v) := Lib.hid (by
          rw [← HV.out]
          symm
          rw [decide_eq_true_eq]
          exact take_all HT.out (by have := HN.out; omega) (by have := HM.out; omega))
        clear HT
        go_wp2
        go_ret
        exact ⟨congrArg (fun x => Ending.returned (Value.bool x)) HVV.out, hx⟩
  · have e : decide (xs = ys) = false := by
      rw [decide_eq_false_iff_not]
      intro e
      rw [e] at hn
      omega
    rw [e]
    have k : ((n : Int) != (m : Int)) = true := by simp; omega
    clear hn hm e hnm
    go_enter Tryd.func33, Tryd.ntmps33
    go_wp2
    go_ret
    exact ⟨rfl, Ext.refl _⟩
end Go.Proofs.YtaimmpcijdpgdaaDoor

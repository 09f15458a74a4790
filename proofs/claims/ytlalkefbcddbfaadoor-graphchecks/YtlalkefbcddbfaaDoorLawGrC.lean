/- The walk of GraphChecks. -/
import Derived.Test.YtlalkefbcddbfaaDoorLawGr
import Derived.Test.YtlalkefbcddbfaaDoorGrR3
namespace Go.Proofs.YtlalkefbcddbfaaDoor
open Go.RowKit
set_option linter.unusedVariables false
set_option maxHeartbeats 2000000
attribute [local go_sem] later_cell later_frozen later_const
theorem nil_form {w : World} {base : Nat} {v : Value} (h : RI w base v []) : ∃ a cap, v = .slice a 0 cap := by
  obtain ⟨a, cap, e, _⟩ := h.ints.form
  exact ⟨a, cap, e⟩
set_option maxRecDepth 100000 in
theorem graphChecks_walk (a : Option Addr) (len cap : Nat) (ups : List (List Int)) (c : Int) (w : World) (h : Came w a len cap ups) (wc : (Lit.int .i64 c).wf = true) (hT : Tab w) :
    Calls Tryd.prog 3 #[.slice a len cap, .int .i64 c] w fun e w' => e = .returned (.bool true) ∧ Below w.heap.size w w' := by
  clear wc
  have CL := long _ ups w h.l (by rw [h.n]; exact h.m) (fun l hl => (h.each l hl).1)
  have HT := Lib.hid hT
  clear hT
  cases hb : longB ups
  · rw [hb] at CL
    have HCL := Lib.hid CL
    obtain ⟨hn20, hl20⟩ := longB_no hb
    have hn : ups.length ≤ 1000000 := by omega
    have hll : ∀ l ∈ ups, l.length ≤ 1000000 := fun l hl => by have := hl20 l hl; omega
    have CC := Lib.hid (gCopy _ ups w h.l hll hn)
    have C1 := Lib.hid (fun w' (hx : Ext w w') => rChk9 _ ups w' (h.l.ext hx) hll hn)
    have C2 := Lib.hid (fun w' (hx : Ext w w') => gCheck _ ups w' (h.l.ext hx) hll hn)
    have c3 := fun w' (hx : Ext w w') => gRoots _ ups w' (h.l.ext hx) hll hn (HT.out.ext hx)
    have c4 := fun w' (hx : Ext w w') => gEnds _ ups w' (h.l.ext hx) hll hn (HT.out.ext hx)
    have c5 := fun w' (hx : Ext w w') => gOrder _ ups w' (h.l.ext hx) hll hn (HT.out.ext hx)
    have c6 := fun w' (hx : Ext w w') => gDepth _ ups c w' (h.l.ext hx) hll hn
    have c7 := fun w' (hx : Ext w w') => gAbove _ ups c w' (h.l.ext hx) hll hn
    have c8 := fun w' (hx : Ext w w') => gBelow _ ups c w' (h.l.ext hx) hll hn (HT.out.ext hx)
    have HL := Lib.hid h.l
    have HE := Lib.hid h.n
    have hlen : len ≤ 20 := by rw [← h.n]; exact hn20
    have HLL := Lib.hid hll
    have HIF : Hid (¬ chk ups = 0 → inB ups c = false) := Lib.hid (fun hc => by unfold inB; simp [hc])
    have H3 := Lib.hid c3
    have H4 := Lib.hid c4
    have H5 := Lib.hid c5
    have H6 := Lib.hid c6
    have H7 := Lib.hid c7
    have H8 := Lib.hid c8
    clear CL h hb hn20 hl20 hll c3 c4 c5 c6 c7 c8 hn
    go_enter Tryd.func3, Tryd.ntmps3
    go_wp2_with fail
    refine (HCL.out).mono ?_
    rintro e w' ⟨rfl, rfl⟩
    go_wp2_with fail
    refine CC.out.mono ?_
    rintro e w1 ⟨a1, cp1, rfl, L1, X1⟩
    have HL1 := Lib.hid L1
    rw [HE.out] at HL1 ⊢
    have HX1 := Lib.hid X1
    clear L1 X1
    go_wp2
    go_loopw [6] (fun i wr => ∃ k : Nat, k ≤ len ∧ i = .int .i64 k ∧ Ext w1 wr) (fun i _ => len - (intOf i).toNat)
    case atStart => exact ⟨0, Nat.zero_le _, rfl, Ext.refl _⟩
    case round =>
      obtain ⟨k, hk, rfl, hx⟩ := hrel
      by_cases hlt : k < len
      · have hku : k < ups.length := by have := HE.out; omega
        have hkn : (k : Int) < (len : Int) := by omega
        obtain ⟨b2, o2, u2, cu2, e2, d2, i2⟩ := HL.out.at (HX1.out.trans hx) hku
        obtain ⟨b1, o1, u1, cu1, e1, d1, i1⟩ := HL1.out.at hx hku
        subst e1
        subst e2
        have CE := fun (g : Later wr) => same5 _ _ _ g.world (i1.ext g.ok) (i2.ext g.ok) (HLL.out _ (by rw [getD_at _ _ _ hku]; exact List.getElem_mem hku))
        have HCE := Lib.hid CE
        clear CE i1 i2 hku
        generalize (ups.getD k []).length = z at *
        go_wp2
        refine wp_region_later (by kernel_rfl) (by kernel_rfl) ?_
        have l1 := fun (g : Later wr) => g.ok.cell d1
        have l2 := fun (g : Later wr) => g.ok.cell d2
        repeat (go_big_quiet_step ((fail)))
        go_big_quiet_step ((go_at_call 10; exact laterC (HCE.out _)))
        repeat (go_big_quiet_step ((fail)))
        refine wpQuiet_nil ?_
        intro w6 hl6
        have X6 := laters_ext hl6
        clear hl6 l1 l2
        go_wp2
        exact ⟨⟨k + 1, by omega, by go_num, hx.trans X6⟩, by simp [intOf]; omega⟩
      · have E0 := HX1.out.trans hx
        clear hx
        go_wp2_with fail
        refine (C1.out _ E0).mono ?_
        rintro e w2 ⟨rfl, X2⟩
        have E2 := E0.trans X2
        clear E0 X2
        go_wp2_with fail
        refine (C2.out _ E2).mono ?_
        rintro e w3 ⟨rfl, X3⟩
        have E3 := E2.trans X3
        clear E2 X3
        by_cases hg : chk ups = 0
        · have kg : (chk ups == 0) = true := by simpa using hg
          generalize chk ups = gg at *
          clear hg
          go_wp2_with fail
          refine (live9 _ (HT.out.ext E3)).mono ?_
          rintro e w4 ⟨rfl, X4⟩
          go_wp2
          go_ret
          exact ⟨rfl, (E3.trans X4).below⟩
        · have hif := HIF.out hg
          rw [if_neg hg] at H3 H4 H5 H8
          rw [hif, if_neg (by simp)] at H6 H7
          have kg : (chk ups == 0) = false := by simpa using hg
          generalize chk ups = gg at *
          clear hg hif HIF
          go_wp2_with fail
          refine (H3.out _ E3).mono ?_
          rintro e w4 ⟨v4, rfl, R4, X4⟩
          obtain ⟨a4, cp4, rfl⟩ := nil_form R4
          have E4 := E3.trans X4
          clear R4 X4 E3
          go_wp2_with fail
          refine (H4.out _ E4).mono ?_
          rintro e w5 ⟨v5, rfl, R5, X5⟩
          obtain ⟨a5, cp5, rfl⟩ := nil_form R5
          have E5 := E4.trans X5
          clear R5 X5 E4
          go_wp2_with fail
          refine (H5.out _ E5).mono ?_
          rintro e w6 ⟨v6, rfl, R6, X6⟩
          obtain ⟨a6, cp6, rfl⟩ := nil_form R6
          have E6 := E5.trans X6
          clear R6 X6 E5
          go_wp2_with fail
          refine (H6.out _ E6).mono ?_
          rintro e w7 ⟨rfl, X7⟩
          have E7 := E6.trans X7
          clear X7 E6
          go_wp2_with fail
          refine (H7.out _ E7).mono ?_
          rintro e w8 ⟨rfl, X8⟩
          have E8 := E7.trans X8
          clear X8 E7
          go_wp2_with fail
          refine (H8.out _ E8).mono ?_
          rintro e w9 ⟨rfl, X9⟩
          have E9 := E8.trans X9
          clear X9 E8
          go_wp2_with fail
          refine (live9 _ (HT.out.ext E9)).mono ?_
          rintro e w10 ⟨rfl, X10⟩
          go_wp2
          go_ret
          exact ⟨rfl, (E9.trans X10).below⟩
  · rw [hb] at CL
    have HCL := Lib.hid CL
    clear CL h hb
    go_enter Tryd.func3, Tryd.ntmps3
    go_wp2_with fail
    refine (HCL.out).mono ?_
    rintro e w' ⟨rfl, rfl⟩
    go_wp2_with fail
    refine (live9 _ HT.out).mono ?_
    rintro e w4 ⟨rfl, X4⟩
    go_wp2
    go_ret
    exact ⟨rfl, X4.below⟩
end Go.Proofs.YtlalkefbcddbfaaDoor

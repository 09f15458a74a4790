/- The walk of GraphTells. -/
import Derived.Test.YtlalkefbcddbfaaDoorLawGr
import Derived.Test.YtlalkefbcddbfaaDoorGrR3
namespace Go.Proofs.YtlalkefbcddbfaaDoor
open Go.RowKit
set_option linter.unusedVariables false
set_option maxHeartbeats 2000000
theorem bc_out {ups : List (List Int)} (rt : Rt ups) {c : Int} (hc : c < 0 ∨ (ups.length : Int) ≤ c) (d : Nat) (hd : d < 6) : bcB ups c d = false := by
  unfold bcB
  by_cases h0 : 0 ≤ c
  · by_cases h6 : c < 6
    · obtain ⟨k, rfl⟩ := Int.eq_ofNat_of_zero_le h0
      rw [Int.toNat_natCast]
      cases e : tab ups (d * 6 + k) with
      | false => simp
      | true =>
        have := Ab.lt rt.nms ((tab_iff rt.nms rt.six hd (by omega)).1 e)
        omega
    · simp [h6]
  · simp [h0]
theorem blw_out {ups : List (List Int)} (rt : Rt ups) {c : Int} (hc : c < 0 ∨ (ups.length : Int) ≤ c) : blwK ups c ups.length = 0 :=
  word_zero fun i hi => by rw [bc_out rt hc i hi]; simp
theorem in_out {ups : List (List Int)} {c : Int} (hc : c < 0 ∨ (ups.length : Int) ≤ c) : inB ups c = false := by
  unfold inB
  by_cases h0 : 0 ≤ c
  · rw [decide_eq_false (show ¬ c < (ups.length : Int) by omega)]; simp
  · rw [decide_eq_false h0]; simp
theorem below_list {ups : List (List Int)} (c : Nat) (rt : Rt ups) (hc : c < 6) : (bitsOf (blwK ups (c : Int) ups.length)).map (fun (i : Nat) => (i : Int)) = sel ups.length (rBelowP ups c) := by
  rw [← list_word rt.six]
  congr 2
  unfold blwK
  refine wordOf_congr fun i hi => ?_
  rw [bcB_nat _ _ _ hc]
  unfold rBelowP
  by_cases h : i < ups.length <;> simp [h]
theorem ord_len {ups : List (List Int)} (rt : Rt ups) : (listI (ordN (dep ups) ups.length)).length ≤ 1000000 := by
  rw [listI_len]
  have h6 := rt.six
  have := ordK_len (dep ups) ups.length 6 0 (by omega) (by omega) h6
  have e : ordK (dep ups) ups.length 6 0 = ordN (dep ups) ups.length := by unfold ordK ordN; simp
  rw [e] at this
  omega
set_option maxRecDepth 100000 in
theorem graphTells_walk (a : Option Addr) (len cap : Nat) (ups : List (List Int)) (c : Int) (w : World) (h : Came w a len cap ups) (wc : (Lit.int .i64 c).wf = true) (hT : Tab w) :
    Calls Tryd.prog 4 #[.slice a len cap, .int .i64 c] w fun e w' => e = .returned (.bool true) ∧ Below w.heap.size w w' := by
  clear wc
  have CL := long _ ups w h.l (by rw [h.n]; exact h.m) (fun l hl => (h.each l hl).1)
  have HT := Lib.hid hT
  clear hT
  cases hb : longB ups
  · rw [hb] at CL
    have HCL := Lib.hid CL
    obtain ⟨hn20, hl20⟩ := longB_no hb
    have hn : ups.length ≤ 1000000 := by omega
    have hll : ∀ l ∈ ups, l.length ≤ 1000000 := fun l hl => by have := hl20 l hl; omega
    have C1 := Lib.hid (fun w' (hx : Ext w w') => rChk9 _ ups w' (h.l.ext hx) hll hn)
    by_cases hg : chk ups = 0
    · have rt := chk_zero.1 hg
      have h6 := rt.six
      have c3 := fun w' (hx : Ext w w') => gRoots _ ups w' (h.l.ext hx) hll hn (HT.out.ext hx)
      have c4 := fun w' (hx : Ext w w') => gEnds _ ups w' (h.l.ext hx) hll hn (HT.out.ext hx)
      have c5 := fun w' (hx : Ext w w') => gOrder _ ups w' (h.l.ext hx) hll hn (HT.out.ext hx)
      have c6 := fun w' (hx : Ext w w') => gDepth _ ups c w' (h.l.ext hx) hll hn
      have c7 := fun w' (hx : Ext w w') => gAbove _ ups c w' (h.l.ext hx) hll hn
      have c8 := fun w' (hx : Ext w w') => gBelow _ ups c w' (h.l.ext hx) hll hn (HT.out.ext hx)
      have R3 := Lib.hid (fun w' (hx : Ext w w') => rRoots _ ups w' (h.l.ext hx) hll hn)
      have R4 := Lib.hid (fun w' (hx : Ext w w') => rEnds _ ups w' rt (h.l.ext hx) hll)
      have R5 := Lib.hid (fun w' (hx : Ext w w') => rOrder _ ups w' rt (h.l.ext hx) hll)
      rw [if_pos hg] at c3 c4 c5 c8
      have l3 := sel_len ups.length (isE ups)
      have l4 := sel_len ups.length (fun c => !aheadB ups c)
      have l5 := ord_len rt
      have H3 := Lib.hid c3
      have H4 := Lib.hid c4
      have H5 := Lib.hid c5
      rw [hg] at C1
      have hlen6 : len ≤ 6 := by rw [← h.n]; exact h6
      have HE := Lib.hid h.n
      by_cases hc : c < 0 ∨ (ups.length : Int) ≤ c
      · have c6' := c6
        rw [in_out hc, if_neg (by simp)] at c6 c7
        rw [blw_out rt hc] at c8
        have H6 := Lib.hid c6
        have H7 := Lib.hid c7
        have H8 := Lib.hid c8
        have dc : c < 0 ∨ (len : Int) ≤ c := by have := h.n; omega
        clear CL h hb hn20 hl20 hll hn c3 c4 c5 c6 c7 c8 c6' rt hg hc
        generalize sel ups.length (isE ups) = s1 at *
        generalize sel ups.length (fun c => !aheadB ups c) = s2 at *
        generalize listI (ordN (dep ups) ups.length) = s3 at *
        have k : ∃ b0 b1 : Bool, decide (c < 0) = b0 ∧ decide ((len : Int) ≤ c) = b1 ∧ (b0 = false → b1 = true) := ⟨_, _, rfl, rfl, fun h => by simp at h ⊢; omega⟩
        obtain ⟨b0, b1, k0, k1, k01⟩ := k
        clear dc
        go_enter Tryd.func4, Tryd.ntmps4
        go_wp2_with fail
        refine (HCL.out).mono ?_
        rintro e w' ⟨rfl, rfl⟩
        go_wp2_with fail
        refine (C1.out _ (Ext.refl _)).mono ?_
        rintro e w1 ⟨rfl, E1⟩
        go_wp2_with fail
        refine (H3.out _ E1).mono ?_
        rintro e w2 ⟨v2, rfl, Q2, X2⟩
        have HQ2 := Lib.hid Q2.ints
        have E2 := E1.trans X2
        clear Q2 X2
        go_wp2_with fail
        refine (R3.out _ E2).mono ?_
        rintro e w3 ⟨v3, rfl, Q3, X3⟩
        have HQ3 := Lib.hid Q3.ints
        have HQ2' := Lib.hid (HQ2.out.ext X3)
        have E3 := E2.trans X3
        clear Q3 X3 HQ2 E2
        go_wp2_with fail
        refine (same5 _ _ s1 _ HQ2'.out HQ3.out (by omega)).mono ?_
        rintro e w4 ⟨rfl, X4⟩
        have E4 := E3.trans X4
        clear X4 E3
        go_wp2_with fail
        refine (H4.out _ E4).mono ?_
        rintro e w5 ⟨v5, rfl, Q5, X5⟩
        have HQ5 := Lib.hid Q5.ints
        have E5 := E4.trans X5
        clear Q5 X5
        go_wp2_with fail
        refine (R4.out _ E5).mono ?_
        rintro e w6 ⟨v6, rfl, Q6, X6⟩
        have HQ6 := Lib.hid Q6.ints
        have HQ5' := Lib.hid (HQ5.out.ext X6)
        have E6 := E5.trans X6
        clear Q6 X6 HQ5 E5
        go_wp2_with fail
        refine (same5 _ _ s2 _ HQ5'.out HQ6.out (by omega)).mono ?_
        rintro e w7 ⟨rfl, X7⟩
        have E7 := E6.trans X7
        clear X7 E6
        go_wp2_with fail
        refine (H5.out _ E7).mono ?_
        rintro e w8 ⟨v8, rfl, Q8, X8⟩
        have HQ8 := Lib.hid Q8.ints
        have E8 := E7.trans X8
        clear Q8 X8
        go_wp2_with fail
        refine (R5.out _ E8).mono ?_
        rintro e w9 ⟨v9, rfl, Q9, X9⟩
        have HQ9 := Lib.hid Q9.ints
        have HQ8' := Lib.hid (HQ8.out.ext X9)
        have E9 := E8.trans X9
        clear Q9 X9 HQ8 E8
        go_wp2_with fail
        refine (same5 _ _ s3 _ HQ8'.out HQ9.out (by omega)).mono ?_
        rintro e w10 ⟨rfl, X10⟩
        have E10 := E9.trans X10
        clear X10 E9
        cases b0
        · obtain rfl := k01 rfl
          clear k01
          go_wp2_with fail
          refine (H7.out _ E10).mono ?_
          rintro e w11 ⟨rfl, X11⟩
          have E11 := E10.trans X11
          clear X11 E10
          go_wp2_with fail
          refine (H8.out _ E11).mono ?_
          rintro e w12 ⟨rfl, X12⟩
          have E12 := E11.trans X12
          clear X12 E11
          go_wp2_with fail
          refine (H6.out _ E12).mono ?_
          rintro e w13 ⟨rfl, X13⟩
          have E13 := E12.trans X13
          clear X13 E12
          go_wp2_with fail
          refine (live9 _ (HT.out.ext E13)).mono ?_
          rintro e w14 ⟨rfl, X14⟩
          go_wp2
          go_ret
          exact ⟨rfl, (E13.trans X14).below⟩
        · clear k01
          go_wp2_with fail
          refine (H7.out _ E10).mono ?_
          rintro e w11 ⟨rfl, X11⟩
          have E11 := E10.trans X11
          clear X11 E10
          go_wp2_with fail
          refine (H8.out _ E11).mono ?_
          rintro e w12 ⟨rfl, X12⟩
          have E12 := E11.trans X12
          clear X12 E11
          go_wp2_with fail
          refine (H6.out _ E12).mono ?_
          rintro e w13 ⟨rfl, X13⟩
          have E13 := E12.trans X13
          clear X13 E12
          go_wp2_with fail
          refine (live9 _ (HT.out.ext E13)).mono ?_
          rintro e w14 ⟨rfl, X14⟩
          go_wp2
          go_ret
          exact ⟨rfl, (E13.trans X14).below⟩
      · obtain ⟨k, rfl⟩ := Int.eq_ofNat_of_zero_le (show 0 ≤ c by omega)
        have hk : k < ups.length := by omega
        rw [inB_yes rt hk, if_pos rfl, Int.toNat_natCast] at c6 c7
        have H6 := Lib.hid c6
        have H7 := Lib.hid c7
        have H8 := Lib.hid c8
        have R6 := Lib.hid (fun w' (hx : Ext w w') => rDepth _ ups k w' rt (h.l.ext hx) hll hk)
        have R7 := Lib.hid (fun w' (hx : Ext w w') => rAbove _ ups k w' rt (h.l.ext hx) hll hk)
        have R8 := Lib.hid (fun w' (hx : Ext w w') => rBelow _ ups k w' rt (h.l.ext hx) hll hk)
        have hwa := abw_lt ups k
        have hwb : blwK ups (k : Int) ups.length < 64 := word_lt _
        have G7 := Lib.hid (fun w' (hx : Ext w w') => gListI (abw ups k) w' (by omega) (HT.out.ext hx))
        have G8 := Lib.hid (fun w' (hx : Ext w w') => gListI (blwK ups (k : Int) ups.length) w' (by omega) (HT.out.ext hx))
        rw [above_list k rt (by omega), show (sel ups.length fun x => tab ups (k * 6 + x)) = sel ups.length (rAboveP ups k) from rfl] at G7
        rw [below_list k rt (by omega)] at G8
        have l7 := sel_len ups.length (rAboveP ups k)
        have l8 := sel_len ups.length (rBelowP ups k)
        have d0 : decide ((k : Int) < 0) = false := by simp
        have d1 : decide (len ≤ k) = false := by have := h.n; simp; omega
        clear CL h hb hn20 hl20 hll hn c3 c4 c5 c6 c7 c8 rt hg hc
        generalize sel ups.length (isE ups) = s1 at *
        generalize sel ups.length (fun c => !aheadB ups c) = s2 at *
        generalize listI (ordN (dep ups) ups.length) = s3 at *
        generalize sel ups.length (rAboveP ups k) = s7 at *
        generalize sel ups.length (rBelowP ups k) = s8 at *
        generalize abw ups k = wa at *
        generalize blwK ups (k : Int) ups.length = wb at *
        generalize dep ups k = dk at *
        have ddk : ((dk : Int) == (dk : Int)) = true := by simp
        go_enter Tryd.func4, Tryd.ntmps4
        go_wp2_with fail
        refine (HCL.out).mono ?_
        rintro e w' ⟨rfl, rfl⟩
        go_wp2_with fail
        refine (C1.out _ (Ext.refl _)).mono ?_
        rintro e w1 ⟨rfl, E1⟩
        go_wp2_with fail
        refine (H3.out _ E1).mono ?_
        rintro e w2 ⟨v2, rfl, Q2, X2⟩
        have HQ2 := Lib.hid Q2.ints
        have E2 := E1.trans X2
        clear Q2 X2
        go_wp2_with fail
        refine (R3.out _ E2).mono ?_
        rintro e w3 ⟨v3, rfl, Q3, X3⟩
        have HQ3 := Lib.hid Q3.ints
        have HQ2' := Lib.hid (HQ2.out.ext X3)
        have E3 := E2.trans X3
        clear Q3 X3 HQ2 E2
        go_wp2_with fail
        refine (same5 _ _ s1 _ HQ2'.out HQ3.out (by omega)).mono ?_
        rintro e w4 ⟨rfl, X4⟩
        have E4 := E3.trans X4
        clear X4 E3
        go_wp2_with fail
        refine (H4.out _ E4).mono ?_
        rintro e w5 ⟨v5, rfl, Q5, X5⟩
        have HQ5 := Lib.hid Q5.ints
        have E5 := E4.trans X5
        clear Q5 X5
        go_wp2_with fail
        refine (R4.out _ E5).mono ?_
        rintro e w6 ⟨v6, rfl, Q6, X6⟩
        have HQ6 := Lib.hid Q6.ints
        have HQ5' := Lib.hid (HQ5.out.ext X6)
        have E6 := E5.trans X6
        clear Q6 X6 HQ5 E5
        go_wp2_with fail
        refine (same5 _ _ s2 _ HQ5'.out HQ6.out (by omega)).mono ?_
        rintro e w7 ⟨rfl, X7⟩
        have E7 := E6.trans X7
        clear X7 E6
        go_wp2_with fail
        refine (H5.out _ E7).mono ?_
        rintro e w8 ⟨v8, rfl, Q8, X8⟩
        have HQ8 := Lib.hid Q8.ints
        have E8 := E7.trans X8
        clear Q8 X8
        go_wp2_with fail
        refine (R5.out _ E8).mono ?_
        rintro e w9 ⟨v9, rfl, Q9, X9⟩
        have HQ9 := Lib.hid Q9.ints
        have HQ8' := Lib.hid (HQ8.out.ext X9)
        have E9 := E8.trans X9
        clear Q9 X9 HQ8 E8
        go_wp2_with fail
        refine (same5 _ _ s3 _ HQ8'.out HQ9.out (by omega)).mono ?_
        rintro e w10 ⟨rfl, X10⟩
        have E10 := E9.trans X10
        clear X10 E9
        go_wp2_with fail
        refine (H7.out _ E10).mono ?_
        rintro e w11 ⟨rfl, X11⟩
        have E11 := E10.trans X11
        clear X11 E10
        go_wp2_with fail
        refine (G7.out _ E11).mono ?_
        rintro e w12 ⟨v12, rfl, Q12, X12⟩
        have HQ12 := Lib.hid Q12.ints
        have E12 := E11.trans X12
        clear Q12 X12 E11
        go_wp2_with fail
        refine (R7.out _ E12).mono ?_
        rintro e w13 ⟨v13, rfl, Q13, X13⟩
        have HQ13 := Lib.hid Q13.ints
        have HQ12' := Lib.hid (HQ12.out.ext X13)
        have E13 := E12.trans X13
        clear Q13 X13 HQ12 E12
        go_wp2_with fail
        refine (same5 _ _ s7 _ HQ12'.out HQ13.out (by omega)).mono ?_
        rintro e w14 ⟨rfl, X14⟩
        have E14 := E13.trans X14
        clear X14 E13
        go_wp2_with fail
        refine (H8.out _ E14).mono ?_
        rintro e w15 ⟨rfl, X15⟩
        have E15 := E14.trans X15
        clear X15 E14
        go_wp2_with fail
        refine (G8.out _ E15).mono ?_
        rintro e w16 ⟨v16, rfl, Q16, X16⟩
        have HQ16 := Lib.hid Q16.ints
        have E16 := E15.trans X16
        clear Q16 X16 E15
        go_wp2_with fail
        refine (R8.out _ E16).mono ?_
        rintro e w17 ⟨v17, rfl, Q17, X17⟩
        have HQ17 := Lib.hid Q17.ints
        have HQ16' := Lib.hid (HQ16.out.ext X17)
        have E17 := E16.trans X17
        clear Q17 X17 HQ16 E16
        go_wp2_with fail
        refine (same5 _ _ s8 _ HQ16'.out HQ17.out (by omega)).mono ?_
        rintro e w18 ⟨rfl, X18⟩
        have E18 := E17.trans X18
        clear X18 E17
        go_wp2_with fail
        refine (H6.out _ E18).mono ?_
        rintro e w19 ⟨rfl, X19⟩
        have E19 := E18.trans X19
        clear X19 E18
        go_wp2_with fail
        refine (R6.out _ E19).mono ?_
        rintro e w20 ⟨rfl, X20⟩
        have E20 := E19.trans X20
        clear X20 E19
        go_wp2_with fail
        refine (live9 _ (HT.out.ext E20)).mono ?_
        rintro e w21 ⟨rfl, X21⟩
        go_wp2
        go_ret
        exact ⟨rfl, (E20.trans X21).below⟩
    · have kg : (chk ups != 0) = true := by simpa using hg
      have kg2 : (chk ups == 0) = false := by simpa using hg
      generalize chk ups = gg at *
      clear CL h hb hn20 hl20 hll hn hg
      go_enter Tryd.func4, Tryd.ntmps4
      go_wp2_with fail
      refine (HCL.out).mono ?_
      rintro e w' ⟨rfl, rfl⟩
      go_wp2_with fail
      refine (C1.out _ (Ext.refl _)).mono ?_
      rintro e w1 ⟨rfl, E1⟩
      go_wp2_with fail
      refine (live9 _ (HT.out.ext E1)).mono ?_
      rintro e w4 ⟨rfl, X4⟩
      go_wp2
      go_ret
      exact ⟨rfl, (E1.trans X4).below⟩
  · rw [hb] at CL
    have HCL := Lib.hid CL
    clear CL h hb
    go_enter Tryd.func4, Tryd.ntmps4
    go_wp2_with fail
    refine (HCL.out).mono ?_
    rintro e w' ⟨rfl, rfl⟩
    go_wp2_with fail
    refine (live9 _ HT.out).mono ?_
    rintro e w4 ⟨rfl, X4⟩
    go_wp2
    go_ret
    exact ⟨rfl, X4.below⟩
end Go.Proofs.YtlalkefbcddbfaaDoor

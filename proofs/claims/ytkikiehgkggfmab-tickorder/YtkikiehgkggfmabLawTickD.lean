/- The walk of TickOrder. -/
import Derived.Test.YtkikiehgkggfmabLawTickA
namespace Go.Proofs.Ytkikiehgkggfmab
open Go.RowKit
set_option linter.unusedVariables false
set_option maxHeartbeats 2000000
theorem tickOrder_way (a a2 a3 : Option Addr) (n n2 n3 cap cap2 cap3 : Nat) (xs : List Int) (p q t r : Bool) (w : World) (hn : n ≤ 100) (hn2 : n2 ≤ 100) (hn3 : n3 ≤ 100) (ht : p = true → q = true → t = true) (hv : IntsV w (.slice a n cap) xs) (hx : xs.length = n)
    (C1 : ∀ w', Ext w w' → Calls Try.prog 19 #[.slice a n cap, .slice a2 n2 cap2] w' fun e w'' => e = .returned (.bool p) ∧ Ext w' w'')
    (C2 : ∀ w', Ext w w' → Calls Try.prog 19 #[.slice a2 n2 cap2, .slice a3 n3 cap3] w' fun e w'' => e = .returned (.bool q) ∧ Ext w' w'')
    (C3 : ∀ w', Ext w w' → Calls Try.prog 19 #[.slice a n cap, .slice a3 n3 cap3] w' fun e w'' => e = .returned (.bool t) ∧ Ext w' w'')
    (C4 : ∀ w', Ext w w' → Calls Try.prog 10 #[.slice a n cap] w' fun e w'' => e = .returned (.bool r) ∧ w' = w'')
    (C5 : ∀ w', Ext w w' → Calls Try.prog 19 #[.slice a n cap, .slice a n cap] w' fun e w'' => e = .returned (.bool r) ∧ Ext w' w'') :
    Calls Try.prog 6 #[.slice a n cap, .slice a2 n2 cap2, .slice a3 n3 cap3] w fun e w' => e = .returned (.bool true) ∧ Ext w w' := by
  have CL := Lib.hid fun w => long_no a a2 n n2 cap cap2 w hn hn2
  have d3 : decide (100 < (n3 : Int)) = false := by simp; omega
  have K1 := Lib.hid C1; have K2 := Lib.hid C2; have K3 := Lib.hid C3; have K4 := Lib.hid C4; have K5 := Lib.hid C5
  have HV := Lib.hid hv
  have HX := Lib.hid hx
  have HT := Lib.hid ht
  -- one round
  have KT := Lib.hid fun (w' : World) (i : Int) (h : Ext w w') => tTick (.slice a n cap) xs i w' (hv.ext h) (by omega)
  have KC := Lib.hid fun (k : Nat) (h : k < n) => tick_cases xs k (by omega)
  have KW1 := Lib.hid fun (w' : World) (v : Value) (ts : List Int) (h : Ext w w') (hi : IntsV w' v ts) (hl : ts.length ≤ 1000000) => tWithin (.slice a n cap) v xs ts w' (hv.ext h) hi (by omega) hl
  have KW2 := Lib.hid fun (w' : World) (v : Value) (ts : List Int) (h : Ext w w') (hi : IntsV w' v ts) (hl : ts.length ≤ 1000000) => tWithin v (.slice a n cap) ts xs w' hi (hv.ext h) hl (by omega)
  have KS1 := Lib.hid fun (w' : World) (h : Ext w w') => tSum (.slice a n cap) xs w' (hv.ext h) (by omega)
  have KS2 := Lib.hid fun (w' : World) (v : Value) (ts : List Int) (hi : IntsV w' v ts) (hl : ts.length ≤ 1000000) => tSum v ts w' hi hl
  clear C1 C2 C3 C4 C5 hv hx ht
  cases p <;> cases q <;> cases r
  all_goals
    go_enter Try.func6, Try.ntmps6
    go_wp2_with fail
    refine (CL.out _).mono ?_
    rintro e w' ⟨rfl, rfl⟩
    go_wp2_with fail
    refine (K1.out _ (Ext.refl _)).mono ?_
    rintro e w1 ⟨rfl, X1⟩
    first
    | (go_wp2_with fail
       refine (K4.out _ X1).mono ?_
       rintro e w' ⟨rfl, rfl⟩
       go_wp2_with fail
       refine (K5.out _ X1).mono ?_
       rintro e w2 ⟨rfl, X2⟩
       have Y2 := X1.trans X2
       clear X1 X2)
    | (go_wp2_with fail
       refine (K2.out _ X1).mono ?_
       rintro e w2 ⟨rfl, X2⟩
       have Y2 := X1.trans X2
       clear X1 X2
       go_wp2_with fail
       refine (K4.out _ Y2).mono ?_
       rintro e w' ⟨rfl, rfl⟩
       go_wp2_with fail
       refine (K5.out _ Y2).mono ?_
       rintro e w3 ⟨rfl, X3⟩
       replace Y2 := Y2.trans X3
       clear X3)
    | (go_wp2_with fail
       refine (K2.out _ X1).mono ?_
       rintro e w2 ⟨rfl, X2⟩
       have Y2 := X1.trans X2
       clear X1 X2
       have ht := HT.out (by simp) (by simp)
       subst ht
       go_wp2_with fail
       refine (K3.out _ Y2).mono ?_
       rintro e w3 ⟨rfl, X3⟩
       replace Y2 := Y2.trans X3
       clear X3
       go_wp2_with fail
       refine (K4.out _ Y2).mono ?_
       rintro e w' ⟨rfl, rfl⟩
       go_wp2_with fail
       refine (K5.out _ Y2).mono ?_
       rintro e w4 ⟨rfl, X4⟩
       replace Y2 := Y2.trans X4
       clear X4)
    go_wp2
    go_loopw [7] (fun i wr => ∃ k : Nat, k ≤ n ∧ i = .int .i64 k ∧ Ext w wr) (fun i _ => n - (intOf i).toNat)
    case atStart => exact ⟨0, Nat.zero_le _, rfl, Y2⟩
    case round =>
      obtain ⟨k, hk, rfl, hx⟩ := hrel
      clear Y2
      by_cases hlt : k < n
      · have hkn : (k : Int) < (n : Int) := by omega
        go_wp2_with fail
        refine (KT.out _ _ hx).mono ?_
        rintro e w5 ⟨v5, rfl, R5, X5⟩
        have Y5 := hx.trans X5
        clear X5 hx
        obtain ⟨a5, cap5, rfl⟩ := R5.ints.form
        have I5 := Lib.hid R5.ints
        rcases KC.out k hlt with h0 | ⟨t1, t2, t3, t4, t5, t6⟩
        · rw [h0]
          clear R5 I5 h0
          go_wp2
          exact ⟨⟨k + 1, by omega, by go_num, Y5⟩, by simp [intOf]; omega⟩
        · have W1 := Lib.hid fun w' cap h hi => KW1.out w' (.slice a5 n cap) (tickL xs k) h hi (by have := HX.out; omega)
          have W2 := Lib.hid fun w' cap h hi => KW2.out w' (.slice a5 n cap) (tickL xs k) h hi (by have := HX.out; omega)
          have S2 := Lib.hid fun w' cap hi => KS2.out w' (.slice a5 n cap) (tickL xs k) hi (by have := HX.out; omega)
          have S1 := Lib.hid KS1.out
          rw [t2] at W1
          rw [t3] at W2
          rw [t4] at S2
          have hl5 : (tickL xs k).length = n := by have := HX.out; omega
          rw [hl5] at I5 ⊢
          generalize sumL xs = s at *
          have hpos : 0 < n := by omega
          clear R5 t1 t2 t3 t4 hl5 KC
          generalize tickL xs k = ts at *
          go_wp2_with fail
          refine (W1.out _ _ Y5 I5.out).mono ?_
          rintro e w6 ⟨rfl, X6⟩
          have Y6 := Y5.trans X6
          have I6 := Lib.hid (I5.out.ext X6)
          clear Y5 X6 I5
          go_wp2_with fail
          refine (W2.out _ _ Y6 I6.out).mono ?_
          rintro e w7 ⟨rfl, X7⟩
          have Y7 := Y6.trans X7
          have I7 := Lib.hid (I6.out.ext X7)
          clear Y6 X7 I6
          go_wp2_with fail
          refine (S2.out _ _ I7.out).mono ?_
          rintro e w' ⟨rfl, rfl⟩
          go_wp2_with fail
          refine (S1.out _ Y7).mono ?_
          rintro e w' ⟨rfl, rfl⟩
          go_wp2
          exact ⟨⟨k + 1, by omega, by go_num, Y7⟩, by simp [intOf]; omega⟩
      · go_wp2_with fail
        refine (live8 _).mono ?_
        rintro e w9 ⟨rfl, X9⟩
        go_wp2
        go_ret
        exact ⟨rfl, hx.trans X9⟩
theorem tickOrder_walk (a : Option Addr) (len cap : Nat) (zs : List Int) (a2 : Option Addr) (len2 cap2 : Nat) (zs2 : List Int) (a3 : Option Addr) (len3 cap3 : Nat) (zs3 : List Int) (w : World) (h : IsRow .i64 w a len cap zs) (h2 : IsRow .i64 w a2 len2 cap2 zs2) (h3 : IsRow .i64 w a3 len3 cap3 zs3) :
    Calls Try.prog 6 #[.slice a len cap, .slice a2 len2 cap2, .slice a3 len3 cap3] w fun e w' => e = .returned (.bool true) ∧ Below w.heap.size w w' := by
  by_cases hl : 100 < len ∨ 100 < len2
  · clear h h2 h3
    have C := Lib.hid (long_yes a a2 len len2 cap cap2 w hl)
    clear hl
    go_enter Try.func6, Try.ntmps6
    go_wp2_with fail
    refine (C.out).mono ?_
    rintro e w' ⟨rfl, rfl⟩
    go_wp2_with fail
    refine (live8 _).mono ?_
    rintro e w1 ⟨rfl, X1⟩
    go_wp2
    go_ret
    exact ⟨rfl, X1.below⟩
  · have C := Lib.hid (long_no a a2 len len2 cap cap2 w (by omega) (by omega))
    by_cases hl3 : 100 < len3
    · have d3 : decide (100 < (len3 : Int)) = true := by simp; omega
      clear h h2 h3 hl
      go_enter Try.func6, Try.ntmps6
      go_wp2_with fail
      refine (C.out).mono ?_
      rintro e w' ⟨rfl, rfl⟩
      go_wp2_with fail
      refine (live8 _).mono ?_
      rintro e w1 ⟨rfl, X1⟩
      go_wp2
      go_ret
      exact ⟨rfl, X1.below⟩
    · obtain ⟨hv, hlen, _⟩ := intsV_of_row h
      obtain ⟨hv2, hlen2, _⟩ := intsV_of_row h2
      obtain ⟨hv3, hlen3, _⟩ := intsV_of_row h3
      generalize zs.take len = xs at *
      generalize zs2.take len2 = ys at *
      generalize zs3.take len3 = us at *
      have l1 : xs.length ≤ 1000000 := by omega
      have l2 : ys.length ≤ 1000000 := by omega
      have l3 : us.length ≤ 1000000 := by omega
      refine (tickOrder_way a a2 a3 len len2 len3 cap cap2 cap3 xs (withinB xs ys) (withinB ys us) (withinB xs us) (rightB xs) w (by omega) (by omega) (by omega) (within_trans xs ys us) hv hlen
        (fun w' hx => tWithin _ _ xs ys w' (hv.ext hx) (hv2.ext hx) l1 l2) (fun w' hx => tWithin _ _ ys us w' (hv2.ext hx) (hv3.ext hx) l2 l3) (fun w' hx => tWithin _ _ xs us w' (hv.ext hx) (hv3.ext hx) l1 l3)
        (fun w' hx => rRight8 _ xs w' (hv.ext hx) l1) (fun w' hx => ?_)).mono fun e w' ⟨h, hx⟩ => ⟨h, hx.below⟩
      rw [← right_within]
      exact tWithin _ _ xs xs w' (hv.ext hx) (hv.ext hx) l1 l1
end Go.Proofs.Ytkikiehgkggfmab

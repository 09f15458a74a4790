/- The walk of TickLeast. -/
import Derived.Test.YtkikiehgkggfmabLawTickA
namespace Go.Proofs.Ytkikiehgkggfmab
open Go.RowKit
set_option linter.unusedVariables false
set_option maxHeartbeats 2000000
theorem tickLeast_way (a a2 a3 : Option Addr) (n n2 n3 cap cap2 cap3 : Nat) (js : List Int) (p q r : Bool) (w : World) (hn : n ≤ 100) (hn2 : n2 ≤ 100) (hn3 : n3 ≤ 100) (hr : p = true → q = true → r = true)
    (C0 : ∀ w', Ext w w' → Calls Try.prog 22 #[.slice a n cap, .slice a2 n2 cap2] w' fun e w'' => e = .returned (.bool true) ∧ w' = w'')
    (C1 : ∀ w', Ext w w' → Calls Try.prog 14 #[.slice a n cap, .slice a2 n2 cap2] w' (GivesI w' js))
    (C2 : ∀ w' v, Ext w w' → IntsV w' v js → Calls Try.prog 19 #[.slice a n cap, v] w' fun e w'' => e = .returned (.bool true) ∧ Ext w' w'')
    (C3 : ∀ w' v, Ext w w' → IntsV w' v js → Calls Try.prog 19 #[.slice a2 n2 cap2, v] w' fun e w'' => e = .returned (.bool true) ∧ Ext w' w'')
    (C4 : ∀ w', Ext w w' → Calls Try.prog 14 #[.slice a2 n2 cap2, .slice a n cap] w' (GivesI w' js))
    (C5 : ∀ w' v u, IntsV w' v js → IntsV w' u js → Calls Try.prog 20 #[v, u] w' fun e w'' => e = .returned (.bool true) ∧ Ext w' w'')
    (C6 : ∀ w', Ext w w' → ∃ ks, Calls Try.prog 14 #[.slice a n cap, .slice a n cap] w' (GivesI w' ks) ∧ ∀ w' v, Ext w w' → IntsV w' v ks → Calls Try.prog 20 #[v, .slice a n cap] w' fun e w'' => e = .returned (.bool true) ∧ Ext w' w'')
    (C7 : ∀ w', Ext w w' → Calls Try.prog 19 #[.slice a n cap, .slice a3 n3 cap3] w' fun e w'' => e = .returned (.bool p) ∧ Ext w' w'')
    (C8 : ∀ w', Ext w w' → Calls Try.prog 19 #[.slice a2 n2 cap2, .slice a3 n3 cap3] w' fun e w'' => e = .returned (.bool q) ∧ Ext w' w'')
    (C9 : ∀ w' v, Ext w w' → IntsV w' v js → Calls Try.prog 19 #[v, .slice a3 n3 cap3] w' fun e w'' => e = .returned (.bool r) ∧ Ext w' w'') :
    Calls Try.prog 5 #[.slice a n cap, .slice a2 n2 cap2, .slice a3 n3 cap3] w fun e w' => e = .returned (.bool true) ∧ Ext w w' := by
  have CL := Lib.hid fun w => long_no a a2 n n2 cap cap2 w hn hn2
  have d3 : decide (100 < (n3 : Int)) = false := by simp; omega
  have K0 := Lib.hid C0; have K1 := Lib.hid C1; have K2 := Lib.hid C2; have K3 := Lib.hid C3; have K4 := Lib.hid C4; have K5 := Lib.hid C5; have K6 := Lib.hid C6; have K7 := Lib.hid C7; have K8 := Lib.hid C8; have K9 := Lib.hid C9
  have HR := Lib.hid hr
  clear C0 C1 C2 C3 C4 C5 C6 C7 C8 C9 hr
  go_enter Try.func5, Try.ntmps5
  go_wp2_with fail
  refine (CL.out _).mono ?_
  rintro e w' ⟨rfl, rfl⟩
  go_wp2_with fail
  refine (K0.out _ (Ext.refl _)).mono ?_
  rintro e w' ⟨rfl, rfl⟩
  go_wp2_with fail
  refine (K1.out _ (Ext.refl _)).mono ?_
  rintro e w1 ⟨v1, rfl, R1, X1⟩
  have I1 := Lib.hid R1.ints
  clear R1
  go_wp2_with fail
  refine (K2.out _ _ X1 I1.out).mono ?_
  rintro e w2 ⟨rfl, X2⟩
  have I2 := Lib.hid (I1.out.ext X2)
  have Y2 := X1.trans X2
  clear X1 X2 I1
  go_wp2_with fail
  refine (K3.out _ _ Y2 I2.out).mono ?_
  rintro e w3 ⟨rfl, X3⟩
  have I3 := Lib.hid (I2.out.ext X3)
  have Y3 := Y2.trans X3
  clear Y2 X3 I2
  go_wp2_with fail
  refine (K4.out _ Y3).mono ?_
  rintro e w4 ⟨v4, rfl, R4, X4⟩
  have I4 := Lib.hid (I3.out.ext X4)
  have J4 := Lib.hid R4.ints
  have Y4 := Y3.trans X4
  clear Y3 X4 I3 R4
  go_wp2_with fail
  refine (K5.out _ _ _ I4.out J4.out).mono ?_
  rintro e w5 ⟨rfl, X5⟩
  have I5 := Lib.hid (I4.out.ext X5)
  have Y5 := Y4.trans X5
  clear Y4 X5 I4 J4
  obtain ⟨ks, K6a, K6b⟩ := K6.out w5 Y5
  have H6a := Lib.hid K6a
  have H6b := Lib.hid K6b
  clear K6a K6b K6
  go_wp2_with fail
  refine H6a.out.mono ?_
  rintro e w6 ⟨v6, rfl, R6, X6⟩
  have I6 := Lib.hid (I5.out.ext X6)
  have J6 := Lib.hid R6.ints
  have Y6 := Y5.trans X6
  clear Y5 X6 I5 R6
  go_wp2_with fail
  refine (H6b.out _ _ Y6 J6.out).mono ?_
  rintro e w7 ⟨rfl, X7⟩
  have I7 := Lib.hid (I6.out.ext X7)
  have Y7 := Y6.trans X7
  clear Y6 X7 I6 J6 H6a H6b
  go_wp2_with fail
  refine (K7.out _ Y7).mono ?_
  rintro e w8 ⟨rfl, X8⟩
  have I8 := Lib.hid (I7.out.ext X8)
  have Y8 := Y7.trans X8
  clear Y7 X8 I7
  cases p
  · go_wp2_with fail
    refine (live8 _).mono ?_
    rintro e w9 ⟨rfl, X9⟩
    go_wp2
    go_ret
    exact ⟨rfl, Y8.trans X9⟩
  · go_wp2_with fail
    refine (K8.out _ Y8).mono ?_
    rintro e w9 ⟨rfl, X9⟩
    have I9 := Lib.hid (I8.out.ext X9)
    have Y9 := Y8.trans X9
    clear Y8 X9 I8
    cases q
    · go_wp2_with fail
      refine (live8 _).mono ?_
      rintro e w10 ⟨rfl, X10⟩
      go_wp2
      go_ret
      exact ⟨rfl, Y9.trans X10⟩
    · have hr := HR.out (by simp) (by simp)
      subst hr
      go_wp2_with fail
      refine (K9.out _ _ Y9 I9.out).mono ?_
      rintro e w10 ⟨rfl, X10⟩
      have Y10 := Y9.trans X10
      clear Y9 X10 I9
      go_wp2_with fail
      refine (live8 _).mono ?_
      rintro e w11 ⟨rfl, X11⟩
      go_wp2
      go_ret
      exact ⟨rfl, Y10.trans X11⟩
theorem tickLeast_walk (a : Option Addr) (len cap : Nat) (zs : List Int) (a2 : Option Addr) (len2 cap2 : Nat) (zs2 : List Int) (a3 : Option Addr) (len3 cap3 : Nat) (zs3 : List Int) (w : World) (h : IsRow .i64 w a len cap zs) (h2 : IsRow .i64 w a2 len2 cap2 zs2) (h3 : IsRow .i64 w a3 len3 cap3 zs3) :
    Calls Try.prog 5 #[.slice a len cap, .slice a2 len2 cap2, .slice a3 len3 cap3] w fun e w' => e = .returned (.bool true) ∧ Below w.heap.size w w' := by
  by_cases hl : 100 < len ∨ 100 < len2
  · clear h h2 h3
    have C := Lib.hid (long_yes a a2 len len2 cap cap2 w hl)
    clear hl
    go_enter Try.func5, Try.ntmps5
    go_wp2_with fail
    refine (C.out).mono ?_
    rintro e w' ⟨rfl, rfl⟩
    go_wp2_with fail
    refine (live8 _).mono ?_
    rintro e w1 ⟨rfl, X1⟩
    go_wp2
    go_ret
    exact ⟨rfl, X1.below⟩
  · have C := Lib.hid (long_no a a2 len len2 cap cap2 w (by omega) (by omega))
    by_cases hl3 : 100 < len3
    · have d3 : decide (100 < (len3 : Int)) = true := by simp; omega
      clear h h2 h3 hl
      go_enter Try.func5, Try.ntmps5
      go_wp2_with fail
      refine (C.out).mono ?_
      rintro e w' ⟨rfl, rfl⟩
      go_wp2_with fail
      refine (live8 _).mono ?_
      rintro e w1 ⟨rfl, X1⟩
      go_wp2
      go_ret
      exact ⟨rfl, X1.below⟩
    · obtain ⟨hv, hlen, _⟩ := intsV_of_row h
      obtain ⟨hv2, hlen2, _⟩ := intsV_of_row h2
      obtain ⟨hv3, hlen3, _⟩ := intsV_of_row h3
      generalize zs.take len = xs at *
      generalize zs2.take len2 = ys at *
      generalize zs3.take len3 = us at *
      have l1 : xs.length ≤ 1000000 := by omega
      have l2 : ys.length ≤ 1000000 := by omega
      have l3 : us.length ≤ 1000000 := by omega
      cases hb : bothB xs ys
      · have B := Lib.hid (rBoth8 _ _ xs ys w hv hv2 l1 l2)
        rw [hb] at B
        have d3 : decide (100 < (len3 : Int)) = false := by simp; omega
        clear h h2 h3 hl hb hv hv2 hv3
        go_enter Try.func5, Try.ntmps5
        go_wp2_with fail
        refine (C.out).mono ?_
        rintro e w' ⟨rfl, rfl⟩
        go_wp2_with fail
        refine (B.out).mono ?_
        rintro e w' ⟨rfl, rfl⟩
        go_wp2_with fail
        refine (live8 _).mono ?_
        rintro e w1 ⟨rfl, X1⟩
        go_wp2
        go_ret
        exact ⟨rfl, X1.below⟩
      · have t2 := join_le xs ys
        have hr := ((both_iff xs ys).1 hb).1
        have hj := join_right xs ys hb
        refine (tickLeast_way a a2 a3 len len2 len3 cap cap2 cap3 (joinL xs ys) (withinB xs us) (withinB ys us) (withinB (joinL xs ys) us) w (by omega) (by omega) (by omega) (fun h1 h2 => join_least xs ys us hb h1 h2)
          (fun w' hx => ?_) (fun w' hx => tJoin _ _ xs ys w' (hv.ext hx) (hv2.ext hx) l1 l2) (fun w' v hx hi => ?_) (fun w' v hx hi => ?_) (fun w' hx => ?_) (fun w' v u h1 h2 => ?_) (fun w' hx => ⟨joinL xs xs, tJoin _ _ xs xs w' (hv.ext hx) (hv.ext hx) l1 l1, fun w' v hx hi => ?_⟩)
          (fun w' hx => tWithin _ _ xs us w' (hv.ext hx) (hv3.ext hx) l1 l3) (fun w' hx => tWithin _ _ ys us w' (hv2.ext hx) (hv3.ext hx) l2 l3) (fun w' v hx hi => tWithin _ _ _ us w' hi (hv3.ext hx) (by omega) l3)).mono fun e w' ⟨h, hx⟩ => ⟨h, hx.below⟩
        · have := rBoth8 _ _ xs ys w' (hv.ext hx) (hv2.ext hx) l1 l2
          rwa [hb] at this
        · have := tWithin _ _ xs (joinL xs ys) w' (hv.ext hx) hi l1 (by omega)
          rwa [within_left xs ys hb] at this
        · have := tWithin _ _ ys (joinL xs ys) w' (hv2.ext hx) hi l2 (by omega)
          rwa [within_right xs ys hb] at this
        · rw [join_comm xs ys hb]
          exact tJoin _ _ ys xs w' (hv2.ext hx) (hv.ext hx) l2 l1
        · have := tSame _ _ (joinL xs ys) (joinL xs ys) w' h1 h2 (by omega) (by omega)
          rwa [same_self _ hj] at this
        · rw [join_self xs hr] at hi
          have := tSame _ _ xs xs w' hi (hv.ext hx) l1 l1
          rwa [same_self _ hr] at this
end Go.Proofs.Ytkikiehgkggfmab

/- Layer 7: the walk of OctetBack. -/
import Derived.Test.YtkikiehgkggfmaaLawOct
namespace Go.Proofs.Ytkikiehgkggfmaa
open Go.RowKit
set_option linter.unusedVariables false
set_option maxHeartbeats 2000000
theorem decL_enc (l : List Int) (r : List UInt8) (most : Int) (h0 : (l.length : Int) ≤ most) (hb : ∀ n ∈ l, okI64 n) (hl : l.length < 18446744073709551616) : decL (encL l ++ r) most = (some (l, (encL l).length), 0) := by
  have e : encL l ++ r = enc l.length ++ (encs l ++ r) := by unfold encL; rw [List.append_assoc]
  have hd := dec_enc l.length (encs l ++ r) hl
  rw [← e] at hd
  rw [decL_good hd (by omega) (zs := l) (m := (encs l).length)]
  · unfold encL; rw [List.length_append]
  · rw [e, List.drop_left]; exact decN_encs l r hb
theorem RB.cap {w : World} {base : Nat} {v : Value} {bs : List UInt8} (h : RB w base v bs) : ∀ a n c, v = .slice a n c → c ≤ maxLen := by
  intro a n c e
  rcases h.2 with ⟨h1, h2⟩ | ⟨g, cap, cur, h1, hb, hg, hc, hm, hs, ht⟩
  · rw [h1] at e; injection e with _ _ e; omega
  · rw [h1] at e; injection e with _ _ e; omega
theorem back_way (x : Nat) (a : Option Addr) (n cap : Nat) (u : Value) (l : List Int) (bs es ls : List UInt8) (n1 n2 : Nat) (z : Int) (w : World) (hn : n ≤ 300) (hbs : bs.length ≤ 1000) (hes : es.length ≤ 1000) (hls : ls.length ≤ 10000) (hn1 : es.length = n1) (hn2 : ls.length = n2) (hll : l.length ≤ 300)
    (hu : ∀ w', Ext w w' → BytesV w' u bs) (hl : ∀ w', Ext w w' → IntsV w' (.slice a n cap) l)
    (C1 : ∀ w', Ext w w' → Calls Try.prog 8 #[.slice none 0 0, .int .u64 (x : Nat)] w' (PutsB w' es))
    (C2 : ∀ w' v, Ext w w' → BytesV w' v (es ++ bs) → Calls Try.prog 18 #[v] w' fun e w'' => e = .returned (.tuple #[.int .u64 (x : Nat), .int .i64 (n1 : Nat), .int .i64 0]) ∧ Ext w' w'')
    (C3 : ∀ w', Ext w w' → Calls Try.prog 16 #[.slice none 0 0, .slice a n cap] w' (PutsB w' ls))
    (C4 : ∀ w' v, Ext w w' → BytesV w' v (ls ++ bs) → (∀ a n c, v = .slice a n c → c ≤ maxLen) → Calls Try.prog 21 #[v, .int .i64 300] w' fun e w'' => ∃ v, e = .returned (.tuple #[v, .int .i64 (n2 : Nat), .int .i64 0]) ∧ IntsV w'' v l ∧ Ext w' w'')
    (C5 : ∀ w', Ext w w' → Calls Try.prog 10 #[.int .u64 (x : Nat)] w' fun e w'' => e = .returned (.int .i64 (n1 : Nat)) ∧ w' = w'')
    (C6 : ∀ w', Ext w w' → Calls Try.prog 17 #[.slice a n cap] w' (PutsB w' ls))
    (C7 : ∀ w', Ext w w' → Calls Try.prog 14 #[.int .u64 (x : Nat)] w' fun e w'' => e = .returned (.int .i64 z) ∧ w' = w'')
    (C8 : ∀ w', Ext w w' → Calls Try.prog 13 #[.int .u64 (x : Nat)] w' fun e w'' => e = .returned (.int .i64 z) ∧ w' = w'')
    (C9 : ∀ w', Ext w w' → Calls Try.prog 11 #[.int .i64 z] w' fun e w'' => e = .returned (.int .u64 (x : Nat)) ∧ w' = w'') :
    Calls Try.prog 5 #[.int .u64 (x : Nat), .slice a n cap, u] w fun e w' => e = .returned (.bool true) ∧ Ext w w' := by
  obtain ⟨pu, cu, rfl⟩ := (hu w (Ext.refl w)).form
  have d1 : decide (300 < (n : Int)) = false := by simp; omega
  have d2 : decide (1000 < (bs.length : Int)) = false := by simp; omega
  have K1 := Lib.hid C1; have K2 := Lib.hid C2; have K3 := Lib.hid C3; have K4 := Lib.hid C4; have K5 := Lib.hid C5; have K6 := Lib.hid C6; have K7 := Lib.hid C7; have K8 := Lib.hid C8; have K9 := Lib.hid C9
  have S1 := Lib.hid fun v u w h h2 => same5 v u l w h h2 (by omega)
  have HU := Lib.hid hu
  have HL := Lib.hid hl
  have HN2 := Lib.hid hn2
  have hes2 : Hid (es.length ≤ 1000000) := Lib.hid (by omega)
  have hls2 : Hid (ls.length ≤ 1000000) := Lib.hid (by omega)
  have hbs2 : Hid (bs.length ≤ 1000000) := Lib.hid (by omega)
  clear C1 C2 C3 C4 C5 C6 C7 C8 C9 hu hl hn1 hn2 hes hls hbs hll
  go_enter Try.func5, Try.ntmps5
  go_wp2_with fail
  refine (K1.out _ (Ext.refl _)).mono ?_
  rintro e w1 ⟨v1, rfl, R1, X1⟩
  have HR1 := Lib.hid R1
  clear R1
  go_wp2_with (at_builtin; refine appBx _ rfl _ _ rfl w _ es rfl HR1.out X1 _ bs rfl (HU.out _ X1) hes2.out hbs2.out ?_)
  intro v2 w2 R2 X2
  have HB2 := Lib.hid R2.bytes
  clear R2 HR1 X1
  go_wp2_with fail
  refine (K2.out _ _ X2 HB2.out).mono ?_
  rintro e w3 ⟨rfl, X3⟩
  have Y3 := X2.trans X3
  clear X2 X3 HB2
  go_wp2_with fail
  refine (K3.out _ Y3).mono ?_
  rintro e w4 ⟨v4, rfl, R4, X4⟩
  have HR4 := Lib.hid R4
  clear R4
  go_wp2_with (at_builtin; refine appBx _ rfl _ _ rfl w3 _ ls rfl HR4.out X4 _ bs rfl (HU.out _ (Y3.trans X4)) hls2.out hbs2.out ?_)
  intro v5 w5 R5 X5
  have HB5 := Lib.hid R5.bytes
  have HC5 := Lib.hid R5.cap
  have Y5 := Y3.trans X5
  clear R5 HR4 X4 X5 Y3
  go_wp2_with fail
  refine (K4.out _ _ Y5 HB5.out HC5.out).mono ?_
  rintro e w6 ⟨v6, rfl, I6, X6⟩
  have HI6 := Lib.hid I6
  have Y6 := Y5.trans X6
  clear I6 X6 Y5 HB5 HC5
  go_wp2_with fail
  refine (K5.out _ Y6).mono ?_
  rintro e w' ⟨rfl, rfl⟩
  go_wp2_with fail
  refine (K6.out _ Y6).mono ?_
  rintro e w7 ⟨v7, rfl, R7, X7⟩
  obtain ⟨p7, c7, rfl⟩ := R7.bytes.form
  rw [HN2.out]
  have HI7 := Lib.hid (HI6.out.ext X7)
  have Y7 := Y6.trans X7
  have HI := Lib.hid (HL.out _ Y7)
  clear R7 X7 Y6 HI6
  go_wp2_with fail
  refine (S1.out _ _ _ HI7.out HI.out).mono ?_
  rintro e w8 ⟨rfl, X8⟩
  have Y8 := Y7.trans X8
  clear X8 Y7 HI7 HI
  go_wp2_with fail
  refine (K7.out _ Y8).mono ?_
  rintro e w' ⟨rfl, rfl⟩
  go_wp2_with fail
  refine (K9.out _ Y8).mono ?_
  rintro e w' ⟨rfl, rfl⟩
  go_wp2_with fail
  refine (K8.out _ Y8).mono ?_
  rintro e w' ⟨rfl, rfl⟩
  go_wp2_with fail
  refine (K7.out _ Y8).mono ?_
  rintro e w' ⟨rfl, rfl⟩
  go_wp2_with fail
  refine (K8.out _ Y8).mono ?_
  rintro e w' ⟨rfl, rfl⟩
  go_wp2_with fail
  refine (K9.out _ Y8).mono ?_
  rintro e w' ⟨rfl, rfl⟩
  go_wp2_with fail
  refine (live7 _).mono ?_
  rintro e w9 ⟨rfl, X9⟩
  go_wp2
  go_ret
  exact ⟨rfl, Y8.trans X9⟩
theorem early7 (x : Int) (a a2 : Option Addr) (n n2 cap cap2 : Nat) (w : World) (h : 300 < n ∨ 1000 < n2) : Calls Try.prog 5 #[.int .u64 x, .slice a n cap, .slice a2 n2 cap2] w fun e w' => e = .returned (.bool true) ∧ Ext w w' := by
  by_cases h1 : 300 < n
  · have d1 : decide (300 < (n : Int)) = true := by simp; omega
    clear h h1
    go_enter Try.func5, Try.ntmps5
    go_wp2_with fail
    refine (live7 _).mono ?_
    rintro e w1 ⟨rfl, X1⟩
    go_wp2
    go_ret
    exact ⟨rfl, X1⟩
  · have d1 : decide (300 < (n : Int)) = false := by simp; omega
    have d2 : decide (1000 < (n2 : Int)) = true := by simp; omega
    clear h h1
    go_enter Try.func5, Try.ntmps5
    go_wp2_with fail
    refine (live7 _).mono ?_
    rintro e w1 ⟨rfl, X1⟩
    go_wp2
    go_ret
    exact ⟨rfl, X1⟩
theorem octetBack_walk (x : Int) (a : Option Addr) (len cap : Nat) (zs : List Int) (a2 : Option Addr) (len2 cap2 : Nat) (zs2 : List Int) (w : World) (w0 : (Lit.int .u64 x).wf = true) (h : IsRow .i64 w a len cap zs) (h2 : IsRow .u8 w a2 len2 cap2 zs2) :
    Calls Try.prog 5 #[.int .u64 x, .slice a len cap, .slice a2 len2 cap2] w fun e w' => e = .returned (.bool true) ∧ Below w.heap.size w w' := by
  by_cases hl : 300 < len ∨ 1000 < len2
  · exact (early7 x a a2 len len2 cap cap2 w hl).mono fun e w' ⟨h1, h2⟩ => ⟨h1, h2.below⟩
  · obtain ⟨hv, hlen, hwf⟩ := intsV_of_row h
    obtain ⟨bs, hv2, hlen2⟩ := bytesV_of_row h2
    generalize zs.take len = l at *
    obtain ⟨x0, x1⟩ : 0 ≤ x ∧ x ≤ 18446744073709551615 := by simpa [Lit.wf, IntKind.min, IntKind.max, IntKind.signed, IntKind.bits] using w0
    obtain ⟨y, rfl⟩ : ∃ y : Nat, x = y := ⟨x.toNat, by omega⟩
    have hy : y < 18446744073709551616 := by omega
    have hb : ∀ n ∈ l, okI64 n := fun n hn => by simpa [Lit.wf, IntKind.min, IntKind.max, IntKind.signed, IntKind.bits, okI64] using hwf n hn
    have hel := enc_len y hy
    have hls := encs_len l hb
    have hll : (encL l).length ≤ 10 + 10 * l.length := by unfold encL; rw [List.length_append]; have := enc_len l.length (by omega); omega
    have hd := dec_enc y bs hy
    obtain ⟨g1, g2, g3⟩ := get_some hd
    have hdl := decL_enc l bs 300 (by omega) hb (by omega)
    have zb := zag_bound y hy
    refine (back_way y a len cap _ l bs (enc y) (encL l) (enc y).length (encL l).length (zag y) w (by omega) (by omega) (by omega) (by omega) rfl rfl (by omega) (fun w' X => hv2.ext X) (fun w' X => hv.ext X)
      (fun w' X => by have := oPut (.slice none 0 0) [] y w' (nilB w') (by simp) hy; rwa [List.nil_append] at this)
      (fun w' v X hB => by have := oGet v _ w' hB (by rw [List.length_append]; omega); unfold GetDoes at this; rw [g1, g2, g3] at this; exact this)
      (fun w' X => by have := oPutList (.slice none 0 0) _ [] l w' (nilB w') (hv.ext X) (by simp) (by omega) hb; rwa [List.nil_append] at this)
      (fun w' v X hB hc => by
        have := oGetList v _ 300 w' hB (by rw [List.length_append]; omega) hc (by omega) (by omega)
        unfold ListDoes glN glE glL at this
        rw [hdl] at this
        exact this)
      (fun w' X => oLen y w' hy)
      (fun w' X => rList _ l w' (hv.ext X) (by omega) hb)
      (fun w' X => rZag y w' hy) (fun w' X => oZag y w' hy)
      (fun w' X => by have := oZig (zag y) w' zb.1 zb.2; rwa [zig_zag] at this)).mono ?_
    rintro e w' ⟨h1, h2⟩
    exact ⟨h1, h2.below⟩
end Go.Proofs.Ytkikiehgkggfmaa

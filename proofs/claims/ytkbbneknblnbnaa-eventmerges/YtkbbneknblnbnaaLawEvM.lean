/- The walk of EventMerges. -/
import Derived.Test.YtkbbneknblnbnaaEvL
import Derived.Test.YtkbbneknblnbnaaEvG
import Derived.Test.YtkbbneknblnbnaaEv9
import Derived.Test.YtkbbneknblnbnaaEv2
import Derived.Test.YtkbbneknblnbnaaOpenE
namespace Go.Proofs.Ytkbbneknblnbnaa
open Go.RowKit
set_option linter.unusedVariables false
set_option linter.unusedSimpArgs false
set_option maxHeartbeats 4000000
attribute [local go_sem] later_cell later_frozen later_const
theorem tot_le {L : List Ev} {m : Nat} (h : ∀ e ∈ L, e.d.length ≤ m) : tot L ≤ L.length * m := by
  induction L with
  | nil => simp [tot]
  | cons a l ih =>
    have e : tot (a :: l) = a.d.length + tot l := by simp [tot]
    have h1 := h a (by simp)
    have h2 := ih fun e he => h e (by simp [he])
    rw [e, List.length_cons, Nat.add_mul]
    omega
theorem sh_d (W f : Int) (e : Ev) : (sh W f e).d = e.d := by unfold sh; split <;> rfl
set_option maxRecDepth 100000 in
theorem merges_walk32 (f : Int) (a : Option Addr) (len cap : Nat) (L : List Ev) (w : World) (w1 : IsEvs w a len cap L) (hf : 0 ≤ f) :
    Calls Try.prog 5 #[.int .i64 32, .slice a len cap, .int .u64 f] w fun e w' => e = .returned (.bool true) ∧ Below w.heap.size w w' := by
  obtain ⟨e, hE, hwf⟩ := w1
  subst e
  have HE := Lib.hid hE
  have CL := Lib.hid (eLong (.slice a L.length cap) L 200 w hE (by decide))
  clear hE
  cases hlg : lng L 200
  case true =>
    rw [hlg] at CL
    go_enter Try.func5, Try.ntmps5
    go_wp2_with fail
    refine CL.out.mono ?_
    rintro e w2 ⟨rfl, X2⟩
    go_wp2_with fail
    refine (live15 _).mono ?_
    rintro e w3 ⟨rfl, X3⟩
    go_wp2
    go_ret
    exact ⟨rfl, (X2.trans X3).below⟩
  rw [hlg] at CL
  obtain ⟨h200, h100⟩ := lng_no hlg
  have hT : tot L ≤ 20000 := by have := tot_le h100; have : L.length * 100 ≤ 20000 := by omega
                                omega
  have hp : ∀ e ∈ L, 0 ≤ e.p := fun e he => (wf_u64 (hwf e he).2.2.2.2.1).1
  have hd6 : ∀ e ∈ L, e.d.length ≤ 1000000 := fun e he => by have := h100 e he; omega
  have hM6 : ∀ e ∈ merged 32 L, e.d.length ≤ 1000000 := fun e he => by
    have h1 := tot_mem he
    rw [mrun_tot] at h1
    omega
  have hML : (merged 32 L).length ≤ 200 := Nat.le_trans (mrun_len 32 L) h200
  have hMT : tot (merged 32 L) ≤ 20000 := by rw [mrun_tot]; exact hT
  have hS6 : ∀ e ∈ L.map (sh 32 f), e.d.length ≤ 1000000 := fun e he => by
    obtain ⟨x, hx, rfl⟩ := List.mem_map.1 he
    rw [sh_d]
    exact hd6 x hx
  have C1 := Lib.hid (fun w' (hx : Ext w w') => eMerge32 _ L w' (HE.out.ext hx) hx.size (by omega) (by omega))
  have C2 := Lib.hid (fun w' (hx : Ext w w') => eShift32 f _ L w' (HE.out.ext hx) (by omega) hd6)
  have C3 := Lib.hid (fun w' (hx : Ext w w') => rMerge32 _ L w' (HE.out.ext hx) hx.size (by omega) (by omega))
  have C4 := Lib.hid (fun w' (hx : Ext w w') => rShift32 f _ L w' (HE.out.ext hx) hx.size (by omega) hp hf)
  have C5 := Lib.hid (fun v w' B (h : EvsV w' B v (merged 32 L)) (hB : B ≤ w'.heap.size) => eMerge32 v (merged 32 L) w' h hB (by omega) (by omega))
  have S1 := Lib.hid (fun B1 B2 a b w' (h1 : EvsV w' B1 a (merged 32 L)) (h2 : EvsV w' B2 b (merged 32 L)) => rSame_is a b _ _ w' h1 h2 hM6 hM6)
  have S2 := Lib.hid (fun B1 B2 a b w' (h1 : EvsV w' B1 a (L.map (sh 32 f))) (h2 : EvsV w' B2 b (L.map (sh 32 f))) => rSame_is a b _ _ w' h1 h2 hS6 hS6)
  rw [merged_again] at C5
  rw [decide_eq_true (rfl : merged 32 L = merged 32 L)] at S1
  rw [decide_eq_true (rfl : L.map (sh 32 f) = L.map (sh 32 f))] at S2
  generalize merged 32 L = M at *
  generalize L.map (sh 32 f) = SH at *
  clear hlg h200 h100 hT hp hd6 hM6 hML hMT hS6 hwf
  go_enter Try.func5, Try.ntmps5
  go_wp2_with fail
  refine CL.out.mono ?_
  rintro e w2 ⟨rfl, X2⟩
  go_wp2_with fail
  refine (C1.out _ X2).mono ?_
  rintro e w3 ⟨v3, rfl, R3, X3⟩
  have Y3 := Lib.hid (X2.trans X3)
  have Q3 := Lib.hid X3
  have B3 := Lib.hid R3.re
  clear R3 X3
  go_wp2_with fail
  refine (C2.out _ Y3.out).mono ?_
  rintro e w4 ⟨v4, rfl, R4, X4⟩
  have Y4 := Lib.hid (Y3.out.trans X4)
  have Q4 := Lib.hid (Q3.out.trans X4)
  have M4 := Lib.hid (B3.out.ext X4).evs
  have Z4 := Lib.hid R4.evs
  clear R4
  go_wp2_with fail
  refine (rRight_yes _ _ (by decide)).mono ?_
  rintro e w' ⟨rfl, rfl⟩
  go_wp2_with fail
  refine (C3.out _ Y4.out).mono ?_
  rintro e w5 ⟨v5, rfl, R5, X5⟩
  have Y5 := Lib.hid (Y4.out.trans X5)
  have Q5 := Lib.hid (Q4.out.trans X5)
  have M5 := Lib.hid (M4.out.ext X5)
  have Z5 := Lib.hid (Z4.out.ext X5)
  have N5 := Lib.hid R5.evs
  clear R5 X5 M4 Z4
  go_wp2_with fail
  refine (S1.out _ _ _ _ _ M5.out N5.out).mono ?_
  rintro e w6 ⟨rfl, X6⟩
  have Y6 := Lib.hid (Y5.out.trans X6)
  have Q6 := Lib.hid (Q5.out.trans X6)
  have M6 := Lib.hid (M5.out.ext X6)
  have Z6 := Lib.hid (Z5.out.ext X6)
  clear X6 M5 Z5 N5
  go_wp2_with fail
  refine (C5.out _ _ _ (M6.out.up Q6.out.size) (Nat.le_refl _)).mono ?_
  rintro e w7 ⟨v7, rfl, R7, X7⟩
  have Y7 := Lib.hid (Y6.out.trans X7)
  have M7 := Lib.hid (M6.out.ext X7)
  have Z7 := Lib.hid (Z6.out.ext X7)
  have N7 := Lib.hid R7.re.evs
  clear R7 X7 M6 Z6
  go_wp2_with fail
  refine (S1.out _ _ _ _ _ N7.out M7.out).mono ?_
  rintro e w8 ⟨rfl, X8⟩
  have Y8 := Lib.hid (Y7.out.trans X8)
  have Z8 := Lib.hid (Z7.out.ext X8)
  clear X8 M7 N7 Z7
  go_wp2_with fail
  refine (C4.out _ Y8.out).mono ?_
  rintro e w9 ⟨v9, rfl, R9, X9⟩
  have Y9 := Lib.hid (Y8.out.trans X9)
  have Z9 := Lib.hid (Z8.out.ext X9)
  have N9 := Lib.hid R9.evs
  clear R9 X9 Z8
  go_wp2_with fail
  refine (S2.out _ _ _ _ _ Z9.out N9.out).mono ?_
  rintro e wa ⟨rfl, Xa⟩
  go_wp2_with fail
  refine (live15 _).mono ?_
  rintro e wb ⟨rfl, Xb⟩
  go_wp2
  go_ret
  exact ⟨rfl, ((Y9.out.trans Xa).trans Xb).below⟩
set_option maxRecDepth 100000 in
theorem merges_walk64 (f : Int) (a : Option Addr) (len cap : Nat) (L : List Ev) (w : World) (w1 : IsEvs w a len cap L) (hf : 0 ≤ f) :
    Calls Try.prog 5 #[.int .i64 64, .slice a len cap, .int .u64 f] w fun e w' => e = .returned (.bool true) ∧ Below w.heap.size w w' := by
  obtain ⟨e, hE, hwf⟩ := w1
  subst e
  have HE := Lib.hid hE
  have CL := Lib.hid (eLong (.slice a L.length cap) L 200 w hE (by decide))
  clear hE
  cases hlg : lng L 200
  case true =>
    rw [hlg] at CL
    go_enter Try.func5, Try.ntmps5
    go_wp2_with fail
    refine CL.out.mono ?_
    rintro e w2 ⟨rfl, X2⟩
    go_wp2_with fail
    refine (live15 _).mono ?_
    rintro e w3 ⟨rfl, X3⟩
    go_wp2
    go_ret
    exact ⟨rfl, (X2.trans X3).below⟩
  rw [hlg] at CL
  obtain ⟨h200, h100⟩ := lng_no hlg
  have hT : tot L ≤ 20000 := by have := tot_le h100; have : L.length * 100 ≤ 20000 := by omega
                                omega
  have hp : ∀ e ∈ L, 0 ≤ e.p := fun e he => (wf_u64 (hwf e he).2.2.2.2.1).1
  have hd6 : ∀ e ∈ L, e.d.length ≤ 1000000 := fun e he => by have := h100 e he; omega
  have hM6 : ∀ e ∈ merged 64 L, e.d.length ≤ 1000000 := fun e he => by
    have h1 := tot_mem he
    rw [mrun_tot] at h1
    omega
  have hML : (merged 64 L).length ≤ 200 := Nat.le_trans (mrun_len 64 L) h200
  have hMT : tot (merged 64 L) ≤ 20000 := by rw [mrun_tot]; exact hT
  have hS6 : ∀ e ∈ L.map (sh 64 f), e.d.length ≤ 1000000 := fun e he => by
    obtain ⟨x, hx, rfl⟩ := List.mem_map.1 he
    rw [sh_d]
    exact hd6 x hx
  have C1 := Lib.hid (fun w' (hx : Ext w w') => eMerge64 _ L w' (HE.out.ext hx) hx.size (by omega) (by omega))
  have C2 := Lib.hid (fun w' (hx : Ext w w') => eShift64 f _ L w' (HE.out.ext hx) (by omega) hd6)
  have C3 := Lib.hid (fun w' (hx : Ext w w') => rMerge64 _ L w' (HE.out.ext hx) hx.size (by omega) (by omega))
  have C4 := Lib.hid (fun w' (hx : Ext w w') => rShift64 f _ L w' (HE.out.ext hx) hx.size (by omega) hp hf)
  have C5 := Lib.hid (fun v w' B (h : EvsV w' B v (merged 64 L)) (hB : B ≤ w'.heap.size) => eMerge64 v (merged 64 L) w' h hB (by omega) (by omega))
  have S1 := Lib.hid (fun B1 B2 a b w' (h1 : EvsV w' B1 a (merged 64 L)) (h2 : EvsV w' B2 b (merged 64 L)) => rSame_is a b _ _ w' h1 h2 hM6 hM6)
  have S2 := Lib.hid (fun B1 B2 a b w' (h1 : EvsV w' B1 a (L.map (sh 64 f))) (h2 : EvsV w' B2 b (L.map (sh 64 f))) => rSame_is a b _ _ w' h1 h2 hS6 hS6)
  rw [merged_again] at C5
  rw [decide_eq_true (rfl : merged 64 L = merged 64 L)] at S1
  rw [decide_eq_true (rfl : L.map (sh 64 f) = L.map (sh 64 f))] at S2
  generalize merged 64 L = M at *
  generalize L.map (sh 64 f) = SH at *
  clear hlg h200 h100 hT hp hd6 hM6 hML hMT hS6 hwf
  go_enter Try.func5, Try.ntmps5
  go_wp2_with fail
  refine CL.out.mono ?_
  rintro e w2 ⟨rfl, X2⟩
  go_wp2_with fail
  refine (C1.out _ X2).mono ?_
  rintro e w3 ⟨v3, rfl, R3, X3⟩
  have Y3 := Lib.hid (X2.trans X3)
  have Q3 := Lib.hid X3
  have B3 := Lib.hid R3.re
  clear R3 X3
  go_wp2_with fail
  refine (C2.out _ Y3.out).mono ?_
  rintro e w4 ⟨v4, rfl, R4, X4⟩
  have Y4 := Lib.hid (Y3.out.trans X4)
  have Q4 := Lib.hid (Q3.out.trans X4)
  have M4 := Lib.hid (B3.out.ext X4).evs
  have Z4 := Lib.hid R4.evs
  clear R4
  go_wp2_with fail
  refine (rRight_yes _ _ (by decide)).mono ?_
  rintro e w' ⟨rfl, rfl⟩
  go_wp2_with fail
  refine (C3.out _ Y4.out).mono ?_
  rintro e w5 ⟨v5, rfl, R5, X5⟩
  have Y5 := Lib.hid (Y4.out.trans X5)
  have Q5 := Lib.hid (Q4.out.trans X5)
  have M5 := Lib.hid (M4.out.ext X5)
  have Z5 := Lib.hid (Z4.out.ext X5)
  have N5 := Lib.hid R5.evs
  clear R5 X5 M4 Z4
  go_wp2_with fail
  refine (S1.out _ _ _ _ _ M5.out N5.out).mono ?_
  rintro e w6 ⟨rfl, X6⟩
  have Y6 := Lib.hid (Y5.out.trans X6)
  have Q6 := Lib.hid (Q5.out.trans X6)
  have M6 := Lib.hid (M5.out.ext X6)
  have Z6 := Lib.hid (Z5.out.ext X6)
  clear X6 M5 Z5 N5
  go_wp2_with fail
  refine (C5.out _ _ _ (M6.out.up Q6.out.size) (Nat.le_refl _)).mono ?_
  rintro e w7 ⟨v7, rfl, R7, X7⟩
  have Y7 := Lib.hid (Y6.out.trans X7)
  have M7 := Lib.hid (M6.out.ext X7)
  have Z7 := Lib.hid (Z6.out.ext X7)
  have N7 := Lib.hid R7.re.evs
  clear R7 X7 M6 Z6
  go_wp2_with fail
  refine (S1.out _ _ _ _ _ N7.out M7.out).mono ?_
  rintro e w8 ⟨rfl, X8⟩
  have Y8 := Lib.hid (Y7.out.trans X8)
  have Z8 := Lib.hid (Z7.out.ext X8)
  clear X8 M7 N7 Z7
  go_wp2_with fail
  refine (C4.out _ Y8.out).mono ?_
  rintro e w9 ⟨v9, rfl, R9, X9⟩
  have Y9 := Lib.hid (Y8.out.trans X9)
  have Z9 := Lib.hid (Z8.out.ext X9)
  have N9 := Lib.hid R9.evs
  clear R9 X9 Z8
  go_wp2_with fail
  refine (S2.out _ _ _ _ _ Z9.out N9.out).mono ?_
  rintro e wa ⟨rfl, Xa⟩
  go_wp2_with fail
  refine (live15 _).mono ?_
  rintro e wb ⟨rfl, Xb⟩
  go_wp2
  go_ret
  exact ⟨rfl, ((Y9.out.trans Xa).trans Xb).below⟩
set_option maxRecDepth 100000 in
theorem eventMerges_walk (d : Int) (a : Option Addr) (len cap : Nat) (L : List Ev) (f : Int) (w : World) (w0 : (Lit.int .i64 d).wf = true) (w1 : IsEvs w a len cap L) (w2 : (Lit.int .u64 f).wf = true) :
    Calls Try.prog 5 #[.int .i64 d, .slice a len cap, .int .u64 f] w fun e w' => e = .returned (.bool true) ∧ Below w.heap.size w w' := by
  have hf := (wf_u64 w2).1
  by_cases h32 : d = 32
  · subst h32
    exact merges_walk32 f a len cap L w w1 hf
  by_cases h64 : d = 64
  · subst h64
    exact merges_walk64 f a len cap L w w1 hf
  have k1 : (d == 32) = false := beq_eq_false_iff_ne.2 h32
  have k2 : (d == 64) = false := beq_eq_false_iff_ne.2 h64
  obtain ⟨e, hE, -⟩ := w1
  subst e
  have CL := Lib.hid (eLong (.slice a L.length cap) L 200 w hE (by decide))
  clear hE h32 h64
  generalize lng L 200 = b at *
  cases b
  · go_enter Try.func5, Try.ntmps5
    go_wp2_with fail
    refine CL.out.mono ?_
    rintro e w2 ⟨rfl, X2⟩
    go_wp2_with fail
    refine (eMerge_no _ _ _ k1 k2).mono ?_
    rintro e w' ⟨rfl, rfl⟩
    go_wp2_with fail
    refine (eShift_no _ _ _ _ k1 k2).mono ?_
    rintro e w' ⟨rfl, rfl⟩
    go_wp2_with fail
    refine (rRight_no _ _ k1 k2).mono ?_
    rintro e w' ⟨rfl, rfl⟩
    go_wp2_with fail
    refine (live15 _).mono ?_
    rintro e w3 ⟨rfl, X3⟩
    go_wp2
    go_ret
    exact ⟨rfl, (X2.trans X3).below⟩
  · go_enter Try.func5, Try.ntmps5
    go_wp2_with fail
    refine CL.out.mono ?_
    rintro e w2 ⟨rfl, X2⟩
    go_wp2_with fail
    refine (live15 _).mono ?_
    rintro e w3 ⟨rfl, X3⟩
    go_wp2
    go_ret
    exact ⟨rfl, (X2.trans X3).below⟩
end Go.Proofs.Ytkbbneknblnbnaa

/- The walk of GuardForward. -/
import Derived.Test.YtoaifbengichbabGdL
import Derived.Test.YtoaifbengichbabOpenG
import Derived.Test.YtoaifbengichbabRef02
namespace Go.Proofs.Ytoaifbengichbab
open Go.RowKit
set_option linter.unusedVariables false
set_option linter.unusedSimpArgs false
set_option maxHeartbeats 4000000
attribute [local go_sem] later_cell later_frozen later_const
/-- how a consumer stands, whatever it was told -/
structure Fwd (C : Int) (h : HS) : Prop where
  c : h.c = true
  k : h.C = C
  lo : 0 ≤ D64 (h.U - h.G)
  hi : D64 (h.U - h.G) ≤ C
theorem fwd_step {C : Int} {h : HS} (f : Fwd C h) (hC : C ≤ 1073741824) (k n p : Int) (n0 : -9223372036854775808 ≤ n) (n1 : n ≤ 9223372036854775807) :
    Fwd C (gstp64 h k n p).h ∧ ¬ D64 ((gstp64 h k n p).h.G - h.G) < 0 ∧ ¬ D64 ((gstp64 h k n p).h.U - h.U) < 0 := by
  have same : Fwd C h ∧ ¬ D64 (h.G - h.G) < 0 ∧ ¬ D64 (h.U - h.U) < 0 := ⟨f, by rw [Int.sub_self]; decide, by rw [Int.sub_self]; decide⟩
  obtain ⟨fc, fk, lo, hi⟩ := f
  unfold gstp64
  by_cases h1 : k = 1
  · rw [if_pos h1]
    unfold claimedS
    rw [if_pos (.inl fc)]
    exact same
  rw [if_neg h1]
  by_cases h2 : k = 2
  · rw [if_pos h2]
    unfold publishedS
    by_cases hN : 0 < h.N
    · rw [if_pos hN]
      exact ⟨⟨fc, fk, lo, hi⟩, same.2⟩
    · rw [if_neg hN]
      exact same
  rw [if_neg h2]
  by_cases h3 : k = 3
  · rw [if_pos h3]
    unfold sawS64
    by_cases hs : h.c = false ∨ D64 (U64 (h.G + n) - h.G) < D64 (h.U - h.G) ∨ h.C < D64 (U64 (h.G + n) - h.G)
    · rw [if_pos hs]
      exact same
    · rw [if_neg hs]
      have e : D64 (U64 (h.G + n) - h.G) = n := by unfold D64 U64; omega
      rw [e] at hs
      have a1 : D64 (h.U - h.G) ≤ n := Int.not_lt.1 fun x => hs (.inr (.inl x))
      have a2 : n ≤ h.C := Int.not_lt.1 fun x => hs (.inr (.inr x))
      refine ⟨⟨fc, fk, ?_, ?_⟩, same.2.1, ?_⟩
      · show 0 ≤ D64 (U64 (h.G + n) - h.G)
        omega
      · show D64 (U64 (h.G + n) - h.G) ≤ C
        omega
      · show ¬ D64 (U64 (h.G + n) - h.U) < 0
        have : D64 (U64 (h.G + n) - h.U) = n - D64 (h.U - h.G) := by
          have : D64 (h.U - h.G) = (h.U - h.G + 9223372036854775808) % 18446744073709551616 - 9223372036854775808 := rfl
          unfold D64 U64 at *
          omega
        omega
  rw [if_neg h3]
  by_cases h4 : k = 4
  · rw [if_pos h4]
    unfold releasedS64
    by_cases hs : n < 1 ∨ D64 (h.U - h.G) < n
    · rw [if_pos hs]
      exact same
    · rw [if_neg hs]
      have e : D64 (h.U - U64 (h.G + n)) = D64 (h.U - h.G) - n := by unfold D64 U64 at *; omega
      have e2 : D64 (U64 (h.G + n) - h.G) = n := by unfold D64 U64 at *; omega
      refine ⟨⟨fc, fk, ?_, ?_⟩, ?_, same.2.2⟩
      · show 0 ≤ D64 (h.U - U64 (h.G + n))
        omega
      · show D64 (h.U - U64 (h.G + n)) ≤ C
        omega
      · show ¬ D64 (U64 (h.G + n) - h.G) < 0
        omega
  rw [if_neg h4]
  exact same
set_option maxRecDepth 100000 in
theorem guardForward_walk (C s : Int) (a : Option Addr) (len cap : Nat) (ds : List GDo) (w : World) (wC : (Lit.int .i64 C).wf = true) (ws : (Lit.int .u64 s).wf = true) (hD : IsGDos w a len cap ds) :
    Calls Try.prog 4 #[.int .i64 C, .int .u64 s, .slice a len cap] w fun e w' => e = .returned (.bool true) ∧ Below w.heap.size w w' := by
  obtain ⟨hdl, hdc, hdm, hdo, hdr⟩ := hD
  have hd63 : len ≤ 9223372036854775807 := by unfold maxLen at hdm; omega
  have CR := Lib.hid (fun w => r2Right C w)
  have CV := Lib.hid (fun w => live14 w)
  cases hr : rightB C
  case false =>
    rw [hr] at CR
    clear hdr hdo hdl
    go_enter Try.func4, Try.ntmps4
    go_wp2_with fail
    refine (consumer64_no C s _ hr).mono ?_
    rintro e w' ⟨rfl, rfl⟩
    go_wp2_with fail
    refine (CR.out _).mono ?_
    rintro e w' ⟨rfl, rfl⟩
    go_wp2_with fail
    refine (CR.out _).mono ?_
    rintro e w' ⟨rfl, rfl⟩
    go_wp2_with fail
    refine (CV.out _).mono ?_
    rintro e w1 ⟨rfl, X1⟩
    go_wp2
    go_ret
    exact ⟨rfl, X1.below⟩
  rw [hr] at CR
  by_cases h100 : 100 < len
  · have d100 : decide ((100 : Int) < (len : Int)) = true := by simp; omega
    clear hdr hdo hdl
    go_enter Try.func4, Try.ntmps4
    go_wp2_with fail
    refine (consumer64_yes C s _ hr).mono ?_
    rintro e w1 ⟨b, rfl, H1, hb, X1⟩
    clear H1 hb
    go_wp2_with fail
    refine (CR.out _).mono ?_
    rintro e w' ⟨rfl, rfl⟩
    go_wp2_with fail
    refine (CR.out _).mono ?_
    rintro e w' ⟨rfl, rfl⟩
    go_wp2_with fail
    refine (CV.out _).mono ?_
    rintro e w2 ⟨rfl, X2⟩
    go_wp2
    go_ret
    exact ⟨rfl, (X1.trans X2).below⟩
  have d100 : decide ((100 : Int) < (len : Int)) = false := by simp; omega
  obtain ⟨hC0, hC1⟩ := right_range hr
  have HDO := Lib.hid hdo
  have HDR := Lib.hid hdr
  have HDL := Lib.hid hdl
  have HF0 : Hid (Fwd C ⟨C, true, 0, 0, s, s⟩) := Lib.hid ⟨rfl, rfl, by show 0 ≤ D64 (s - s); rw [Int.sub_self]; decide, by show D64 (s - s) ≤ C; rw [Int.sub_self, show D64 0 = 0 by decide]; omega⟩
  clear hdo hdr hdl h100
  go_enter Try.func4, Try.ntmps4
  go_wp2_with fail
  refine (consumer64_yes C s _ hr).mono ?_
  rintro e w1 ⟨b, rfl, H1, hb, X1⟩
  have HB := Lib.hid hb
  have K1 := Lib.hid H1
  have HX1 := Lib.hid X1
  clear hb H1 X1
  go_wp2_with fail
  refine (CR.out _).mono ?_
  rintro e w' ⟨rfl, rfl⟩
  go_wp2
  go_loopw [8] (fun i wr => ∃ k : Nat, k ≤ len ∧ i = .int .i64 k ∧ ∃ h, HD .u64 wr b h ∧ Fwd C h ∧ Ext w wr) (fun i _ => len - (intOf i).toNat)
  case atStart => exact ⟨0, Nat.zero_le _, rfl, _, K1.out, HF0.out, HX1.out⟩
  case round =>
    obtain ⟨k, hk, rfl, h, hH, hF, hx⟩ := hrel
    by_cases hlt : k < len
    · have hkl : (k : Int) < (len : Int) := by omega
      have hkd : k < ds.length := by rw [HDL.out]; exact hlt
      obtain ⟨db, doff, ea, hcell⟩ := HDR.out k hkd
      subst ea
      obtain ⟨_, wn, wp, _, _, wl⟩ := HDO.out _ (List.getElem_mem hkd)
      obtain ⟨n0, n1⟩ := wf_i64 wn
      obtain ⟨p0, p1⟩ := wf_u64 wp
      have c0 := hx.cell (hcell 0 _ rfl)
      have c1 := hx.cell (hcell 1 _ rfl)
      have c2 := hx.cell (hcell 2 _ rfl)
      have c3 := hx.cell (hcell 3 _ rfl)
      have c4 := hx.cell (hcell 4 _ rfl)
      have c5 := hx.cell (hcell 5 _ rfl)
      generalize ds[k] = d at *
      have HH := Lib.hid hH
      have HF := Lib.hid hF
      have HX := Lib.hid hx
      have CS := Lib.hid (fun w' (hh : HD .u64 w' b h) => great_ok b h d.k d.n d.p d.op d.m (.slice d.a d.len d.cap) w' hh p0 p1)
      have ST := Lib.hid (fwd_step hF hC1 d.k d.n d.p n0 n1)
      clear hH hF hx hcell wn wp wl n0 n1 p0 p1 hkd
      rw [show doff + (k * 6 + 0) = doff + k * 6 by omega] at c0
      rw [show doff + (k * 6 + 1) = doff + k * 6 + 1 by omega] at c1
      rw [show doff + (k * 6 + 2) = doff + k * 6 + 2 by omega] at c2
      rw [show doff + (k * 6 + 3) = doff + k * 6 + 3 by omega] at c3
      rw [show doff + (k * 6 + 4) = doff + k * 6 + 4 by omega] at c4
      rw [show doff + (k * 6 + 5) = doff + k * 6 + 5 by omega] at c5
      go_wp2_with fail
      refine (gate64 b h _ HH.out).mono ?_
      rintro e w' ⟨rfl, rfl⟩
      go_wp2_with fail
      refine (upto64 b h _ HH.out).mono ?_
      rintro e w' ⟨rfl, rfl⟩
      go_wp2_with fail
      refine (CS.out _ HH.out).mono ?_
      rintro e w5 ⟨rfl, H5, T5⟩
      have HX5 := Lib.hid (But.ext HX.out T5 (fun i hi => by rw [hi]; exact HB.out))
      generalize gstp64 h d.k d.n d.p = st at *
      have K5 := Lib.hid H5
      have l1 : decide (D64 (st.h.G - h.G) < 0) = false := by simpa using ST.out.2.1
      have l2 : decide (D64 (st.h.U - h.U) < 0) = false := by simpa using ST.out.2.2
      have l3 : decide (D64 (st.h.U - st.h.G) < 0) = false := by have := ST.out.1.lo; simpa using this
      have l4 : decide (C < D64 (st.h.U - st.h.G)) = false := by have := ST.out.1.hi; simpa using this
      have CL1 := Lib.hid (fun w => lessU64 st.h.G h.G w)
      have CL2 := Lib.hid (fun w => lessU64 st.h.U h.U w)
      rw [l1] at CL1
      rw [l2] at CL2
      have CRD := Lib.hid (fun w' (hh : HD .u64 w' b st.h) => ready64 b st.h w' hh)
      have CDF := Lib.hid (fun w => diffU64 st.h.U st.h.G w)
      generalize D64 (st.h.U - st.h.G) = rd at l3 l4 CRD CDF
      clear H5 T5 c0 c1 c2 c3 c4 c5 l1 l2 CS
      go_wp2_with fail
      refine (gate64 b st.h _ K5.out).mono ?_
      rintro e w' ⟨rfl, rfl⟩
      go_wp2_with fail
      refine (CL1.out _).mono ?_
      rintro e w' ⟨rfl, rfl⟩
      go_wp2_with fail
      refine (upto64 b st.h _ K5.out).mono ?_
      rintro e w' ⟨rfl, rfl⟩
      go_wp2_with fail
      refine (CL2.out _).mono ?_
      rintro e w' ⟨rfl, rfl⟩
      go_wp2_with fail
      refine (CRD.out _ K5.out).mono ?_
      rintro e w' ⟨rfl, rfl⟩
      go_wp2_with fail
      refine (CRD.out _ K5.out).mono ?_
      rintro e w' ⟨rfl, rfl⟩
      go_wp2_with fail
      refine (upto64 b st.h _ K5.out).mono ?_
      rintro e w' ⟨rfl, rfl⟩
      go_wp2_with fail
      refine (gate64 b st.h _ K5.out).mono ?_
      rintro e w' ⟨rfl, rfl⟩
      go_wp2_with fail
      refine (CDF.out _).mono ?_
      rintro e w' ⟨rfl, rfl⟩
      go_wp2_with fail
      refine (CRD.out _ K5.out).mono ?_
      rintro e w' ⟨rfl, rfl⟩
      go_wp2
      exact ⟨⟨k + 1, by omega, by go_num, _, K5.out, ST.out.1, HX5.out⟩, by simp [intOf]; omega⟩
    · obtain rfl : k = len := by omega
      have HX := Lib.hid hx
      clear hH hF hx
      go_wp2_with fail
      refine (CV.out _).mono ?_
      rintro e w2 ⟨rfl, X2⟩
      go_wp2
      go_ret
      exact ⟨rfl, (HX.out.trans X2).below⟩
end Go.Proofs.Ytoaifbengichbab

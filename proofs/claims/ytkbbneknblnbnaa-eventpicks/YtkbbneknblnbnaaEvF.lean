/- The program's Same. -/
import Derived.Test.YtkbbneknblnbnaaEvQ
namespace Go.Proofs.Ytkbbneknblnbnaa
open Go.RowKit
set_option linter.unusedVariables false
set_option linter.unusedSimpArgs false
set_option maxHeartbeats 4000000
attribute [local go_sem] later_cell later_frozen later_const
set_option maxRecDepth 100000 in
theorem eqFunc_is {B1 B2 : Nat} (a b : Value) (xs ys : List Ev) (w : World) (h1 : EvsV w B1 a xs) (h2 : EvsV w B2 b ys) (k1 : ∀ e ∈ xs, e.d.length ≤ 1000000) (k2 : ∀ e ∈ ys, e.d.length ≤ 1000000) :
    Calls Try.prog 41 #[a, b, .func (.func 42) #[] #[]] w fun e w' => e = .returned (.bool (decide (xs = ys))) ∧ Ext w w' := by
  obtain ⟨a1, c1, e, hm1, f1⟩ := h1.get
  subst e
  obtain ⟨a2, c2, e, hm2, f2⟩ := h2.get
  subst e
  have H1 := Lib.hid f1
  have H2 := Lib.hid f2
  have K1 := Lib.hid k1
  have K2 := Lib.hid k2
  obtain ⟨n, hn⟩ : ∃ n, n = xs.length := ⟨_, rfl⟩
  obtain ⟨m, hm⟩ : ∃ m, m = ys.length := ⟨_, rfl⟩
  rw [← hn, ← hm]
  rw [← hn] at hm1
  rw [← hm] at hm2
  clear h1 h2 f1 f2 k1 k2
  by_cases hnm : n = m
  case neg =>
    have e : decide (xs = ys) = false := by
      rw [decide_eq_false_iff_not]
      intro e
      rw [e] at hn
      omega
    rw [e]
    have k : ((n : Int) != (m : Int)) = true := by simp; omega
    clear hn hm e hnm
    go_enter Try.func41, Try.ntmps41
    go_wp2
    go_ret
    exact ⟨rfl, Ext.refl _⟩
  subst hnm
  have HN := Lib.hid hn
  have HM := Lib.hid hm
  clear hn hm
  generalize hv : decide (xs = ys) = v
  have HV := Lib.hid hv
  clear hv
  go_enter Try.func41, Try.ntmps41
  go_wp2
  go_loopw [17] (fun i wr => ∃ k : Nat, k ≤ n ∧ i = .int .i64 k ∧ Ext w wr ∧ Hid (xs.take k = ys.take k)) (fun i _ => n - (intOf i).toNat)
  case atStart => exact ⟨0, Nat.zero_le _, rfl, Ext.refl _, Lib.hid rfl⟩
  case round =>
    obtain ⟨k, hk, rfl, hx, HT⟩ := hrel
    by_cases hlt : k < n
    case neg =>
      have HVV : Hid (true = v) := Lib.hid (by
        rw [← HV.out]
        symm
        rw [decide_eq_true_eq]
        exact take_all HT.out (by have := HN.out; omega) (by have := HM.out; omega))
      clear HT
      go_wp2
      go_ret
      exact ⟨congrArg (fun x => Ending.returned (Value.bool x)) HVV.out, hx⟩
    have hkx : k < xs.length := by have := HN.out; omega
    have hky : k < ys.length := by have := HM.out; omega
    have hkn : (k : Int) < (n : Int) := by omega
    obtain ⟨b1, o1, u1, e1, A1⟩ := H1.out wr hx k hkx
    obtain ⟨b2, o2, u2, e2, A2⟩ := H2.out wr hx k hky
    subst e1
    subst e2
    have L1 := K1.out xs[k] (List.getElem_mem hkx)
    have L2 := K2.out ys[k] (List.getElem_mem hky)
    obtain ⟨ua, uc, eu⟩ := A1.d.len
    obtain ⟨va, vc, ev⟩ := A2.d.len
    have HTS := Lib.hid (fun e => getD_take HT.out hkx hky e)
    have HTN : Hid (¬ xs[k] = ys[k] → false = v) := Lib.hid (fun h => by
      rw [← HV.out]
      symm
      rw [decide_eq_false_iff_not]
      intro e
      subst e
      exact h rfl)
    have D1 := Lib.hid A1.d
    have D2 := Lib.hid A2.d
    obtain ⟨c0, c1', c2', c3, c4, c5, c6, -⟩ := A1
    obtain ⟨d0, d1, d2, d3, d4, d5, d6, -⟩ := A2
    clear HT
    generalize xs[k] = x at *
    generalize ys[k] = y at *
    have CE := Lib.hid (fun wz (hz : Ext wr wz) => eEqual_is x y u1 u2 wz (D1.out.ints.ext hz) (D2.out.ints.ext hz) L1 L2)
    generalize x.d.length = ul at eu
    generalize y.d.length = vl at ev
    subst eu
    subst ev
    clear D1 D2
    unfold evA at CE
    have hb1 := World.block_lt_of_cell? wr ⟨b1, o1 + k * 7, none⟩ c0
    have hb2 := World.block_lt_of_cell? wr ⟨b2, o2 + k * 7, none⟩ d0
    go_upto_region 7 with (fail)
    refine settle_wp ?_
    intro wA hbA
    have XA : Ext wr wA := Ext.trans (by repeat (first | with_reducible exact Ext.refl _ | with_reducible assumption | with_reducible refine Ext.alloc ?_ _ | with_reducible refine Ext.drew ?_ | with_reducible refine Ext.drewN ?_ _ | with_reducible refine Ext.setCell ?_ (by simp <;> omega) _ | with_reducible refine Ext.trans ?_ (by assumption))) hbA
    have qa_0 : wA.cell? ⟨wr.heap.size, 0, none⟩ = some (.int .i64 x.k) := hbA.cell (by simp [go_sem])
    have qa_1 : wA.cell? ⟨wr.heap.size, 1, none⟩ = some (.int .i64 x.t) := hbA.cell (by simp [go_sem])
    have qa_2 : wA.cell? ⟨wr.heap.size, 2, none⟩ = some (.int .i64 x.o) := hbA.cell (by simp [go_sem])
    have qa_3 : wA.cell? ⟨wr.heap.size, 3, none⟩ = some (.int .i64 x.n) := hbA.cell (by simp [go_sem])
    have qa_4 : wA.cell? ⟨wr.heap.size, 4, none⟩ = some (.int .u64 x.p) := hbA.cell (by simp [go_sem])
    have qa_5 : wA.cell? ⟨wr.heap.size, 5, none⟩ = some (.int .i64 x.c) := hbA.cell (by simp [go_sem])
    have qa_6 : wA.cell? ⟨wr.heap.size, 6, none⟩ = some (.slice ua ul uc) := hbA.cell (by simp [go_sem])
    have qb_0 : wA.cell? ⟨wr.heap.size + 1, 0, none⟩ = some (.int .i64 y.k) := hbA.cell (by simp [go_sem])
    have qb_1 : wA.cell? ⟨wr.heap.size + 1, 1, none⟩ = some (.int .i64 y.t) := hbA.cell (by simp [go_sem])
    have qb_2 : wA.cell? ⟨wr.heap.size + 1, 2, none⟩ = some (.int .i64 y.o) := hbA.cell (by simp [go_sem])
    have qb_3 : wA.cell? ⟨wr.heap.size + 1, 3, none⟩ = some (.int .i64 y.n) := hbA.cell (by simp [go_sem])
    have qb_4 : wA.cell? ⟨wr.heap.size + 1, 4, none⟩ = some (.int .u64 y.p) := hbA.cell (by simp [go_sem])
    have qb_5 : wA.cell? ⟨wr.heap.size + 1, 5, none⟩ = some (.int .i64 y.c) := hbA.cell (by simp [go_sem])
    have qb_6 : wA.cell? ⟨wr.heap.size + 1, 6, none⟩ = some (.slice va vl vc) := hbA.cell (by simp [go_sem])
    have HX := Lib.hid (hx.trans XA)
    have CE2 := Lib.hid (CE.out wA XA)
    clear hbA XA hx CE c0 c1' c2' c3 c4 c5 c6 d0 d1 d2 d3 d4 d5 d6 hb1 hb2 L1 L2
    by_cases hxy : x = y
    · have HT2 := Lib.hid (HTS.out hxy)
      rw [decide_eq_true hxy] at CE2
      clear HTS HTN hxy hkx hky
      go_wp2_with fail
      refine CE2.out.mono ?_
      rintro e w3 ⟨rfl, X3⟩
      have HX3 := Lib.hid (HX.out.trans X3)
      clear X3
      go_wp2
      exact ⟨⟨k + 1, by omega, by go_num, HX3.out, HT2⟩, by simp [intOf]; omega⟩
    · have HVV := Lib.hid (HTN.out hxy)
      rw [decide_eq_false hxy] at CE2
      clear HTS HTN hxy hkx hky
      go_wp2_with fail
      refine CE2.out.mono ?_
      rintro e w3 ⟨rfl, X3⟩
      have HX3 := Lib.hid (HX.out.trans X3)
      clear X3
      go_wp2
      go_ret
      exact ⟨congrArg (fun x => Ending.returned (Value.bool x)) HVV.out, HX3.out⟩
theorem eSame_is {B1 B2 : Nat} (a b : Value) (xs ys : List Ev) (w : World) (h1 : EvsV w B1 a xs) (h2 : EvsV w B2 b ys) (k1 : ∀ e ∈ xs, e.d.length ≤ 1000000) (k2 : ∀ e ∈ ys, e.d.length ≤ 1000000) :
    Calls Try.prog 22 #[a, b] w fun e w' => e = .returned (.bool (decide (xs = ys))) ∧ Ext w w' := by
  have C := Lib.hid (eqFunc_is a b xs ys w h1 h2 k1 k2)
  generalize decide (xs = ys) = r at *
  obtain ⟨a1, c1, e, -⟩ := h1.get
  subst e
  obtain ⟨a2, c2, e, -⟩ := h2.get
  subst e
  clear h1 h2 k1 k2
  generalize xs.length = n at *
  generalize ys.length = m at *
  go_enter Try.func22, Try.ntmps22
  go_wp2_with fail
  refine C.out.mono ?_
  rintro e w2 ⟨rfl, X2⟩
  go_wp2
  go_ret
  exact ⟨rfl, X2⟩
end Go.Proofs.Ytkbbneknblnbnaa

/- Copies of those events that are wanted; how long events are. -/
import Derived.Test.YtkbbneknblnbnaaEv1
import Derived.Deep.DeepCutAuto
namespace Go.Proofs.Ytkbbneknblnbnaa
open Go.RowKit
set_option linter.unusedVariables false
set_option linter.unusedSimpArgs false
set_option maxHeartbeats 2000000
attribute [local go_sem] later_cell later_frozen later_const
/-- where a slice of events lies, and what it has -/
theorem EvsV.get3 {w : World} {B : Nat} {v : Value} {L : List Ev} (h : EvsV w B v L) : ∃ a cap, v = .slice a L.length cap ∧ L.length ≤ 9223372036854775807 ∧ ∀ w', Ext w w' → ∀ i (hi : i < L.length), ∃ b off u, a = some ⟨b, off, none⟩ ∧ AtE w' B b (off + i * 7) u L[i] := by
  obtain ⟨a, cap, e, hc, hm⟩ := h.form
  subst e
  exact ⟨a, cap, rfl, by unfold maxLen at hm; omega, fun w' hx i hi => h.at hx hi⟩
/-- a call gives these events, in memory of its own -/
def GivesR (w : World) (L : List Ev) (e : Ending) (w' : World) : Prop := ∃ v, e = .returned v ∧ RE w' w.heap.size v L ∧ Ext w w'
theorem filter_snoc {α : Type} (p : α → Bool) {l : List α} {k : Nat} (hk : k < l.length) : (l.take (k + 1)).filter p = if p l[k] then (l.take k).filter p ++ [l[k]] else (l.take k).filter p := by
  rw [List.take_succ_eq_append_getElem hk, List.filter_append]
  by_cases h : p l[k] = true
  · rw [if_pos h]; simp [h]
  · rw [if_neg h]; simp [h]
theorem filter_len {α : Type} (p : α → Bool) (l : List α) (k : Nat) : ((l.take k).filter p).length ≤ l.length := by
  refine Nat.le_trans (List.length_filter_le _ _) ?_
  rw [List.length_take]
  exact Nat.min_le_right _ _
theorem ePick_eCopy1 {B : Nat} (v : Value) (L : List Ev) (p : Ev → Bool) (caps : Array Value) (w : World) (h : EvsV w B v L) (hl : L.length ≤ 900000) (hd : ∀ e ∈ L, e.d.length ≤ 1000000)
    (hF : ∀ e ∈ L, ∀ u w', Ext w w' → Calls Try.prog 40 (#[evA e u] ++ caps) w' fun r w'' => r = .returned (.bool (p e)) ∧ Ext w' w'') : Calls Try.prog 36 #[v, .func (.func 40) #[] caps] w (GivesR w (L.filter p)) := by
  obtain ⟨a, cap, e, hm, f⟩ := h.get3
  subst e
  have HA := Lib.hid f
  have HD := Lib.hid hd
  have HF := Lib.hid hF
  have HG : Hid (∀ v w', RE w' w.heap.size v ((L.take L.length).filter p) → Ext w w' → GivesR w (L.filter p) (.returned v) w') := Lib.hid (fun v w' h1 h2 => ⟨v, rfl, by rwa [List.take_length] at h1, h2⟩)
  have HS := Lib.hid (fun k hk => filter_snoc p (l := L) (k := k) hk)
  have HFL := Lib.hid (filter_len p L)
  generalize GivesR w (L.filter p) = G at *
  clear h f hd hF
  go_enter Try.func36, Try.ntmps36
  go_wp2
  go_loopw [5, 10] (fun v i wr => ∃ k : Nat, k ≤ L.length ∧ i = .int .i64 k ∧ RE wr w.heap.size v ((L.take k).filter p) ∧ Ext w wr) (fun _ i _ => L.length - (intOf i).toNat)
  case atStart => exact ⟨0, Nat.zero_le _, rfl, by rw [List.take_zero]; exact RE.nil _ _, Ext.refl _⟩
  case round =>
    obtain ⟨k, hk, rfl, hR, hx⟩ := hrel
    by_cases hlt : k < L.length
    case neg =>
      obtain rfl : k = L.length := by omega
      have HG2 := Lib.hid (HG.out _ wr hR hx)
      clear hR hx
      go_wp2
      exact HG2.out
    have hlt' : (k : Int) < (L.length : Int) := by omega
    obtain ⟨b, off, u, ea, A⟩ := HA.out wr hx k hlt
    subst ea
    obtain ⟨ua, uc, eu⟩ := A.d.len
    have hmem := List.getElem_mem hlt
    have hdl := HD.out L[k] hmem
    have CF := fun u w' hx => HF.out L[k] hmem u w' hx
    have hs := HS.out k hlt
    generalize L[k] = x at *
    generalize hul : x.d.length = ul at eu
    subst eu
    have HUL := Lib.hid hul
    clear hul
    have HSN := Lib.hid hs
    have HR := Lib.hid hR
    have HX := Lib.hid hx
    have HAD := Lib.hid A.d
    have HDL := Lib.hid hdl
    have HC := Lib.hid CF
    obtain ⟨c0, c1, c2, c3, c4, c5, c6, -⟩ := A
    clear hR hx hs hdl CF hmem
    go_upto_region 5 with (fail)
    refine settle_wp ?_
    intro wA hbA
    have XA : Ext wr wA := Ext.trans (by repeat (first | with_reducible exact Ext.refl _ | with_reducible assumption | with_reducible refine Ext.alloc ?_ _ | with_reducible refine Ext.drew ?_ | with_reducible refine Ext.drewN ?_ _ | with_reducible refine Ext.setCell ?_ (by simp <;> omega) _ | with_reducible refine Ext.trans ?_ (by assumption))) hbA
    have qa_0 : wA.cell? ⟨wr.heap.size, 0, none⟩ = some (.int .i64 x.k) := hbA.cell (by simp [go_sem])
    have qa_1 : wA.cell? ⟨wr.heap.size, 1, none⟩ = some (.int .i64 x.t) := hbA.cell (by simp [go_sem])
    have qa_2 : wA.cell? ⟨wr.heap.size, 2, none⟩ = some (.int .i64 x.o) := hbA.cell (by simp [go_sem])
    have qa_3 : wA.cell? ⟨wr.heap.size, 3, none⟩ = some (.int .i64 x.n) := hbA.cell (by simp [go_sem])
    have qa_4 : wA.cell? ⟨wr.heap.size, 4, none⟩ = some (.int .u64 x.p) := hbA.cell (by simp [go_sem])
    have qa_5 : wA.cell? ⟨wr.heap.size, 5, none⟩ = some (.int .i64 x.c) := hbA.cell (by simp [go_sem])
    have qa_6 : wA.cell? ⟨wr.heap.size, 6, none⟩ = some (.slice ua ul uc) := hbA.cell (by simp [go_sem])
    have HXA := Lib.hid (HX.out.trans XA)
    have HRA := Lib.hid (HR.out.ext XA)
    have HDA := Lib.hid (HAD.out.ext XA)
    clear hbA XA c0 c1 c2 c3 c4 c5 c6 HR HX HAD
    have CA := HC.out (.slice ua ul uc) wA HXA.out
    unfold evA at CA
    have HCA := Lib.hid CA
    clear CA HC
    by_cases hp : p x = true
    case neg =>
      have hp' : p x = false := by simpa using hp
      rw [hp'] at HCA HSN
      have hsn : (L.take (k + 1)).filter p = (L.take k).filter p := by simpa using HSN.out
      have HSN2 := Lib.hid hsn
      clear hsn HSN hp hp'
      go_wp2_with fail
      refine HCA.out.mono ?_
      rintro e w2 ⟨rfl, X2⟩
      have HX2 := Lib.hid (HXA.out.trans X2)
      have HR2 := Lib.hid (HRA.out.ext X2)
      clear X2
      go_wp2
      exact ⟨⟨k + 1, by omega, by go_num, by rw [HSN2.out]; exact HR2.out, HX2.out⟩, by simp [intOf]; omega⟩
    rw [hp] at HCA HSN
    have hsn : (L.take (k + 1)).filter p = (L.take k).filter p ++ [x] := by simpa using HSN.out
    have HSN2 := Lib.hid hsn
    clear hsn HSN hp
    go_wp2_with fail
    refine HCA.out.mono ?_
    rintro e w2 ⟨rfl, X2⟩
    have HX2 := Lib.hid (HXA.out.trans X2)
    have HR2 := Lib.hid (HRA.out.ext X2)
    have HD2 := Lib.hid (HDA.out.ext X2)
    replace qa_0 := X2.cell qa_0
    replace qa_1 := X2.cell qa_1
    replace qa_2 := X2.cell qa_2
    replace qa_3 := X2.cell qa_3
    replace qa_4 := X2.cell qa_4
    replace qa_5 := X2.cell qa_5
    replace qa_6 := X2.cell qa_6
    have CW := eWith x (.slice ua ul uc) (.slice ua ul uc) x.d w2 HD2.out HDL.out
    unfold evA at CW
    have HCW := Lib.hid CW
    clear X2 HXA HRA HDA HCA CW
    have hfl := HFL.out k
    go_wp2_with fail
    refine HCW.out.mono ?_
    rintro e w3 ⟨u3, rfl, R3, X3⟩
    unfold evA
    have HX3 := Lib.hid (HX2.out.trans X3)
    have HR3 := Lib.hid (HR2.out.ext X3)
    have HD3 := Lib.hid (R3.dat (B' := w.heap.size))
    clear R3 X3 HX2 HR2 HD2 HCW qa_0 qa_1 qa_2 qa_3 qa_4 qa_5 qa_6
    have hB3 := HX3.out.size
    go_wp2_with (at_builtin; refine appE _ rfl _ _ rfl w.heap.size _ ((L.take k).filter p) rfl (HR3.out.ext ((Ext.refl w3).alloc _)) (by simp; omega) w3.heap.size x u3 rfl (at_new HD3.out) (by omega) ?_)
    intro v4 w4 R4 G4 _
    have HX4 := Lib.hid ((HX3.out.alloc _).grown G4 (fun q hq => (HR3.out.lt hq).1))
    have HR4 := Lib.hid R4
    clear R4 G4 hB3
    go_wp2
    exact ⟨⟨k + 1, by omega, by go_num, by rw [HSN2.out]; exact HR4.out, HX4.out⟩, by simp [intOf]; omega⟩
theorem ePick_eOf1 {B : Nat} (v : Value) (L : List Ev) (p : Ev → Bool) (caps : Array Value) (w : World) (h : EvsV w B v L) (hl : L.length ≤ 900000) (hd : ∀ e ∈ L, e.d.length ≤ 1000000)
    (hF : ∀ e ∈ L, ∀ u w', Ext w w' → Calls Try.prog 37 (#[evA e u] ++ caps) w' fun r w'' => r = .returned (.bool (p e)) ∧ Ext w' w'') : Calls Try.prog 36 #[v, .func (.func 37) #[] caps] w (GivesR w (L.filter p)) := by
  obtain ⟨a, cap, e, hm, f⟩ := h.get3
  subst e
  have HA := Lib.hid f
  have HD := Lib.hid hd
  have HF := Lib.hid hF
  have HG : Hid (∀ v w', RE w' w.heap.size v ((L.take L.length).filter p) → Ext w w' → GivesR w (L.filter p) (.returned v) w') := Lib.hid (fun v w' h1 h2 => ⟨v, rfl, by rwa [List.take_length] at h1, h2⟩)
  have HS := Lib.hid (fun k hk => filter_snoc p (l := L) (k := k) hk)
  have HFL := Lib.hid (filter_len p L)
  generalize GivesR w (L.filter p) = G at *
  clear h f hd hF
  go_enter Try.func36, Try.ntmps36
  go_wp2
  go_loopw [5, 10] (fun v i wr => ∃ k : Nat, k ≤ L.length ∧ i = .int .i64 k ∧ RE wr w.heap.size v ((L.take k).filter p) ∧ Ext w wr) (fun _ i _ => L.length - (intOf i).toNat)
  case atStart => exact ⟨0, Nat.zero_le _, rfl, by rw [List.take_zero]; exact RE.nil _ _, Ext.refl _⟩
  case round =>
    obtain ⟨k, hk, rfl, hR, hx⟩ := hrel
    by_cases hlt : k < L.length
    case neg =>
      obtain rfl : k = L.length := by omega
      have HG2 := Lib.hid (HG.out _ wr hR hx)
      clear hR hx
      go_wp2
      exact HG2.out
    have hlt' : (k : Int) < (L.length : Int) := by omega
    obtain ⟨b, off, u, ea, A⟩ := HA.out wr hx k hlt
    subst ea
    obtain ⟨ua, uc, eu⟩ := A.d.len
    have hmem := List.getElem_mem hlt
    have hdl := HD.out L[k] hmem
    have CF := fun u w' hx => HF.out L[k] hmem u w' hx
    have hs := HS.out k hlt
    generalize L[k] = x at *
    generalize hul : x.d.length = ul at eu
    subst eu
    have HUL := Lib.hid hul
    clear hul
    have HSN := Lib.hid hs
    have HR := Lib.hid hR
    have HX := Lib.hid hx
    have HAD := Lib.hid A.d
    have HDL := Lib.hid hdl
    have HC := Lib.hid CF
    obtain ⟨c0, c1, c2, c3, c4, c5, c6, -⟩ := A
    clear hR hx hs hdl CF hmem
    go_upto_region 5 with (fail)
    refine settle_wp ?_
    intro wA hbA
    have XA : Ext wr wA := Ext.trans (by repeat (first | with_reducible exact Ext.refl _ | with_reducible assumption | with_reducible refine Ext.alloc ?_ _ | with_reducible refine Ext.drew ?_ | with_reducible refine Ext.drewN ?_ _ | with_reducible refine Ext.setCell ?_ (by simp <;> omega) _ | with_reducible refine Ext.trans ?_ (by assumption))) hbA
    have qa_0 : wA.cell? ⟨wr.heap.size, 0, none⟩ = some (.int .i64 x.k) := hbA.cell (by simp [go_sem])
    have qa_1 : wA.cell? ⟨wr.heap.size, 1, none⟩ = some (.int .i64 x.t) := hbA.cell (by simp [go_sem])
    have qa_2 : wA.cell? ⟨wr.heap.size, 2, none⟩ = some (.int .i64 x.o) := hbA.cell (by simp [go_sem])
    have qa_3 : wA.cell? ⟨wr.heap.size, 3, none⟩ = some (.int .i64 x.n) := hbA.cell (by simp [go_sem])
    have qa_4 : wA.cell? ⟨wr.heap.size, 4, none⟩ = some (.int .u64 x.p) := hbA.cell (by simp [go_sem])
    have qa_5 : wA.cell? ⟨wr.heap.size, 5, none⟩ = some (.int .i64 x.c) := hbA.cell (by simp [go_sem])
    have qa_6 : wA.cell? ⟨wr.heap.size, 6, none⟩ = some (.slice ua ul uc) := hbA.cell (by simp [go_sem])
    have HXA := Lib.hid (HX.out.trans XA)
    have HRA := Lib.hid (HR.out.ext XA)
    have HDA := Lib.hid (HAD.out.ext XA)
    clear hbA XA c0 c1 c2 c3 c4 c5 c6 HR HX HAD
    have CA := HC.out (.slice ua ul uc) wA HXA.out
    unfold evA at CA
    have HCA := Lib.hid CA
    clear CA HC
    by_cases hp : p x = true
    case neg =>
      have hp' : p x = false := by simpa using hp
      rw [hp'] at HCA HSN
      have hsn : (L.take (k + 1)).filter p = (L.take k).filter p := by simpa using HSN.out
      have HSN2 := Lib.hid hsn
      clear hsn HSN hp hp'
      go_wp2_with fail
      refine HCA.out.mono ?_
      rintro e w2 ⟨rfl, X2⟩
      have HX2 := Lib.hid (HXA.out.trans X2)
      have HR2 := Lib.hid (HRA.out.ext X2)
      clear X2
      go_wp2
      exact ⟨⟨k + 1, by omega, by go_num, by rw [HSN2.out]; exact HR2.out, HX2.out⟩, by simp [intOf]; omega⟩
    rw [hp] at HCA HSN
    have hsn : (L.take (k + 1)).filter p = (L.take k).filter p ++ [x] := by simpa using HSN.out
    have HSN2 := Lib.hid hsn
    clear hsn HSN hp
    go_wp2_with fail
    refine HCA.out.mono ?_
    rintro e w2 ⟨rfl, X2⟩
    have HX2 := Lib.hid (HXA.out.trans X2)
    have HR2 := Lib.hid (HRA.out.ext X2)
    have HD2 := Lib.hid (HDA.out.ext X2)
    replace qa_0 := X2.cell qa_0
    replace qa_1 := X2.cell qa_1
    replace qa_2 := X2.cell qa_2
    replace qa_3 := X2.cell qa_3
    replace qa_4 := X2.cell qa_4
    replace qa_5 := X2.cell qa_5
    replace qa_6 := X2.cell qa_6
    have CW := eWith x (.slice ua ul uc) (.slice ua ul uc) x.d w2 HD2.out HDL.out
    unfold evA at CW
    have HCW := Lib.hid CW
    clear X2 HXA HRA HDA HCA CW
    have hfl := HFL.out k
    go_wp2_with fail
    refine HCW.out.mono ?_
    rintro e w3 ⟨u3, rfl, R3, X3⟩
    unfold evA
    have HX3 := Lib.hid (HX2.out.trans X3)
    have HR3 := Lib.hid (HR2.out.ext X3)
    have HD3 := Lib.hid (R3.dat (B' := w.heap.size))
    clear R3 X3 HX2 HR2 HD2 HCW qa_0 qa_1 qa_2 qa_3 qa_4 qa_5 qa_6
    have hB3 := HX3.out.size
    go_wp2_with (at_builtin; refine appE _ rfl _ _ rfl w.heap.size _ ((L.take k).filter p) rfl (HR3.out.ext ((Ext.refl w3).alloc _)) (by simp; omega) w3.heap.size x u3 rfl (at_new HD3.out) (by omega) ?_)
    intro v4 w4 R4 G4 _
    have HX4 := Lib.hid ((HX3.out.alloc _).grown G4 (fun q hq => (HR3.out.lt hq).1))
    have HR4 := Lib.hid R4
    clear R4 G4 hB3
    go_wp2
    exact ⟨⟨k + 1, by omega, by go_num, by rw [HSN2.out]; exact HR4.out, HX4.out⟩, by simp [intOf]; omega⟩
theorem ePick_eOnly1 {B : Nat} (v : Value) (L : List Ev) (p : Ev → Bool) (caps : Array Value) (w : World) (h : EvsV w B v L) (hl : L.length ≤ 900000) (hd : ∀ e ∈ L, e.d.length ≤ 1000000)
    (hF : ∀ e ∈ L, ∀ u w', Ext w w' → Calls Try.prog 38 (#[evA e u] ++ caps) w' fun r w'' => r = .returned (.bool (p e)) ∧ Ext w' w'') : Calls Try.prog 36 #[v, .func (.func 38) #[] caps] w (GivesR w (L.filter p)) := by
  obtain ⟨a, cap, e, hm, f⟩ := h.get3
  subst e
  have HA := Lib.hid f
  have HD := Lib.hid hd
  have HF := Lib.hid hF
  have HG : Hid (∀ v w', RE w' w.heap.size v ((L.take L.length).filter p) → Ext w w' → GivesR w (L.filter p) (.returned v) w') := Lib.hid (fun v w' h1 h2 => ⟨v, rfl, by rwa [List.take_length] at h1, h2⟩)
  have HS := Lib.hid (fun k hk => filter_snoc p (l := L) (k := k) hk)
  have HFL := Lib.hid (filter_len p L)
  generalize GivesR w (L.filter p) = G at *
  clear h f hd hF
  go_enter Try.func36, Try.ntmps36
  go_wp2
  go_loopw [5, 10] (fun v i wr => ∃ k : Nat, k ≤ L.length ∧ i = .int .i64 k ∧ RE wr w.heap.size v ((L.take k).filter p) ∧ Ext w wr) (fun _ i _ => L.length - (intOf i).toNat)
  case atStart => exact ⟨0, Nat.zero_le _, rfl, by rw [List.take_zero]; exact RE.nil _ _, Ext.refl _⟩
  case round =>
    obtain ⟨k, hk, rfl, hR, hx⟩ := hrel
    by_cases hlt : k < L.length
    case neg =>
      obtain rfl : k = L.length := by omega
      have HG2 := Lib.hid (HG.out _ wr hR hx)
      clear hR hx
      go_wp2
      exact HG2.out
    have hlt' : (k : Int) < (L.length : Int) := by omega
    obtain ⟨b, off, u, ea, A⟩ := HA.out wr hx k hlt
    subst ea
    obtain ⟨ua, uc, eu⟩ := A.d.len
    have hmem := List.getElem_mem hlt
    have hdl := HD.out L[k] hmem
    have CF := fun u w' hx => HF.out L[k] hmem u w' hx
    have hs := HS.out k hlt
    generalize L[k] = x at *
    generalize hul : x.d.length = ul at eu
    subst eu
    have HUL := Lib.hid hul
    clear hul
    have HSN := Lib.hid hs
    have HR := Lib.hid hR
    have HX := Lib.hid hx
    have HAD := Lib.hid A.d
    have HDL := Lib.hid hdl
    have HC := Lib.hid CF
    obtain ⟨c0, c1, c2, c3, c4, c5, c6, -⟩ := A
    clear hR hx hs hdl CF hmem
    go_upto_region 5 with (fail)
    refine settle_wp ?_
    intro wA hbA
    have XA : Ext wr wA := Ext.trans (by repeat (first | with_reducible exact Ext.refl _ | with_reducible assumption | with_reducible refine Ext.alloc ?_ _ | with_reducible refine Ext.drew ?_ | with_reducible refine Ext.drewN ?_ _ | with_reducible refine Ext.setCell ?_ (by simp <;> omega) _ | with_reducible refine Ext.trans ?_ (by assumption))) hbA
    have qa_0 : wA.cell? ⟨wr.heap.size, 0, none⟩ = some (.int .i64 x.k) := hbA.cell (by simp [go_sem])
    have qa_1 : wA.cell? ⟨wr.heap.size, 1, none⟩ = some (.int .i64 x.t) := hbA.cell (by simp [go_sem])
    have qa_2 : wA.cell? ⟨wr.heap.size, 2, none⟩ = some (.int .i64 x.o) := hbA.cell (by simp [go_sem])
    have qa_3 : wA.cell? ⟨wr.heap.size, 3, none⟩ = some (.int .i64 x.n) := hbA.cell (by simp [go_sem])
    have qa_4 : wA.cell? ⟨wr.heap.size, 4, none⟩ = some (.int .u64 x.p) := hbA.cell (by simp [go_sem])
    have qa_5 : wA.cell? ⟨wr.heap.size, 5, none⟩ = some (.int .i64 x.c) := hbA.cell (by simp [go_sem])
    have qa_6 : wA.cell? ⟨wr.heap.size, 6, none⟩ = some (.slice ua ul uc) := hbA.cell (by simp [go_sem])
    have HXA := Lib.hid (HX.out.trans XA)
    have HRA := Lib.hid (HR.out.ext XA)
    have HDA := Lib.hid (HAD.out.ext XA)
    clear hbA XA c0 c1 c2 c3 c4 c5 c6 HR HX HAD
    have CA := HC.out (.slice ua ul uc) wA HXA.out
    unfold evA at CA
    have HCA := Lib.hid CA
    clear CA HC
    by_cases hp : p x = true
    case neg =>
      have hp' : p x = false := by simpa using hp
      rw [hp'] at HCA HSN
      have hsn : (L.take (k + 1)).filter p = (L.take k).filter p := by simpa using HSN.out
      have HSN2 := Lib.hid hsn
      clear hsn HSN hp hp'
      go_wp2_with fail
      refine HCA.out.mono ?_
      rintro e w2 ⟨rfl, X2⟩
      have HX2 := Lib.hid (HXA.out.trans X2)
      have HR2 := Lib.hid (HRA.out.ext X2)
      clear X2
      go_wp2
      exact ⟨⟨k + 1, by omega, by go_num, by rw [HSN2.out]; exact HR2.out, HX2.out⟩, by simp [intOf]; omega⟩
    rw [hp] at HCA HSN
    have hsn : (L.take (k + 1)).filter p = (L.take k).filter p ++ [x] := by simpa using HSN.out
    have HSN2 := Lib.hid hsn
    clear hsn HSN hp
    go_wp2_with fail
    refine HCA.out.mono ?_
    rintro e w2 ⟨rfl, X2⟩
    have HX2 := Lib.hid (HXA.out.trans X2)
    have HR2 := Lib.hid (HRA.out.ext X2)
    have HD2 := Lib.hid (HDA.out.ext X2)
    replace qa_0 := X2.cell qa_0
    replace qa_1 := X2.cell qa_1
    replace qa_2 := X2.cell qa_2
    replace qa_3 := X2.cell qa_3
    replace qa_4 := X2.cell qa_4
    replace qa_5 := X2.cell qa_5
    replace qa_6 := X2.cell qa_6
    have CW := eWith x (.slice ua ul uc) (.slice ua ul uc) x.d w2 HD2.out HDL.out
    unfold evA at CW
    have HCW := Lib.hid CW
    clear X2 HXA HRA HDA HCA CW
    have hfl := HFL.out k
    go_wp2_with fail
    refine HCW.out.mono ?_
    rintro e w3 ⟨u3, rfl, R3, X3⟩
    unfold evA
    have HX3 := Lib.hid (HX2.out.trans X3)
    have HR3 := Lib.hid (HR2.out.ext X3)
    have HD3 := Lib.hid (R3.dat (B' := w.heap.size))
    clear R3 X3 HX2 HR2 HD2 HCW qa_0 qa_1 qa_2 qa_3 qa_4 qa_5 qa_6
    have hB3 := HX3.out.size
    go_wp2_with (at_builtin; refine appE _ rfl _ _ rfl w.heap.size _ ((L.take k).filter p) rfl (HR3.out.ext ((Ext.refl w3).alloc _)) (by simp; omega) w3.heap.size x u3 rfl (at_new HD3.out) (by omega) ?_)
    intro v4 w4 R4 G4 _
    have HX4 := Lib.hid ((HX3.out.alloc _).grown G4 (fun q hq => (HR3.out.lt hq).1))
    have HR4 := Lib.hid R4
    clear R4 G4 hB3
    go_wp2
    exact ⟨⟨k + 1, by omega, by go_num, by rw [HSN2.out]; exact HR4.out, HX4.out⟩, by simp [intOf]; omega⟩
end Go.Proofs.Ytkbbneknblnbnaa

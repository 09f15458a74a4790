/- event.Copy, placed, Shift; writes to rows of events. -/
import Derived.Test.YtkbbneknblnbnaaEv6
namespace Go.Proofs.Ytkbbneknblnbnaa
open Go.RowKit
set_option linter.unusedVariables false
set_option linter.unusedSimpArgs false
set_option maxHeartbeats 4000000
attribute [local go_sem] later_cell later_frozen later_const
theorem rowE_set : ∀ (l : List (Ev × Value)) (k j : Nat) (x' : Ev) (u' q : Value) (hk : k < l.length), j < 7 → (evV l[k].1 l[k].2).set j q = evV x' u' → (rowE l).set (k * 7 + j) q = rowE (l.set k (x', u'))
  | [], k, j, x', u', q, hk, _, _ => by simp at hk
  | p :: l, 0, j, x', u', q, hk, hj, h => by
    show (evV p.1 p.2 ++ rowE l).set (0 * 7 + j) q = evV x' u' ++ rowE l
    rw [List.set_append_left _ _ (by simp [evV]; omega)]
    rw [show (evV p.1 p.2).set (0 * 7 + j) q = evV x' u' by rw [Nat.zero_mul, Nat.zero_add]; exact h]
  | p :: l, k + 1, j, x', u', q, hk, hj, h => by
    show (evV p.1 p.2 ++ rowE l).set ((k + 1) * 7 + j) q = evV p.1 p.2 ++ rowE (l.set k (x', u'))
    rw [List.set_append_right _ _ (by simp [evV]; omega)]
    rw [show (k + 1) * 7 + j - (evV p.1 p.2).length = k * 7 + j by simp [evV]; omega]
    rw [rowE_set l k j x' u' q (by simpa using hk) hj (by simpa using h)]
/-- the k-th of one's own: where it lies, and what comes of a write to it -/
theorem RE.nth {w : World} {B : Nat} {v : Value} {L : List Ev} (h : RE w B v L) {k : Nat} (hk : k < L.length) : ∃ g cap u, v = .slice (some ⟨g, 0, none⟩) L.length cap ∧ AtE w B g (k * 7) u L[k] ∧ (∀ j, w.frozen? ⟨g, j, none⟩ = false) ∧ B ≤ g ∧ TagE w g 31 ∧
    (∀ j q x' u', j < 7 → (evV L[k] u).set j q = evV x' u' → Dat w B u' x'.d → RE (w.setCell ⟨g, k * 7 + j, none⟩ q) B v (L.set k x')) := by
  obtain ⟨l, e, hr, hd⟩ := h
  have hll : l.length = L.length := by rw [← e, List.length_map]
  have hkl : k < l.length := by omega
  have hLk : L[k] = l[k].1 := by subst e; simp
  rcases hr.2 with ⟨_, h0⟩ | ⟨g, cap, cur, ev, hB, hg, hn, hm, hs, ht⟩
  · omega
  have tg : TagE w g 31 := ⟨_, hg⟩
  have cells : ∀ j q, (evV l[k].1 l[k].2)[j]? = some q → w.cell? ⟨g, k * 7 + j, none⟩ = some q := fun j q hq => by
    have hj : j < 7 := (List.getElem?_eq_some_iff.1 hq).1
    rw [ev] at hr
    rw [hr.cellAt (k * 7 + j) (by omega), rowE_at l k j hkl hj]
    exact hq
  refine ⟨g, cap, l[k].2, by rw [ev, hll], ?_, fun j => (by rw [ev] at hr; exact hr.frozenAt j), hB, tg, fun j q x' u' hj hset hdu => ?_⟩
  · rw [hLk]
    exact ⟨cells 0 _ rfl, cells 1 _ rfl, cells 2 _ rfl, cells 3 _ rfl, cells 4 _ rfl, cells 5 _ rfl, cells 6 _ rfl, hd _ (List.getElem_mem hkl)⟩
  · have hb := but_setCell w ⟨g, k * 7 + j, none⟩ q
    have hS : ∀ q, q = g → q < w.heap.size → B ≤ q ∧ TagE w q 31 := fun q hq _ => by subst hq; exact ⟨hB, tg⟩
    refine ⟨l.set k (x', u'), ?_, ?_, ?_⟩
    · rw [List.map_set, e]
    · rw [ev] at hr ⊢
      have := (hr.stored (k * 7 + j) q).1
      rw [rowE_set l k j x' u' q hkl hj (by rw [← hLk]; exact hset)] at this
      rw [List.length_set]
      exact this
    · intro p hp
      rcases List.mem_or_eq_of_mem_set hp with hp | rfl
      · exact (hd p hp).but hb hS
      · exact hdu.but hb hS
theorem eCopy1 (e : Ev) (u : Value) (w : World) : Calls Try.prog 40 (#[evA e u] ++ #[]) w fun r w' => r = .returned (.bool true) ∧ Ext w w' := by
  show Calls Try.prog 40 #[evA e u] w _
  unfold evA
  go_enter Try.func40, Try.ntmps40
  go_wp2
  go_ret
  refine ⟨rfl, ?_⟩
  repeat (first | with_reducible exact Ext.refl _ | with_reducible assumption | with_reducible refine Ext.alloc ?_ _ | with_reducible refine Ext.drew ?_ | with_reducible refine Ext.drewN ?_ _ | with_reducible refine Ext.setCell ?_ (by simp <;> omega) _ | with_reducible refine Ext.trans ?_ (by assumption))
theorem eCopy {B : Nat} (v : Value) (L : List Ev) (w : World) (h : EvsV w B v L) (hl : L.length ≤ 900000) (hd : ∀ e ∈ L, e.d.length ≤ 1000000) : Calls Try.prog 21 #[v] w (GivesR w L) := by
  have C := ePick_eCopy1 v L (fun _ => true) #[] w h hl hd (fun e _ u w' _ => eCopy1 e u w')
  rw [show L.filter (fun _ => true) = L by simp] at C
  have HC := Lib.hid C
  clear C h hd
  have HG : Hid (∀ v w', RE w' w.heap.size v L → Ext w w' → GivesR w L (.returned v) w') := Lib.hid (fun v w' h1 h2 => ⟨v, rfl, h1, h2⟩)
  go_enter Try.func21, Try.ntmps21
  go_wp2_with fail
  refine HC.out.mono ?_
  rintro e w2 ⟨v2, rfl, R2, X2⟩
  have HG2 := Lib.hid (HG.out _ _ R2 X2)
  generalize GivesR w L = G at *
  clear R2 X2
  go_wp2
  exact HG2.out
/-- is the event's Pos a position? -/
def plcd (e : Ev) : Bool := decide (e.k = 3) || (decide (5 ≤ e.k) && decide (e.k ≤ 7)) || (decide (e.k = 2) && (decide (e.o = 1) && decide (e.c = 0))) || (decide (e.k = 2) && (decide (e.o = 6) && decide (0 < e.n)))
theorem placed (e : Ev) (u : Value) (w : World) : Calls Try.prog 45 #[evA e u] w fun r w' => r = .returned (.bool (plcd e)) ∧ Ext w w' := by
  obtain ⟨k, t, o, n, p, c, d⟩ := e
  unfold evA
  have hp : plcd ⟨k, t, o, n, p, c, d⟩ = (decide (k = 3) || (decide (5 ≤ k) && decide (k ≤ 7)) || (decide (k = 2) && (decide (o = 1) && decide (c = 0))) || (decide (k = 2) && (decide (o = 6) && decide (0 < n)))) := rfl
  rw [hp]
  clear hp
  dsimp only
  by_cases h : k = 3 ∨ k = 5 ∨ k = 6 ∨ k = 7
  · rcases h with rfl | rfl | rfl | rfl
    all_goals
      simp
      go_enter Try.func45, Try.ntmps45
      go_wp2
      go_ret
      refine ⟨rfl, ?_⟩
      repeat (first | with_reducible exact Ext.refl _ | with_reducible assumption | with_reducible refine Ext.alloc ?_ _ | with_reducible refine Ext.drew ?_ | with_reducible refine Ext.drewN ?_ _ | with_reducible refine Ext.setCell ?_ (by simp <;> omega) _ | with_reducible refine Ext.trans ?_ (by assumption))
  have e3 : (k == 3) = false := by simp; omega
  have e5 : (k == 5) = false := by simp; omega
  have e6 : (k == 6) = false := by simp; omega
  have e7 : (k == 7) = false := by simp; omega
  by_cases h2 : k = 2
  case neg =>
    have e2 : (k == 2) = false := by simpa using h2
    rw [show (decide (k = 3) || (decide (5 ≤ k) && decide (k ≤ 7)) || (decide (k = 2) && (decide (o = 1) && decide (c = 0))) || (decide (k = 2) && (decide (o = 6) && decide (0 < n)))) = false by simp; omega]
    go_enter Try.func45, Try.ntmps45
    go_wp2
    go_ret
    refine ⟨rfl, ?_⟩
    repeat (first | with_reducible exact Ext.refl _ | with_reducible assumption | with_reducible refine Ext.alloc ?_ _ | with_reducible refine Ext.drew ?_ | with_reducible refine Ext.drewN ?_ _ | with_reducible refine Ext.setCell ?_ (by simp <;> omega) _ | with_reducible refine Ext.trans ?_ (by assumption))
  subst h2
  by_cases h1 : o = 1
  · subst h1
    by_cases hc : c = 0
    · subst hc
      simp
      go_enter Try.func45, Try.ntmps45
      go_wp2
      go_ret
      refine ⟨rfl, ?_⟩
      repeat (first | with_reducible exact Ext.refl _ | with_reducible assumption | with_reducible refine Ext.alloc ?_ _ | with_reducible refine Ext.drew ?_ | with_reducible refine Ext.drewN ?_ _ | with_reducible refine Ext.setCell ?_ (by simp <;> omega) _ | with_reducible refine Ext.trans ?_ (by assumption))
    · have ec : (c == 0) = false := by simpa using hc
      rw [show (decide ((2 : Int) = 3) || (decide ((5 : Int) ≤ 2) && decide ((2 : Int) ≤ 7)) || (decide ((2 : Int) = 2) && (decide ((1 : Int) = 1) && decide (c = 0))) || (decide ((2 : Int) = 2) && (decide ((1 : Int) = 6) && decide (0 < n)))) = false by simp [hc]]
      go_enter Try.func45, Try.ntmps45
      go_wp2
      go_ret
      refine ⟨rfl, ?_⟩
      repeat (first | with_reducible exact Ext.refl _ | with_reducible assumption | with_reducible refine Ext.alloc ?_ _ | with_reducible refine Ext.drew ?_ | with_reducible refine Ext.drewN ?_ _ | with_reducible refine Ext.setCell ?_ (by simp <;> omega) _ | with_reducible refine Ext.trans ?_ (by assumption))
  have o1 : (o == 1) = false := by simpa using h1
  by_cases h6 : o = 6
  · subst h6
    rw [show (decide ((2 : Int) = 3) || (decide ((5 : Int) ≤ 2) && decide ((2 : Int) ≤ 7)) || (decide ((2 : Int) = 2) && (decide ((6 : Int) = 1) && decide (c = 0))) || (decide ((2 : Int) = 2) && (decide ((6 : Int) = 6) && decide (0 < n)))) = decide (0 < n) by simp]
    go_enter Try.func45, Try.ntmps45
    go_wp2
    go_ret
    refine ⟨rfl, ?_⟩
    repeat (first | with_reducible exact Ext.refl _ | with_reducible assumption | with_reducible refine Ext.alloc ?_ _ | with_reducible refine Ext.drew ?_ | with_reducible refine Ext.drewN ?_ _ | with_reducible refine Ext.setCell ?_ (by simp <;> omega) _ | with_reducible refine Ext.trans ?_ (by assumption))
  have o6 : (o == 6) = false := by simpa using h6
  rw [show (decide ((2 : Int) = 3) || (decide ((5 : Int) ≤ 2) && decide ((2 : Int) ≤ 7)) || (decide ((2 : Int) = 2) && (decide (o = 1) && decide (c = 0))) || (decide ((2 : Int) = 2) && (decide (o = 6) && decide (0 < n)))) = false by simp [h1, h6]]
  go_enter Try.func45, Try.ntmps45
  go_wp2
  go_ret
  refine ⟨rfl, ?_⟩
  repeat (first | with_reducible exact Ext.refl _ | with_reducible assumption | with_reducible refine Ext.alloc ?_ _ | with_reducible refine Ext.drew ?_ | with_reducible refine Ext.drewN ?_ _ | with_reducible refine Ext.setCell ?_ (by simp <;> omega) _ | with_reducible refine Ext.trans ?_ (by assumption))
def gapU (W p f : Int) : Int := if W = 32 then U64 (D32 (p - f)) else U64 (D64 (p - f))
def sh (W f : Int) (e : Ev) : Ev := if plcd e = true then { e with p := gapU W e.p f } else e
theorem eShift_no (W f : Int) (v : Value) (w : World) (h1 : (W == 32) = false) (h2 : (W == 64) = false) : Calls Try.prog 24 #[.int .i64 W, .int .u64 f, v] w fun e w' => e = .returned (.slice none 0 0) ∧ w = w' := by
  go_enter Try.func24, Try.ntmps24
  go_wp2_with fail
  refine (wRight_no _ _ h1 h2).mono ?_
  rintro e w' ⟨rfl, rfl⟩
  go_wp2
  go_ret
  exact ⟨rfl, rfl⟩
/-- the first k are shifted -/
def shK (W f : Int) (L : List Ev) (k : Nat) : List Ev := (L.take k).map (sh W f) ++ L.drop k
theorem shK_len (W f : Int) (L : List Ev) (k : Nat) (hk : k ≤ L.length) : (shK W f L k).length = L.length := by simp [shK]; omega
theorem shK_at (W f : Int) (L : List Ev) (k : Nat) (hk : k < L.length) : (shK W f L k)[k]'(by rw [shK_len _ _ _ _ (by omega)]; exact hk) = L[k] := by
  simp only [shK]
  rw [List.getElem_append_right (by simp; omega)]
  simp [Nat.min_eq_left (Nat.le_of_lt hk)]
theorem shK_step (W f : Int) (L : List Ev) (k : Nat) (hk : k < L.length) : shK W f L (k + 1) = (shK W f L k).set k (sh W f L[k]) := by
  unfold shK
  rw [List.take_succ_eq_append_getElem hk, List.map_append, List.set_append_right _ _ (by simp; omega)]
  rw [show k - ((L.take k).map (sh W f)).length = 0 by simp; omega, List.drop_eq_getElem_cons hk]
  rw [List.set_cons_zero]
  simp
theorem shK_same (W f : Int) (L : List Ev) (k : Nat) (hk : k < L.length) (h : ¬ plcd L[k] = true) : shK W f L (k + 1) = shK W f L k := by
  rw [shK_step W f L k hk, show sh W f L[k] = L[k] by unfold sh; rw [if_neg h]]
  rw [← shK_at W f L k hk, List.set_getElem_self]
set_option maxRecDepth 100000 in
theorem eShift32 {B : Nat} (f : Int) (v : Value) (L : List Ev) (w : World) (h : EvsV w B v L) (hl : L.length ≤ 900000) (hd : ∀ e ∈ L, e.d.length ≤ 1000000) : Calls Try.prog 24 #[.int .i64 32, .int .u64 f, v] w (GivesR w (L.map (sh 32 f))) := by
  have CC := Lib.hid (eCopy v L w h hl hd)
  have HG : Hid (∀ v w', RE w' w.heap.size v (shK 32 f L L.length) → Ext w w' → GivesR w (L.map (sh 32 f)) (.returned v) w') := Lib.hid (fun v w' h1 h2 => ⟨v, rfl, by simpa [shK] using h1, h2⟩)
  have HAT := Lib.hid (shK_at 32 f L)
  have HST := Lib.hid (shK_step 32 f L)
  have HSM := Lib.hid (shK_same 32 f L)
  have HLN := Lib.hid (shK_len 32 f L)
  have H0 : Hid (shK 32 f L 0 = L) := Lib.hid (by simp [shK])
  generalize GivesR w (L.map (sh 32 f)) = G at *
  clear h hd
  go_enter Try.func24, Try.ntmps24
  go_wp2_with fail
  refine (wRight_yes _ _ (by decide)).mono ?_
  rintro e w' ⟨rfl, rfl⟩
  go_wp2_with fail
  refine CC.out.mono ?_
  rintro e w2 ⟨v2, rfl, R2, X2⟩
  obtain ⟨av, cv, ev⟩ := R2.len
  subst ev
  have HR2 := Lib.hid R2
  have HX2 := Lib.hid X2
  clear R2 X2 CC
  go_wp2
  go_loopw [17] (fun i wr => ∃ k : Nat, k ≤ L.length ∧ i = .int .i64 k ∧ RE wr w.heap.size (.slice av L.length cv) (shK 32 f L k) ∧ Ext w wr) (fun i _ => L.length - (intOf i).toNat)
  case atStart => exact ⟨0, Nat.zero_le _, rfl, by rw [H0.out]; exact HR2.out, HX2.out⟩
  case round =>
    obtain ⟨k, hk, rfl, hR, hx⟩ := hrel
    clear HR2 HX2
    by_cases hlt : k < L.length
    case neg =>
      obtain rfl : k = L.length := by omega
      have HG2 := Lib.hid (HG.out _ wr hR hx)
      clear hR hx
      go_wp2
      exact HG2.out
    have hlt' : (k : Int) < (L.length : Int) := by omega
    have hkk : k < (shK 32 f L k).length := by rw [HLN.out k hk]; exact hlt
    obtain ⟨g, cap, u, ev, A, zf, hBg, tg, put⟩ := hR.nth hkk
    rw [HAT.out k hlt] at A put
    rw [HLN.out k hk] at ev
    cases ev
    obtain ⟨ua, uc, eu⟩ := A.d.len
    have hst := HST.out k hlt
    have hsm := HSM.out k hlt
    have HPD := Lib.hid A.d
    have hax := HAT.out k hlt
    generalize hxk : L[k] = x at *
    have HAX := Lib.hid hax
    generalize hul : x.d.length = ul at eu
    subst eu
    have HR := Lib.hid hR
    have HX := Lib.hid hx
    have HPUT := Lib.hid put
    have HST1 := Lib.hid hst
    have HSM1 := Lib.hid hsm
    have HBG := Lib.hid hBg
    have zg := zf (k * 7 + 4)
    obtain ⟨c0, c1, c2, c3, c4, c5, c6, -⟩ := A
    clear hR hx put hst hsm hBg zf hxk hul hax
    go_upto_region 7 with (fail)
    refine settle_wp ?_
    intro wA hbA
    have XA : Ext wr wA := Ext.trans (by repeat (first | with_reducible exact Ext.refl _ | with_reducible assumption | with_reducible refine Ext.alloc ?_ _ | with_reducible refine Ext.drew ?_ | with_reducible refine Ext.drewN ?_ _ | with_reducible refine Ext.setCell ?_ (by simp <;> omega) _ | with_reducible refine Ext.trans ?_ (by assumption))) hbA
    have qa_0 : wA.cell? ⟨wr.heap.size, 0, none⟩ = some (.int .i64 x.k) := hbA.cell (by simp [go_sem])
    have qa_1 : wA.cell? ⟨wr.heap.size, 1, none⟩ = some (.int .i64 x.t) := hbA.cell (by simp [go_sem])
    have qa_2 : wA.cell? ⟨wr.heap.size, 2, none⟩ = some (.int .i64 x.o) := hbA.cell (by simp [go_sem])
    have qa_3 : wA.cell? ⟨wr.heap.size, 3, none⟩ = some (.int .i64 x.n) := hbA.cell (by simp [go_sem])
    have qa_4 : wA.cell? ⟨wr.heap.size, 4, none⟩ = some (.int .u64 x.p) := hbA.cell (by simp [go_sem])
    have qa_5 : wA.cell? ⟨wr.heap.size, 5, none⟩ = some (.int .i64 x.c) := hbA.cell (by simp [go_sem])
    have qa_6 : wA.cell? ⟨wr.heap.size, 6, none⟩ = some (.slice ua ul uc) := hbA.cell (by simp [go_sem])
    replace zg := XA.frozen c4 zg
    replace c4 := XA.cell c4
    have HXA := Lib.hid (HX.out.trans XA)
    have HRA := Lib.hid (HR.out.ext XA)
    clear hbA XA c0 c1 c2 c3 c5 c6 HPUT HPD tg
    have CP := Lib.hid (fun w' => placed x (.slice ua ul uc) w')
    unfold evA at CP
    by_cases hp : plcd x = true
    case neg =>
      have hp' : plcd x = false := by simpa using hp
      rw [hp'] at CP
      have HE := Lib.hid (HSM1.out hp)
      clear hp hp'
      go_wp2_with fail
      refine (CP.out _).mono ?_
      rintro e w3 ⟨rfl, X3⟩
      have HX3 := Lib.hid (HXA.out.trans X3)
      have HR3 := Lib.hid (HRA.out.ext X3)
      clear X3
      go_wp2
      exact ⟨⟨k + 1, by omega, by go_num, by rw [HE.out]; exact HR3.out, HX3.out⟩, by simp [intOf]; omega⟩
    have hsh : sh 32 f x = { x with p := gapU 32 x.p f } := by unfold sh; rw [if_pos hp]
    rw [hsh] at HST1
    rw [hp] at CP
    have CG := Lib.hid (fun w => wGap_32 x.p f w)
    clear hp hsh
    go_wp2_with fail
    refine (CP.out _).mono ?_
    rintro e w3 ⟨rfl, X3⟩
    replace zg := X3.frozen c4 zg
    replace c4 := X3.cell c4
    replace qa_4 := X3.cell qa_4
    have HX3 := Lib.hid (HXA.out.trans X3)
    have HR3 := Lib.hid (HRA.out.ext X3)
    clear X3 qa_0 qa_1 qa_2 qa_3 qa_5 qa_6
    go_wp2_with fail
    refine (CG.out _).mono ?_
    rintro e w' ⟨rfl, rfl⟩
    have hkk2 : k < (shK 32 f L k).length := hkk
    obtain ⟨g2, cap2, u2, ev2, A2, _, _, _, put2⟩ := HR3.out.nth hkk2
    have ev3 := ev2
    rw [HLN.out k hk] at ev3
    cases ev3
    rw [HAX.out] at put2 A2
    have HP2 := Lib.hid (fun q => put2 4 (.int .u64 q) { x with p := q } u2 (by decide) rfl A2.d)
    have HX4 := Lib.hid (fun q => HX3.out.setCell (p := ⟨g, k * 7 + 4, none⟩) HBG.out (.int .u64 q))
    clear put2 A2 ev2
    go_wp2
    rw [wrapU64]
    exact ⟨⟨k + 1, by omega, by go_num, by rw [HST1.out]; exact HP2.out _, HX4.out _⟩, by simp [intOf]; omega⟩
set_option maxRecDepth 100000 in
theorem eShift64 {B : Nat} (f : Int) (v : Value) (L : List Ev) (w : World) (h : EvsV w B v L) (hl : L.length ≤ 900000) (hd : ∀ e ∈ L, e.d.length ≤ 1000000) : Calls Try.prog 24 #[.int .i64 64, .int .u64 f, v] w (GivesR w (L.map (sh 64 f))) := by
  have CC := Lib.hid (eCopy v L w h hl hd)
  have HG : Hid (∀ v w', RE w' w.heap.size v (shK 64 f L L.length) → Ext w w' → GivesR w (L.map (sh 64 f)) (.returned v) w') := Lib.hid (fun v w' h1 h2 => ⟨v, rfl, by simpa [shK] using h1, h2⟩)
  have HAT := Lib.hid (shK_at 64 f L)
  have HST := Lib.hid (shK_step 64 f L)
  have HSM := Lib.hid (shK_same 64 f L)
  have HLN := Lib.hid (shK_len 64 f L)
  have H0 : Hid (shK 64 f L 0 = L) := Lib.hid (by simp [shK])
  generalize GivesR w (L.map (sh 64 f)) = G at *
  clear h hd
  go_enter Try.func24, Try.ntmps24
  go_wp2_with fail
  refine (wRight_yes _ _ (by decide)).mono ?_
  rintro e w' ⟨rfl, rfl⟩
  go_wp2_with fail
  refine CC.out.mono ?_
  rintro e w2 ⟨v2, rfl, R2, X2⟩
  obtain ⟨av, cv, ev⟩ := R2.len
  subst ev
  have HR2 := Lib.hid R2
  have HX2 := Lib.hid X2
  clear R2 X2 CC
  go_wp2
  go_loopw [17] (fun i wr => ∃ k : Nat, k ≤ L.length ∧ i = .int .i64 k ∧ RE wr w.heap.size (.slice av L.length cv) (shK 64 f L k) ∧ Ext w wr) (fun i _ => L.length - (intOf i).toNat)
  case atStart => exact ⟨0, Nat.zero_le _, rfl, by rw [H0.out]; exact HR2.out, HX2.out⟩
  case round =>
    obtain ⟨k, hk, rfl, hR, hx⟩ := hrel
    clear HR2 HX2
    by_cases hlt : k < L.length
    case neg =>
      obtain rfl : k = L.length := by omega
      have HG2 := Lib.hid (HG.out _ wr hR hx)
      clear hR hx
      go_wp2
      exact HG2.out
    have hlt' : (k : Int) < (L.length : Int) := by omega
    have hkk : k < (shK 64 f L k).length := by rw [HLN.out k hk]; exact hlt
    obtain ⟨g, cap, u, ev, A, zf, hBg, tg, put⟩ := hR.nth hkk
    rw [HAT.out k hlt] at A put
    rw [HLN.out k hk] at ev
    cases ev
    obtain ⟨ua, uc, eu⟩ := A.d.len
    have hst := HST.out k hlt
    have hsm := HSM.out k hlt
    have HPD := Lib.hid A.d
    have hax := HAT.out k hlt
    generalize hxk : L[k] = x at *
    have HAX := Lib.hid hax
    generalize hul : x.d.length = ul at eu
    subst eu
    have HR := Lib.hid hR
    have HX := Lib.hid hx
    have HPUT := Lib.hid put
    have HST1 := Lib.hid hst
    have HSM1 := Lib.hid hsm
    have HBG := Lib.hid hBg
    have zg := zf (k * 7 + 4)
    obtain ⟨c0, c1, c2, c3, c4, c5, c6, -⟩ := A
    clear hR hx put hst hsm hBg zf hxk hul hax
    go_upto_region 7 with (fail)
    refine settle_wp ?_
    intro wA hbA
    have XA : Ext wr wA := Ext.trans (by repeat (first | with_reducible exact Ext.refl _ | with_reducible assumption | with_reducible refine Ext.alloc ?_ _ | with_reducible refine Ext.drew ?_ | with_reducible refine Ext.drewN ?_ _ | with_reducible refine Ext.setCell ?_ (by simp <;> omega) _ | with_reducible refine Ext.trans ?_ (by assumption))) hbA
    have qa_0 : wA.cell? ⟨wr.heap.size, 0, none⟩ = some (.int .i64 x.k) := hbA.cell (by simp [go_sem])
    have qa_1 : wA.cell? ⟨wr.heap.size, 1, none⟩ = some (.int .i64 x.t) := hbA.cell (by simp [go_sem])
    have qa_2 : wA.cell? ⟨wr.heap.size, 2, none⟩ = some (.int .i64 x.o) := hbA.cell (by simp [go_sem])
    have qa_3 : wA.cell? ⟨wr.heap.size, 3, none⟩ = some (.int .i64 x.n) := hbA.cell (by simp [go_sem])
    have qa_4 : wA.cell? ⟨wr.heap.size, 4, none⟩ = some (.int .u64 x.p) := hbA.cell (by simp [go_sem])
    have qa_5 : wA.cell? ⟨wr.heap.size, 5, none⟩ = some (.int .i64 x.c) := hbA.cell (by simp [go_sem])
    have qa_6 : wA.cell? ⟨wr.heap.size, 6, none⟩ = some (.slice ua ul uc) := hbA.cell (by simp [go_sem])
    replace zg := XA.frozen c4 zg
    replace c4 := XA.cell c4
    have HXA := Lib.hid (HX.out.trans XA)
    have HRA := Lib.hid (HR.out.ext XA)
    clear hbA XA c0 c1 c2 c3 c5 c6 HPUT HPD tg
    have CP := Lib.hid (fun w' => placed x (.slice ua ul uc) w')
    unfold evA at CP
    by_cases hp : plcd x = true
    case neg =>
      have hp' : plcd x = false := by simpa using hp
      rw [hp'] at CP
      have HE := Lib.hid (HSM1.out hp)
      clear hp hp'
      go_wp2_with fail
      refine (CP.out _).mono ?_
      rintro e w3 ⟨rfl, X3⟩
      have HX3 := Lib.hid (HXA.out.trans X3)
      have HR3 := Lib.hid (HRA.out.ext X3)
      clear X3
      go_wp2
      exact ⟨⟨k + 1, by omega, by go_num, by rw [HE.out]; exact HR3.out, HX3.out⟩, by simp [intOf]; omega⟩
    have hsh : sh 64 f x = { x with p := gapU 64 x.p f } := by unfold sh; rw [if_pos hp]
    rw [hsh] at HST1
    rw [hp] at CP
    have CG := Lib.hid (fun w => wGap_64 x.p f w)
    clear hp hsh
    go_wp2_with fail
    refine (CP.out _).mono ?_
    rintro e w3 ⟨rfl, X3⟩
    replace zg := X3.frozen c4 zg
    replace c4 := X3.cell c4
    replace qa_4 := X3.cell qa_4
    have HX3 := Lib.hid (HXA.out.trans X3)
    have HR3 := Lib.hid (HRA.out.ext X3)
    clear X3 qa_0 qa_1 qa_2 qa_3 qa_5 qa_6
    go_wp2_with fail
    refine (CG.out _).mono ?_
    rintro e w' ⟨rfl, rfl⟩
    have hkk2 : k < (shK 64 f L k).length := hkk
    obtain ⟨g2, cap2, u2, ev2, A2, _, _, _, put2⟩ := HR3.out.nth hkk2
    have ev3 := ev2
    rw [HLN.out k hk] at ev3
    cases ev3
    rw [HAX.out] at put2 A2
    have HP2 := Lib.hid (fun q => put2 4 (.int .u64 q) { x with p := q } u2 (by decide) rfl A2.d)
    have HX4 := Lib.hid (fun q => HX3.out.setCell (p := ⟨g, k * 7 + 4, none⟩) HBG.out (.int .u64 q))
    clear put2 A2 ev2
    go_wp2
    rw [wrapU64]
    exact ⟨⟨k + 1, by omega, by go_num, by rw [HST1.out]; exact HP2.out _, HX4.out _⟩, by simp [intOf]; omega⟩
end Go.Proofs.Ytkbbneknblnbnaa

/- live of layer 9; the walk of GraphClimbs. -/
import Derived.Test.YtlalkefbcddbfaaDoorGrF4
import Derived.Test.YtlalkefbcddbfaaDoorLong
import Derived.Test.YtlalkefbcddbfaaDoorOpenC
import Derived.Test.YtlalkefbcddbfaaDoorCf4
namespace Go.Proofs.YtlalkefbcddbfaaDoor
open Go.RowKit
set_option linter.unusedVariables false
set_option maxHeartbeats 2000000
def exUp : List (List Int) := [[], [0], [0], [1, 2]]
theorem ex_chk : chk exUp = 0 := by decide +kernel
theorem ex_roots : sel exUp.length (isE exUp) = [0] := by decide +kernel
theorem ex_ends : sel exUp.length (fun c => !aheadB exUp c) = [3] := by decide +kernel
theorem ex_dep : (if inB exUp 3 then dep exUp (3 : Int).toNat else 0) = 2 := by decide +kernel
set_option maxRecDepth 100000 in
theorem live9 (w : World) (hT : Tab w) : Calls Tryd.prog 8 #[] w fun e w' => e = .returned (.bool true) ∧ Ext w w' := by
  have hlen : exUp.length ≤ 1000000 := by decide
  have hll : ∀ l ∈ exUp, l.length ≤ 1000000 := by decide
  have c1 := fun v w (h : ListsV w v exUp) => gCheck v exUp w h hll hlen
  have c2 := fun v w (h : ListsV w v exUp) hT => gRoots v exUp w h hll hlen hT
  have c3 := fun v w (h : ListsV w v exUp) hT => gEnds v exUp w h hll hlen hT
  have c4 := fun v w (h : ListsV w v exUp) => gDepth v exUp 3 w h hll hlen
  rw [ex_chk] at c1
  rw [if_pos ex_chk, ex_roots] at c2
  rw [if_pos ex_chk, ex_ends] at c3
  rw [ex_dep] at c4
  have C1 := Lib.hid c1
  have C2 := Lib.hid c2
  have C3 := Lib.hid c3
  have C4 := Lib.hid c4
  have HT := Lib.hid hT
  clear c1 c2 c3 c4 hT hlen hll
  go_enter Tryd.func8, Tryd.ntmps8
  go_upto_region 2 with (fail)
  refine settle_wp ?_
  intro w1 hb1
  have XA := Ext.trans ((((Ext.refl _).alloc _).alloc _).alloc _) hb1
  have XB := Ext.trans (((Ext.refl _).alloc _).alloc _) hb1
  have XC := Ext.trans ((Ext.refl _).alloc _) hb1
  have qa : w1.cell? ⟨w.heap.size, 0, none⟩ = some (.int .i64 0) := XA.cell (by simp [go_sem])
  have qb : w1.cell? ⟨w.heap.size + 1, 0, none⟩ = some (.int .i64 0) := XB.cell (by simp [go_sem])
  have qc : w1.cell? ⟨w.heap.size + 1 + 1, 0, none⟩ = some (.int .i64 1) := XC.cell (by simp [go_sem])
  have qd : w1.cell? ⟨w.heap.size + 1 + 1, 1, none⟩ = some (.int .i64 2) := XC.cell (by simp [go_sem])
  have r0 : w1.cell? ⟨w.heap.size + 1 + 1 + 1, 0, none⟩ = some (.slice none 0 0) := hb1.cell (by simp [go_sem])
  have r1 : w1.cell? ⟨w.heap.size + 1 + 1 + 1, 1, none⟩ = some (.slice (some ⟨w.heap.size, 0, none⟩) 1 1) := hb1.cell (by simp [go_sem])
  have r2 : w1.cell? ⟨w.heap.size + 1 + 1 + 1, 2, none⟩ = some (.slice (some ⟨w.heap.size + 1, 0, none⟩) 1 1) := hb1.cell (by simp [go_sem])
  have r3 : w1.cell? ⟨w.heap.size + 1 + 1 + 1, 3, none⟩ = some (.slice (some ⟨w.heap.size + 1 + 1, 0, none⟩) 2 2) := hb1.cell (by simp [go_sem])
  have E1 : Ext w w1 := by repeat (first | with_reducible exact Ext.refl _ | with_reducible assumption | with_reducible refine Ext.alloc ?_ _ | with_reducible refine Ext.drew ?_ | with_reducible refine Ext.drewN ?_ _ | with_reducible refine Ext.setCell ?_ (by simp <;> omega) _ | with_reducible refine Ext.trans ?_ (by assumption))
  have hL : ListsV w1 (.slice (some ⟨w.heap.size + 1 + 1 + 1, 0, none⟩) 4 4) exUp := ⟨_, 4, rfl, fun j hj => match j, hj with
    | 0, _ => ⟨_, 0, _, rfl, r0, .inl ⟨none, 0, rfl, rfl⟩, Nat.le_refl _⟩
    | 1, _ => ⟨_, 0, _, rfl, r1, .inr ⟨_, 0, 1, rfl, fun i hi => match i, hi with | 0, _ => qa⟩, Nat.le_refl _⟩
    | 2, _ => ⟨_, 0, _, rfl, r2, .inr ⟨_, 0, 1, rfl, fun i hi => match i, hi with | 0, _ => qb⟩, Nat.le_refl _⟩
    | 3, _ => ⟨_, 0, _, rfl, r3, .inr ⟨_, 0, 2, rfl, fun i hi => match i, hi with | 0, _ => qc | 1, _ => qd⟩, Nat.le_refl _⟩⟩
  have HL := Lib.hid hL
  clear XA XB XC qa qb qc qd r0 r1 r2 r3 hL hb1
  generalize w.heap.size + 1 + 1 + 1 = B at *
  go_wp2_with fail
  refine (C1.out _ _ HL.out).mono ?_
  rintro e w2 ⟨rfl, X2⟩
  go_wp2_with fail
  refine (C2.out _ _ (HL.out.ext X2) (HT.out.ext (E1.trans X2))).mono ?_
  rintro e w3 ⟨v3, rfl, R3, X3⟩
  have HR3 := Lib.hid R3
  have E3 := (E1.trans X2).trans X3
  have HX3 := Lib.hid (X2.trans X3)
  clear X2 X3 R3
  go_wp2_with fail
  refine (same5 _ (.slice (some ⟨w3.heap.size, 0, none⟩) 1 1) [0] _ (HR3.out.ints.ext (by repeat (first | with_reducible exact Ext.refl _ | with_reducible assumption | with_reducible refine Ext.alloc ?_ _ | with_reducible refine Ext.drew ?_ | with_reducible refine Ext.drewN ?_ _ | with_reducible refine Ext.setCell ?_ (by simp <;> omega) _ | with_reducible refine Ext.trans ?_ (by assumption)))) (.inr ⟨w3.heap.size, 0, 1, rfl, fun j hj => match j, hj with | 0, _ => (by simp [go_sem])⟩) (by decide)).mono ?_
  rintro e w4 ⟨rfl, X4⟩
  have E4 : Ext w w4 := (E3.alloc _).trans X4
  have HX4 := Lib.hid (Ext.trans (HX3.out.alloc _) X4)
  clear X4
  go_wp2_with fail
  refine (C3.out _ _ (HL.out.ext HX4.out) (HT.out.ext E4)).mono ?_
  rintro e w5 ⟨v5, rfl, R5, X5⟩
  have HR5 := Lib.hid R5
  have E5 := E4.trans X5
  have HX5 := Lib.hid (HX4.out.trans X5)
  clear X5 R5
  go_wp2_with fail
  refine (same5 _ (.slice (some ⟨w5.heap.size, 0, none⟩) 1 1) [3] _ (HR5.out.ints.ext (by repeat (first | with_reducible exact Ext.refl _ | with_reducible assumption | with_reducible refine Ext.alloc ?_ _ | with_reducible refine Ext.drew ?_ | with_reducible refine Ext.drewN ?_ _ | with_reducible refine Ext.setCell ?_ (by simp <;> omega) _ | with_reducible refine Ext.trans ?_ (by assumption)))) (.inr ⟨w5.heap.size, 0, 1, rfl, fun j hj => match j, hj with | 0, _ => (by simp [go_sem])⟩) (by decide)).mono ?_
  rintro e w6 ⟨rfl, X6⟩
  have E6 : Ext w w6 := (E5.alloc _).trans X6
  have HX6 := Lib.hid (Ext.trans (HX5.out.alloc _) X6)
  clear X6
  go_wp2_with fail
  refine (C4.out _ _ (HL.out.ext HX6.out)).mono ?_
  rintro e w7 ⟨rfl, X7⟩
  go_wp2
  go_ret
  exact ⟨rfl, E6.trans X7⟩
/-! a root, and an end -/
theorem root_over {ups : List (List Int)} (h : Rt ups) : ∀ (m c : Nat), ht ups c < m → c < ups.length → ∃ r, r < ups.length ∧ isE ups r = true ∧ (r = c ∨ Ab ups c r)
  | 0, c, h1, _ => by omega
  | m + 1, c, h1, hc => by
    cases e : ups.getD c [] with
    | nil => exact ⟨c, hc, by unfold isE; rw [e]; rfl, .inl rfl⟩
    | cons a l =>
      have ha : a ∈ ups.getD c [] := by rw [e]; exact List.mem_cons_self
      have hr := mem_R h ha
      have hlt := ht_lt h hr
      obtain ⟨r, r1, r2, r3⟩ := root_over h m a.toNat (by omega) (h.nms.lt hr)
      refine ⟨r, r1, r2, .inr ?_⟩
      rcases r3 with rfl | r3
      · exact .single hr
      · exact Ab.trans (.single hr) r3
theorem end_under {ups : List (List Int)} (h : Rt ups) : ∀ (m c : Nat), 6 < ht ups c + m + 1 → c < ups.length → ∃ d, d < ups.length ∧ aheadB ups d = false
  | 0, c, h1, hc => by
    have := ht_six h (c := c) (by have := h.six; omega)
    omega
  | m + 1, c, h1, hc => by
    cases e : aheadB ups c with
    | false => exact ⟨c, hc, e⟩
    | true =>
      obtain ⟨d, hr⟩ := ahead_iff.1 e
      have := ht_lt h hr
      exact end_under h m d (by omega) hr.src
theorem sel_pos {n : Nat} {p : Nat → Bool} {i : Nat} (h1 : i < n) (h2 : p i = true) : ¬ (sel n p).length = 0 := by
  intro h
  have : (i : Int) ∈ sel n p := mem_sel.2 ⟨i, h1, h2, rfl⟩
  rw [List.length_eq_zero_iff.1 h] at this
  cases this
theorem roots_pos {ups : List (List Int)} (h : Rt ups) : ¬ (sel ups.length (isE ups)).length = 0 := by
  have h1 := h.pos
  obtain ⟨r, r1, r2, _⟩ := root_over h 6 0 (ht_six h (by omega)) (by omega)
  exact sel_pos r1 r2
theorem ends_pos {ups : List (List Int)} (h : Rt ups) : ¬ (sel ups.length (fun c => !aheadB ups c)).length = 0 := by
  have h1 := h.pos
  obtain ⟨d, d1, d2⟩ := end_under h 6 0 (by omega) (by omega)
  exact sel_pos d1 (by rw [d2]; rfl)
/-- those above c, as a list -/
theorem above_list {ups : List (List Int)} (c : Nat) (h : Rt ups) (hc : c < 6) : (bitsOf (abw ups c)).map (fun (i : Nat) => (i : Int)) = sel ups.length fun x => tab ups (c * 6 + x) := by
  rw [← list_word h.six]
  congr 2
  unfold abw
  refine wordOf_congr fun i hi => ?_
  by_cases hn : i < ups.length
  · simp [hn]
  · cases e : tab ups (c * 6 + i) with
    | false => simp
    | true => exact absurd (Ab.lt h.nms ((tab_iff h.nms h.six hc hi).1 e)) hn
theorem inB_yes {ups : List (List Int)} (h : Rt ups) {k : Nat} (hk : k < ups.length) : inB ups (k : Int) = true := by
  unfold inB
  rw [decide_eq_true (chk_zero.2 h), decide_eq_true (show (0 : Int) ≤ k by omega), decide_eq_true (show (k : Int) < (ups.length : Int) by omega)]
  rfl
theorem bcB_nat (ups : List (List Int)) (c d : Nat) (hc : c < 6) : bcB ups (c : Int) d = tab ups (d * 6 + c) := by
  unfold bcB
  rw [decide_eq_true (show (0 : Int) ≤ c by omega), decide_eq_true (show (c : Int) < 6 by omega), Int.toNat_natCast]
  simp
theorem inside_up {ups : List (List Int)} (h : Rt ups) {c a : Nat} (hc : c < 6) (ha : a < 6) (hr : tab ups (c * 6 + a) = true) : lessN (abw ups a) (abw ups c) = 0 := by
  have l1 := abw_lt ups a
  have l2 := abw_lt ups c
  refine eq_of_bits (less_lt (by omega)) (by decide) fun i hi => ?_
  rw [testBit_less (by omega) hi, Nat.zero_testBit]
  by_cases h6 : i < 6
  · rw [abw_bit _ _ _ h6, abw_bit _ _ _ h6]
    cases e : tab ups (a * 6 + i) with
    | false => rfl
    | true =>
      rw [(tab_iff h.nms h.six hc h6).2 (Ab.trans ((tab_iff h.nms h.six hc ha).1 hr) ((tab_iff h.nms h.six ha h6).1 e))]
      rfl
  · rw [bit_high l1 (by omega)]; rfl
theorem blwK_bit (ups : List (List Int)) (a c : Nat) (ha : a < 6) (hc : c < ups.length) (h6 : c < 6) : (blwK ups (a : Int) ups.length).testBit c = tab ups (c * 6 + a) := by
  unfold blwK
  rw [testBit_word _ _ h6, bcB_nat _ _ _ ha]
  simp [hc]
set_option maxRecDepth 100000 in
theorem graphClimbs_walk (a : Option Addr) (len cap : Nat) (ups : List (List Int)) (w : World) (h : Came w a len cap ups) (hT : Tab w) :
    Calls Tryd.prog 5 #[.slice a len cap] w fun e w' => e = .returned (.bool true) ∧ Below w.heap.size w w' := by
  have CL := long _ ups w h.l (by rw [h.n]; exact h.m) (fun l hl => (h.each l hl).1)
  have HT := Lib.hid hT
  clear hT
  cases hb : longB ups
  · rw [hb] at CL
    have HCL := Lib.hid CL
    obtain ⟨hn20, hl20⟩ := longB_no hb
    have hn : ups.length ≤ 1000000 := by omega
    have hll : ∀ l ∈ ups, l.length ≤ 1000000 := fun l hl => by have := hl20 l hl; omega
    have CK := Lib.hid (gCheck _ ups w h.l hll hn)
    by_cases hg : chk ups = 0
    · have rt := chk_zero.1 hg
      have hlen := h.n
      have h6 := rt.six
      have HL := Lib.hid h.l
      have c1 := fun w' (hx : Ext w w') => gRoots _ ups w' (h.l.ext hx) hll hn (HT.out.ext hx)
      have c2 := fun w' (hx : Ext w w') => gEnds _ ups w' (h.l.ext hx) hll hn (HT.out.ext hx)
      have c3 := fun (k : Nat) (hk : k < ups.length) w' (hx : Ext w w') => gAbove _ ups (k : Int) w' (h.l.ext hx) hll hn
      have c4 := fun (k : Nat) (hk : k < ups.length) w' (hx : Ext w w') => gBelow _ ups (k : Int) w' (h.l.ext hx) hll hn (HT.out.ext hx)
      rw [if_pos hg] at c1 c2
      have C1 := Lib.hid c1
      have C2 := Lib.hid c2
      have C3 : Hid (∀ (k : Nat) (hk : k < ups.length) w' (hx : Ext w w'), Calls Tryd.prog 17 #[.slice a len cap, .int .i64 k] w' fun e w'' => e = .returned (.int .u64 ((abw ups k : Nat) : Int)) ∧ Ext w' w'') := Lib.hid (fun k hk w' hx => by
        have := c3 k hk w' hx
        rwa [inB_yes rt hk, if_pos rfl, Int.toNat_natCast] at this)
      have C4 : Hid (∀ (k : Nat) (hk : k < ups.length) w' (hx : Ext w w'), Calls Tryd.prog 18 #[.slice a len cap, .int .i64 k] w' fun e w'' => e = .returned (.int .u64 ((blwK ups (k : Int) ups.length : Nat) : Int)) ∧ Ext w' w'') := Lib.hid (fun k hk w' hx => by
        have := c4 k hk w' hx
        rwa [if_pos hg] at this)
      rw [hg] at CK
      have HRT := Lib.hid rt
      have k1 := roots_pos rt
      have k2 := ends_pos rt
      have l1 := sel_len ups.length (isE ups)
      have l2 := sel_len ups.length (fun c => !aheadB ups c)
      have HE := Lib.hid hlen
      have hlen6 : len ≤ 6 := by omega
      clear CL h hb hn20 hl20 hll hn c1 c2 c3 c4 hg rt
      generalize hs1 : sel ups.length (isE ups) = s1 at *
      generalize hs2 : sel ups.length (fun c => !aheadB ups c) = s2 at *
      clear hs1 hs2 hlen
      go_enter Tryd.func5, Tryd.ntmps5
      go_wp2_with fail
      refine (HCL.out).mono ?_
      rintro e w' ⟨rfl, rfl⟩
      go_wp2_with fail
      refine CK.out.mono ?_
      rintro e w1 ⟨rfl, X1⟩
      go_wp2_with fail
      refine (C1.out _ X1).mono ?_
      rintro e w2 ⟨v2, rfl, R2, X2⟩
      obtain ⟨a2, cp2, e2, -⟩ := R2.ints.form
      subst e2
      have E2 := X1.trans X2
      have d1 : ((s1.length : Int) == 0) = false := by rw [beq_eq_false_iff_ne]; omega
      clear R2 X1 X2
      generalize s1.length = n1 at *
      go_wp2_with fail
      refine (C2.out _ E2).mono ?_
      rintro e w3 ⟨v3, rfl, R3, X3⟩
      obtain ⟨a3, cp3, e3, -⟩ := R3.ints.form
      subst e3
      have E3 := E2.trans X3
      have d2 : ((s2.length : Int) == 0) = false := by rw [beq_eq_false_iff_ne]; omega
      clear R3 X3 E2
      generalize s2.length = n2 at *
      go_wp2
      go_loopw [3] (fun i wr => ∃ c : Nat, c ≤ len ∧ i = .int .i64 c ∧ Ext w wr) (fun i _ => len - (intOf i).toNat)
      case atStart => exact ⟨0, Nat.zero_le _, rfl, E3⟩
      case round =>
        obtain ⟨c, hc, rfl, hx⟩ := hrel
        by_cases hlt : c < len
        · have hcn : (c : Int) < (len : Int) := by omega
          have hcu : c < ups.length := by have := HE.out; omega
          have CH := fun w => gHasAb ups (c : Int) c w
          rw [bcB_nat _ _ _ (by omega)] at CH
          have hself : tab ups (c * 6 + c) = false := by
            cases e : tab ups (c * 6 + c) with
            | false => rfl
            | true => exact absurd ((tab_iff HRT.out.nms HRT.out.six (by omega) (by omega)).1 e) (HRT.out.acy c)
          rw [hself] at CH
          have HCH := Lib.hid CH
          have hal := abw_lt ups c
          have CLs := Lib.hid (fun w' (hx : Ext w w') => gListI (abw ups c) w' (by omega) (HT.out.ext hx))
          rw [above_list c HRT.out (by omega)] at CLs
          have HA := Lib.hid (C3.out c hcu)
          clear CH hself
          go_wp2_with fail
          refine (HA.out _ hx).mono ?_
          rintro e w4 ⟨rfl, X4⟩
          have E4 := hx.trans X4
          go_wp2_with fail
          refine (HCH.out _).mono ?_
          rintro e w' ⟨rfl, rfl⟩
          go_wp2_with fail
          refine (CLs.out _ E4).mono ?_
          rintro e w5 ⟨v5, rfl, R5, X5⟩
          obtain ⟨a5, cp5, e5, hf5⟩ := R5.ints.form
          subst e5
          have E5 := E4.trans X5
          have HF5 := Lib.hid hf5
          have hsl := sel_len ups.length (fun x => tab ups (c * 6 + x))
          clear hf5 R5 X4 X5 E4 HA CLs HCH
          obtain ⟨m, hm⟩ : ∃ m, m = (sel ups.length fun x => tab ups (c * 6 + x)).length := ⟨_, rfl⟩
          rw [← hm] at hsl ⊢
          have HM := Lib.hid hm
          clear hm
          go_wp2
          go_loopw [6] (fun i wr => ∃ j : Nat, j ≤ m ∧ i = .int .i64 j ∧ Ext w5 wr) (fun i _ => m - (intOf i).toNat)
          case atStart => exact ⟨0, Nat.zero_le _, rfl, Ext.refl _⟩
          case round =>
            obtain ⟨j, hj, rfl, hx5⟩ := hrel
            by_cases hlt2 : j < m
            · have hjs : j < (sel ups.length fun x => tab ups (c * 6 + x)).length := by have := HM.out; omega
              obtain ⟨b1, o1, e1, q1⟩ := HF5.out j hjs
              subst e1
              have hjm : (j : Int) < (m : Int) := by omega
              have hmem := List.getElem_mem hjs
              rw [getD_at _ _ _ hjs] at q1
              obtain ⟨i, i1, i2, i3⟩ := mem_sel.1 hmem
              rw [← i3] at q1
              have q2 := hx5.cell q1
              have HA := Lib.hid (C3.out i i1)
              have HB := Lib.hid (C4.out i i1)
              have CI := fun w => gInside (abw ups i) (abw ups c) w (by have := abw_lt ups i; omega) (by omega)
              rw [inside_up HRT.out (by omega) (by omega) i2] at CI
              have HCI := Lib.hid CI
              have hbl : blwK ups (i : Int) ups.length < 64 := word_lt _
              have CB := fun w => gHas (blwK ups (i : Int) ups.length) c w (by omega) (by omega)
              rw [blwK_bit ups i c (by omega) hcu (by omega), i2] at CB
              have HCB := Lib.hid CB
              clear CI CB hmem i2 i3 q1 hjs
              generalize blwK ups (i : Int) ups.length = bw at *
              generalize abw ups i = aw at *
              generalize abw ups c = ac at *
              have E6 := E5.trans hx5
              go_wp2_with fail
              refine (HA.out _ E6).mono ?_
              rintro e w7 ⟨rfl, X7⟩
              have q3 := X7.cell q2
              have E7 := E6.trans X7
              go_wp2_with fail
              refine (HCI.out _).mono ?_
              rintro e w' ⟨rfl, rfl⟩
              go_wp2_with fail
              refine (HB.out _ E7).mono ?_
              rintro e w8 ⟨rfl, X8⟩
              go_wp2_with fail
              refine (HCB.out _).mono ?_
              rintro e w' ⟨rfl, rfl⟩
              go_wp2
              exact ⟨⟨j + 1, by omega, by go_num, (hx5.trans X7).trans X8⟩, by simp [intOf]; omega⟩
            · go_wp2
              exact ⟨⟨c + 1, by omega, by go_num, E5.trans hx5⟩, by simp [intOf]; omega⟩
        · go_wp2_with fail
          refine (live9 _ (HT.out.ext hx)).mono ?_
          rintro e w4 ⟨rfl, X4⟩
          go_wp2
          go_ret
          exact ⟨rfl, (hx.trans X4).below⟩
    · have k : (chk ups != 0) = true := by simpa using hg
      have k2 : (chk ups == 0) = false := by simpa using hg
      generalize chk ups = g at *
      clear CL h hb hn20 hl20 hll hn hg
      go_enter Tryd.func5, Tryd.ntmps5
      go_wp2_with fail
      refine (HCL.out).mono ?_
      rintro e w' ⟨rfl, rfl⟩
      go_wp2_with fail
      refine CK.out.mono ?_
      rintro e w1 ⟨rfl, X1⟩
      go_wp2_with fail
      refine (live9 _ (HT.out.ext X1)).mono ?_
      rintro e w4 ⟨rfl, X4⟩
      go_wp2
      go_ret
      exact ⟨rfl, (X1.trans X4).below⟩
  · rw [hb] at CL
    have HCL := Lib.hid CL
    clear CL h hb
    go_enter Tryd.func5, Tryd.ntmps5
    go_wp2_with fail
    refine (HCL.out).mono ?_
    rintro e w' ⟨rfl, rfl⟩
    go_wp2_with fail
    refine (live9 _ HT.out).mono ?_
    rintro e w4 ⟨rfl, X4⟩
    go_wp2
    go_ret
    exact ⟨rfl, X4.below⟩
end Go.Proofs.YtlalkefbcddbfaaDoor

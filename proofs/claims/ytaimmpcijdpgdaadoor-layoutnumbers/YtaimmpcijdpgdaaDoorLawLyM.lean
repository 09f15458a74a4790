/- The document's Mark; the walk of LayoutNumbers. -/
import Derived.Test.YtaimmpcijdpgdaaDoorLawLyF
namespace Go.Proofs.YtaimmpcijdpgdaaDoor
open Go.RowKit
set_option linter.unusedVariables false
set_option linter.unusedSimpArgs false
set_option maxHeartbeats 4000000
attribute [local go_sem] later_cell later_frozen later_const
theorem max3 (x y z r : Int) (h : (x = r ∧ y = -1 ∧ z = -1) ∨ (x = -1 ∧ y = r ∧ z = -1) ∨ (x = -1 ∧ y = -1 ∧ z = r)) (hr : -1 ≤ r) : (if z > (if y > x then y else x) then z else (if y > x then y else x)) = r := by
  rcases h with ⟨rfl, rfl, rfl⟩ | ⟨rfl, rfl, rfl⟩ | ⟨rfl, rfl, rfl⟩ <;> (repeat split) <;> omega
theorem plc_ge {f m i : Int} (h : -1 ≤ f) : -1 ≤ plc f m i := by
  unfold plc
  split
  · omega
  · omega
/-- a slot's mark, stamp or done, by its name -/
theorem mark_three {V n C : Int} (i : Int) (h : NumOk V n C) : (cellOf V n C 7 i = plc (nMa V n) C i ∧ cellOf V n C 8 i = -1 ∧ cellOf V n C 9 i = -1) ∨ (cellOf V n C 7 i = -1 ∧ cellOf V n C 8 i = plc (nMa V n) C i ∧ cellOf V n C 9 i = -1) ∨ (cellOf V n C 7 i = -1 ∧ cellOf V n C 8 i = -1 ∧ cellOf V n C 9 i = plc (nMa V n) C i) := by
  unfold cellOf mrk
  by_cases h4 : V = 4
  · subst h4; simp
  by_cases h5 : V = 5
  · subst h5; simp
  · simp [h4, h5]
set_option maxRecDepth 100000 in
theorem rMark11 (V W C P S : Int) (a : Option Addr) (n cap : Nat) (g m cr : Nat) (N : Nat → ByteArray) (i x7 x8 x9 r : Int) (w : World) (hm : m ≤ 1000) (hi0 : -9223372036854775808 ≤ i) (hi1 : i ≤ 9223372036854775807) (hN : ∀ c, c < m → w.cell? ⟨g, c * 3, none⟩ = some (.string (N c)))
    (h7 : fnd (findN N (nmOf 7 i) m) = x7) (h8 : fnd (findN N (nmOf 8 i) m) = x8) (h9 : fnd (findN N (nmOf 9 i) m) = x9) (hr : (if x9 > (if x8 > x7 then x8 else x7) then x9 else (if x8 > x7 then x8 else x7)) = r) :
    Calls Tryd.prog 19 #[(.agg #[.int .i64 V, .int .i64 W, .int .i64 C, .int .i64 P, .int .u64 (S), .slice a n cap]), .slice (some ⟨g, 0, none⟩) m cr, .int .i64 i] w fun e w' => e = .returned (.int .i64 r) ∧ Ext w w' := by
  have CN := Lib.hid (fun w => rNum6 i w hi0 hi1)
  have c7 : Hid (∀ w', Ext w w' → Calls Tryd.prog 17 #[.slice (some ⟨g, 0, none⟩) m cr, .string (⟨#[109, 97, 114, 107]⟩ ++ tx (Lib.itoa i))] w' fun e w'' => e = .returned (.int .i64 x7) ∧ w' = w'') := Lib.hid (fun w' hx => (rFind g m cr (nmOf 7 i) N w' hm (fun c hc => hx.cell (hN c hc))).mono fun e w'' hh => ⟨by rw [hh.1, h7], hh.2⟩)
  have c8 : Hid (∀ w', Ext w w' → Calls Tryd.prog 17 #[.slice (some ⟨g, 0, none⟩) m cr, .string (⟨#[115, 116, 97, 109, 112]⟩ ++ tx (Lib.itoa i))] w' fun e w'' => e = .returned (.int .i64 x8) ∧ w' = w'') := Lib.hid (fun w' hx => (rFind g m cr (nmOf 8 i) N w' hm (fun c hc => hx.cell (hN c hc))).mono fun e w'' hh => ⟨by rw [hh.1, h8], hh.2⟩)
  have c9 : Hid (∀ w', Ext w w' → Calls Tryd.prog 17 #[.slice (some ⟨g, 0, none⟩) m cr, .string (⟨#[100, 111, 110, 101]⟩ ++ tx (Lib.itoa i))] w' fun e w'' => e = .returned (.int .i64 x9) ∧ w' = w'') := Lib.hid (fun w' hx => (rFind g m cr (nmOf 9 i) N w' hm (fun c hc => hx.cell (hN c hc))).mono fun e w'' hh => ⟨by rw [hh.1, h9], hh.2⟩)
  have hz := itoa_len i hi0 hi1
  have hM := fun ts t w => run_max_int3 (P := Tryd.prog) w ts t .i64 .i64 .i64 x7 x8 x9
  rw [hr] at hM
  generalize tx (Lib.itoa i) = num at *
  have s7 : (⟨#[109, 97, 114, 107]⟩ : ByteArray).size + num.size ≤ 9223372036854775807 := by have : (⟨#[109, 97, 114, 107]⟩ : ByteArray).size = 4 := rfl; omega
  have s8 : (⟨#[115, 116, 97, 109, 112]⟩ : ByteArray).size + num.size ≤ 9223372036854775807 := by have : (⟨#[115, 116, 97, 109, 112]⟩ : ByteArray).size = 5 := rfl; omega
  have s9 : (⟨#[100, 111, 110, 101]⟩ : ByteArray).size + num.size ≤ 9223372036854775807 := by have : (⟨#[100, 111, 110, 101]⟩ : ByteArray).size = 4 := rfl; omega
  clear h7 h8 h9 hr hN
  go_enter Tryd.func19, Tryd.ntmps19
  go_wp2_with fail
  refine (CN.out _).mono ?_
  rintro e w1 ⟨rfl, hb1⟩
  obtain ⟨hc1, hf1⟩ := hb1.cells
  have E1 : Ext w w1 := by repeat (first | with_reducible exact Ext.refl _ | with_reducible assumption | with_reducible refine Ext.alloc ?_ _ | with_reducible refine Ext.drew ?_ | with_reducible refine Ext.drewN ?_ _ | with_reducible refine Ext.setCell ?_ (by simp <;> omega) _ | with_reducible refine Ext.trans ?_ (by assumption))
  clear hc1 hf1
  go_wp2_with fail
  refine (c7.out _ E1).mono ?_
  rintro e w' ⟨rfl, rfl⟩
  go_wp2_with fail
  refine (c8.out _ E1).mono ?_
  rintro e w' ⟨rfl, rfl⟩
  go_wp2_with fail
  refine (c9.out _ E1).mono ?_
  rintro e w' ⟨rfl, rfl⟩
  go_wp2
  go_ret
  exact ⟨rfl, E1⟩
set_option maxRecDepth 100000 in
theorem layoutNumbers_walk (V W C P S : Int) (a : Option Addr) (len cap : Nat) (ups : List (List Int)) (i : Int) (w : World) (wf : (Lit.int .i64 V).wf = true ∧ (Lit.int .i64 W).wf = true ∧ (Lit.int .i64 C).wf = true ∧ (Lit.int .i64 P).wf = true ∧ (Lit.int .u64 S).wf = true) (h : Came w a len cap ups) (wi : (Lit.int .i64 i).wf = true) (E : LEnv w) :
    Calls Tryd.prog 4 #[(.agg #[.int .i64 V, .int .i64 W, .int .i64 C, .int .i64 P, .int .u64 (S), .slice a len cap]), .int .i64 i] w fun e w' => e = .returned (.bool true) ∧ Below w.heap.size w w' := by
  have hi := wf_i64 wi
  obtain ⟨hi0, hi1⟩ := hi
  clear wi
  have hS := wf_u64 wf.2.2.2.2
  obtain ⟨hS0, hS1⟩ := hS
  clear wf
  have CL := fun w' (hx : Ext w w') => long _ ups w' (h.l.ext hx) (by rw [h.n]; exact h.m) (fun l hl => (h.each l hl).1)
  have CV := Lib.hid (fun w' (hx : Ext w w') => live11 w' (E.ext hx))
  cases hb : longB ups
  case true =>
    rw [hb] at CL
    have HCL := Lib.hid CL
    clear CL h hb E
    go_enter Tryd.func4, Tryd.ntmps4
    go_wp2_with fail
    refine (HCL.out _ (by repeat (first | with_reducible exact Ext.refl _ | with_reducible assumption | with_reducible refine Ext.alloc ?_ _ | with_reducible refine Ext.drew ?_ | with_reducible refine Ext.drewN ?_ _ | with_reducible refine Ext.setCell ?_ (by simp <;> omega) _ | with_reducible refine Ext.trans ?_ (by assumption)))).mono ?_
    rintro e w' ⟨rfl, rfl⟩
    go_wp2_with fail
    refine (CV.out _ (by repeat (first | with_reducible exact Ext.refl _ | with_reducible assumption | with_reducible refine Ext.alloc ?_ _ | with_reducible refine Ext.drew ?_ | with_reducible refine Ext.drewN ?_ _ | with_reducible refine Ext.setCell ?_ (by simp <;> omega) _ | with_reducible refine Ext.trans ?_ (by assumption)))).mono ?_
    rintro e w1 ⟨rfl, hb1⟩
    obtain ⟨hc1, hf1⟩ := hb1.cells
    go_wp2
    go_ret
    refine ⟨rfl, Ext.below ?_⟩
    repeat (first | with_reducible exact Ext.refl _ | with_reducible assumption | with_reducible refine Ext.alloc ?_ _ | with_reducible refine Ext.drew ?_ | with_reducible refine Ext.drewN ?_ _ | with_reducible refine Ext.setCell ?_ (by simp <;> omega) _ | with_reducible refine Ext.trans ?_ (by assumption))
  rw [hb] at CL
  have HCL := Lib.hid CL
  obtain ⟨hll, hn⟩ := came_small h hb
  obtain rfl := h.n
  have CR := fun w' (hx : Ext w w') => r10Right V W C P S _ ups w' (h.l.ext hx) hll hn
  by_cases hg : ckC V W C P ups = 0
  case neg =>
    rw [show (ckC V W C P ups == 0) = false by simpa using hg] at CR
    have HCR := Lib.hid CR
    clear CL CR h hb E hll hg
    generalize ups.length = n at *
    go_enter Tryd.func4, Tryd.ntmps4
    go_wp2_with fail
    refine (HCL.out _ (by repeat (first | with_reducible exact Ext.refl _ | with_reducible assumption | with_reducible refine Ext.alloc ?_ _ | with_reducible refine Ext.drew ?_ | with_reducible refine Ext.drewN ?_ _ | with_reducible refine Ext.setCell ?_ (by simp <;> omega) _ | with_reducible refine Ext.trans ?_ (by assumption)))).mono ?_
    rintro e w' ⟨rfl, rfl⟩
    go_wp2_with fail
    refine (HCR.out _ (by repeat (first | with_reducible exact Ext.refl _ | with_reducible assumption | with_reducible refine Ext.alloc ?_ _ | with_reducible refine Ext.drew ?_ | with_reducible refine Ext.drewN ?_ _ | with_reducible refine Ext.setCell ?_ (by simp <;> omega) _ | with_reducible refine Ext.trans ?_ (by assumption)))).mono ?_
    rintro e w2 ⟨rfl, hb2⟩
    obtain ⟨hc2, hf2⟩ := hb2.cells
    go_wp2_with fail
    refine (CV.out _ (by repeat (first | with_reducible exact Ext.refl _ | with_reducible assumption | with_reducible refine Ext.alloc ?_ _ | with_reducible refine Ext.drew ?_ | with_reducible refine Ext.drewN ?_ _ | with_reducible refine Ext.setCell ?_ (by simp <;> omega) _ | with_reducible refine Ext.trans ?_ (by assumption)))).mono ?_
    rintro e w3 ⟨rfl, hb3⟩
    obtain ⟨hc3, hf3⟩ := hb3.cells
    go_wp2
    go_ret
    refine ⟨rfl, Ext.below ?_⟩
    repeat (first | with_reducible exact Ext.refl _ | with_reducible assumption | with_reducible refine Ext.alloc ?_ _ | with_reducible refine Ext.drew ?_ | with_reducible refine Ext.drewN ?_ _ | with_reducible refine Ext.setCell ?_ (by simp <;> omega) _ | with_reducible refine Ext.trans ?_ (by assumption))
  rw [show (ckC V W C P ups == 0) = true by simpa using hg] at CR
  have HCR := Lib.hid CR
  have ok := ok_iff.1 hg
  have hok := numOk ok
  have hbd := num_bounds hok
  have h6 := ok.rt.six
  have hc64 := ok.c64
  have hc2 := ok.c2
  obtain ⟨n, hn0⟩ : ∃ n, n = ups.length := ⟨_, rfl⟩
  obtain ⟨m, hm⟩ : ∃ m : Nat, (m : Int) = nCe V n C := ⟨(nCe V n C).toNat, by rw [hn0]; omega⟩
  have hm0 : 0 < m := by rw [hn0] at hm; omega
  have CO := fun w' (hx : Ext w w') => lOf_ok V W C P S _ ups w' (h.l.ext hx) hll hn hg
  have CF := fun w' => rOf11 V W C P S a ups.length cap w' ok.v1 ok.v5 ok.wd ok.rc ok.c64 hS0 h6
  have CN := fun aq cq w' (hx : Ext w w') (c : Nat) (hc : (c : Int) < nCe V ups.length C) => name_at (S := S) ok aq cq w' (E.ext hx) c hc
  have hlen : (listD V W C S n).length = m := by have := listD_len (V := V) (n := n) (C := C) (by rw [hn0]; exact hok) W S (N := n) rfl; omega
  have HOWN : Hid (∀ c, c < m → findN (nmC V n C) (nmC V n C c) m = some c) := Lib.hid (fun c hc => find_own (by rw [hn0]; exact hok) hm hc)
  have HCELL : Hid (∀ (k : Nat) (i : Int), 1 ≤ k → k ≤ 10 → (pMany k = false → i = 0) → fnd (findN (nmC V n C) (nmOf k i) m) = cellOf V n C k i) := Lib.hid (fun k i h1 h2 h3 => by
    rw [find_cell (by rw [hn0]; exact hok) hm h1 h2 h3]
    by_cases hq : cellOf V n C k i = -1
    · rw [if_pos hq, hq]; rfl
    · rw [if_neg hq]
      have := cell_lt (V := V) (n := n) (C := C) (by rw [hn0]; exact hok) (k := k) (i := i) (by omega) (by omega) (by simpa using h3)
      show (((cellOf V n C k i).toNat : Nat) : Int) = _
      omega)
  have HROW : Hid (∀ (W0 : World) (b0 : Nat) (v : Value), RD W0 b0 v (listD V W C S n) → ∃ g cp, v = .slice (some ⟨g, 0, none⟩) m cp ∧ ∀ c, c < m → W0.cell? ⟨g, c * 3, none⟩ = some (.string (nmC V n C c)) ∧ W0.cell? ⟨g, c * 3 + 1, none⟩ = some (.int .i64 (pKind (useN V n C c).1.toNat)) ∧ W0.cell? ⟨g, c * 3 + 2, none⟩ = some (.int .u64 (fst W C S (useN V n C c).1 (useN V n C c).2))) := Lib.hid (fun W0 b0 v hR => by
    obtain ⟨g, cp, hv, _, _, hcc⟩ := hR.form (by omega)
    rw [hlen] at hv
    refine ⟨g, cp, hv, fun c hc => ?_⟩
    obtain ⟨g', cp', hv', q0, q1, q2⟩ := hR.cell (i := c) (by omega)
    rw [hv] at hv'
    cases hv'
    obtain ⟨m0, m1, m2⟩ := mem_names (V := V) (W := W) (C := C) (S := S) (n := n) (by rw [hn0]; exact hok) rfl (c := c) (by omega) (List.getElem?_eq_getElem (by omega))
    rw [m0] at q0
    rw [m1] at q1
    rw [m2] at q2
    exact ⟨q0, q1, q2⟩)
  rw [← hn0] at CO CF CN
  obtain ⟨Cu, hCu⟩ : ∃ x, x = nCu V n := ⟨_, rfl⟩
  obtain ⟨Cl, hCl⟩ : ∃ x, x = nCl V n := ⟨_, rfl⟩
  obtain ⟨Ti, hTi⟩ : ∃ x, x = nTi V n := ⟨_, rfl⟩
  obtain ⟨Se, hSe⟩ : ∃ x, x = nSe V n := ⟨_, rfl⟩
  obtain ⟨Ne, hNe⟩ : ∃ x, x = nNe V n := ⟨_, rfl⟩
  obtain ⟨Ma, hMa⟩ : ∃ x, x = nMa V n := ⟨_, rfl⟩
  obtain ⟨Sl, hSl⟩ : ∃ x, x = nSl V n C := ⟨_, rfl⟩
  have hLay : ∀ u, layV V W C P S u n = (.agg #[.int .i64 V, .int .i64 W, .int .i64 C, .int .i64 P, .int .u64 S, u, .int .i64 Cu, .int .i64 Cl, .int .i64 Ti, .int .i64 Se, .int .i64 Ne, .int .i64 Ma, .int .i64 Sl, .int .i64 m]) := fun u => by unfold layV; rw [hCu, hCl, hTi, hSe, hNe, hMa, hSl, hm]
  simp only [hLay] at CN
  have HLAY := Lib.hid hLay
  have hm500 : m ≤ 500 := by rw [hn0] at hm; omega
  have HLIM : Hid (0 ≤ Sl ∧ Sl ≤ 500 ∧ -1 ≤ Ma ∧ Ma ≤ 500) := Lib.hid (by rw [hSl, hMa, hn0]; omega)
  have HF2 : Hid (fnd (findN (nmC V n C) (nmOf 2 0) m) = Cu) := Lib.hid (by rw [HCELL.out 2 0 (by omega) (by omega) (fun _ => rfl)]; simp [cellOf, hCu])
  have HF3 : Hid (fnd (findN (nmC V n C) (nmOf 3 0) m) = Cl) := Lib.hid (by rw [HCELL.out 3 0 (by omega) (by omega) (fun _ => rfl)]; simp [cellOf, hCl])
  have HF4 : Hid (fnd (findN (nmC V n C) (nmOf 4 0) m) = Ti) := Lib.hid (by rw [HCELL.out 4 0 (by omega) (by omega) (fun _ => rfl)]; simp [cellOf, hTi])
  have HF5 : Hid (fnd (findN (nmC V n C) (nmOf 5 0) m) = Se) := Lib.hid (by rw [HCELL.out 5 0 (by omega) (by omega) (fun _ => rfl)]; simp [cellOf, hSe])
  have HF6 : Hid (fnd (findN (nmC V n C) (nmOf 6 0) m) = Ne) := Lib.hid (by rw [HCELL.out 6 0 (by omega) (by omega) (fun _ => rfl)]; simp [cellOf, hNe])
  have HF1 : Hid (fnd (findN (nmC V n C) (nmOf 1 i) m) = plc 0 n i) := Lib.hid (by rw [HCELL.out 1 i (by omega) (by omega) (fun h => absurd h (by decide))]; simp [cellOf])
  have HF10 : Hid (fnd (findN (nmC V n C) (nmOf 10 i) m) = plc Sl C i) := Lib.hid (by rw [HCELL.out 10 i (by omega) (by omega) (fun h => absurd h (by decide))]; simp [cellOf, hSl])
  have HF0 : Hid (fnd (findN (nmC V n C) (nmOf 10 0) m) = Sl) := Lib.hid (by
    rw [HCELL.out 10 0 (by omega) (by omega) (fun _ => rfl), hSl, show cellOf V n C ((10 : Nat) : Int) 0 = plc (nSl V n C) C 0 by simp [cellOf]]
    unfold plc
    rw [if_neg (by rw [hn0]; omega)]
    omega)
  have h6n : n ≤ 6 := by rw [hn0]; exact h6
  have hokn : NumOk V n C := by rw [hn0]; exact hok
  have hbn := num_bounds hokn
  have HM3 : Hid (∀ j : Int, ∃ x7 x8 x9, fnd (findN (nmC V n C) (nmOf 7 j) m) = x7 ∧ fnd (findN (nmC V n C) (nmOf 8 j) m) = x8 ∧ fnd (findN (nmC V n C) (nmOf 9 j) m) = x9 ∧ (if x9 > (if x8 > x7 then x8 else x7) then x9 else (if x8 > x7 then x8 else x7)) = plc Ma C j) := Lib.hid (fun j => by
    refine ⟨_, _, _, HCELL.out 7 j (by omega) (by omega) (fun h => absurd h (by decide)), HCELL.out 8 j (by omega) (by omega) (fun h => absurd h (by decide)), HCELL.out 9 j (by omega) (by omega) (fun h => absurd h (by decide)), ?_⟩
    rw [hMa]
    exact max3 _ _ _ _ (mark_three j hokn) (plc_ge (by omega)))
  have HP0 : Hid (plc Ma C 0 = Ma) := Lib.hid (by
    rw [hMa]
    unfold plc
    by_cases hq : nMa V n = -1
    · rw [if_pos (.inl hq), hq]
    · rw [if_neg (by omega)]; omega)
  have HCO := Lib.hid CO
  have HCF := Lib.hid CF
  rw [← hm] at CN
  have CFI := Lib.hid (fun aq cq (x : ByteArray) w' (hx : Ext w w') => lFind V W C P S aq n cq Cu Cl Ti Se Ne Ma Sl m x (nmC V n C) w' (by omega) (fun c hc w2 hx2 => CN aq cq w2 (hx.trans hx2) c (by omega)))
  have HCN := Lib.hid (fun aq cq w' (hx : Ext w w') (c : Nat) (hc : c < m) => CN aq cq w' hx c (by omega))
  have HN0 := Lib.hid hn0
  have HLEN := Lib.hid hlen
  clear CL CR CO CF CN h hb E hll hg ok hok hbd hn hlen hLay hCu hCl hTi hSe hNe hMa hSl hm hokn hbn hS0 hS1
  rw [← hn0] at HCL HCR ⊢
  clear hn0
  generalize listD V W C S n = LD at *
  clear HCELL HOWN CFI HCN
  have HNM : Hid (∀ (W0 : World) (b0 : Nat) (v : Value), RD W0 b0 v LD → ∃ g cp, v = .slice (some ⟨g, 0, none⟩) m cp ∧ ∀ c, c < m → W0.cell? ⟨g, c * 3, none⟩ = some (.string (nmC V n C c))) := Lib.hid (fun W0 b0 v hR => by
    obtain ⟨g, cp, h1, h2⟩ := HROW.out W0 b0 v hR
    exact ⟨g, cp, h1, fun c hc => (h2 c hc).1⟩)
  clear HROW
  generalize nmC V n C = N at *
  obtain ⟨hl0, hl1, hl2, hl3⟩ := HLIM.out
  go_enter Tryd.func4, Tryd.ntmps4
  go_wp2_with fail
  refine (HCL.out _ (by repeat (first | with_reducible exact Ext.refl _ | with_reducible assumption | with_reducible refine Ext.alloc ?_ _ | with_reducible refine Ext.drew ?_ | with_reducible refine Ext.drewN ?_ _ | with_reducible refine Ext.setCell ?_ (by simp <;> omega) _ | with_reducible refine Ext.trans ?_ (by assumption)))).mono ?_
  rintro e w' ⟨rfl, rfl⟩
  go_wp2_with fail
  refine (HCR.out _ (by repeat (first | with_reducible exact Ext.refl _ | with_reducible assumption | with_reducible refine Ext.alloc ?_ _ | with_reducible refine Ext.drew ?_ | with_reducible refine Ext.drewN ?_ _ | with_reducible refine Ext.setCell ?_ (by simp <;> omega) _ | with_reducible refine Ext.trans ?_ (by assumption)))).mono ?_
  rintro e w4 ⟨rfl, hb4⟩
  obtain ⟨hc4, hf4⟩ := hb4.cells
  clear hc4 hf4
  have qc_0 : w4.cell? ⟨w.heap.size, 0, none⟩ = some (.int .i64 V) := (hb4.cells.1 _ _ (by simp <;> omega)).trans (by simp [go_sem])
  have qc_1 : w4.cell? ⟨w.heap.size, 1, none⟩ = some (.int .i64 W) := (hb4.cells.1 _ _ (by simp <;> omega)).trans (by simp [go_sem])
  have qc_2 : w4.cell? ⟨w.heap.size, 2, none⟩ = some (.int .i64 C) := (hb4.cells.1 _ _ (by simp <;> omega)).trans (by simp [go_sem])
  have qc_3 : w4.cell? ⟨w.heap.size, 3, none⟩ = some (.int .i64 P) := (hb4.cells.1 _ _ (by simp <;> omega)).trans (by simp [go_sem])
  have qc_4 : w4.cell? ⟨w.heap.size, 4, none⟩ = some (.int .u64 (S)) := (hb4.cells.1 _ _ (by simp <;> omega)).trans (by simp [go_sem])
  have qc_5 : w4.cell? ⟨w.heap.size, 5, none⟩ = some (.slice a n cap) := (hb4.cells.1 _ _ (by simp <;> omega)).trans (by simp [go_sem])
  have pc := World.block_lt_of_cell? _ ⟨w.heap.size, 0, none⟩ qc_0
  have rc := Nat.lt_succ_of_lt pc
  go_wp2_with fail
  refine (HCO.out _ (by repeat (first | with_reducible exact Ext.refl _ | with_reducible assumption | with_reducible refine Ext.alloc ?_ _ | with_reducible refine Ext.drew ?_ | with_reducible refine Ext.drewN ?_ _ | with_reducible refine Ext.setCell ?_ (by simp <;> omega) _ | with_reducible refine Ext.trans ?_ (by assumption)))).mono ?_
  rintro e wo ⟨uo, rfl, Oo, Xo⟩
  obtain ⟨bo, fo, cuo, eo, -⟩ := id Oo
  rw [← HN0.out] at eo ⊢
  subst eo
  rw [HLAY.out]
  have Eo : Ext w4 wo := Ext.trans (by repeat (first | with_reducible exact Ext.refl _ | with_reducible assumption | with_reducible refine Ext.alloc ?_ _ | with_reducible refine Ext.drew ?_ | with_reducible refine Ext.drewN ?_ _ | with_reducible refine Ext.setCell ?_ (by simp <;> omega) _ | with_reducible refine Ext.trans ?_ (by assumption))) Xo
  have xo := Ext.trans (show Ext w w4 by repeat (first | with_reducible exact Ext.refl _ | with_reducible assumption | with_reducible refine Ext.alloc ?_ _ | with_reducible refine Ext.drew ?_ | with_reducible refine Ext.drewN ?_ _ | with_reducible refine Ext.setCell ?_ (by simp <;> omega) _ | with_reducible refine Ext.trans ?_ (by assumption))) Eo
  replace qc_0 := Eo.cell qc_0
  replace qc_1 := Eo.cell qc_1
  replace qc_2 := Eo.cell qc_2
  replace qc_3 := Eo.cell qc_3
  replace qc_4 := Eo.cell qc_4
  replace qc_5 := Eo.cell qc_5
  clear Eo
  have HOo := Lib.hid Oo
  clear Xo Oo
  have po := World.block_lt_of_cell? _ ⟨w.heap.size, 0, none⟩ qc_0
  have ro := Nat.lt_succ_of_lt po
  go_wp2_with fail
  refine (HCF.out _).mono ?_
  rintro e wf0 ⟨vr, rfl, Rr, Xr⟩
  obtain ⟨gr, cr, er, hnm⟩ := HNM.out _ _ _ Rr
  subst er
  have HNC := Lib.hid hnm
  have ql_0 : wf0.cell? ⟨wo.heap.size, 0, none⟩ = some (.int .i64 V) := Xr.cell (by simp [go_sem])
  have ql_1 : wf0.cell? ⟨wo.heap.size, 1, none⟩ = some (.int .i64 W) := Xr.cell (by simp [go_sem])
  have ql_2 : wf0.cell? ⟨wo.heap.size, 2, none⟩ = some (.int .i64 C) := Xr.cell (by simp [go_sem])
  have ql_3 : wf0.cell? ⟨wo.heap.size, 3, none⟩ = some (.int .i64 P) := Xr.cell (by simp [go_sem])
  have ql_4 : wf0.cell? ⟨wo.heap.size, 4, none⟩ = some (.int .u64 S) := Xr.cell (by simp [go_sem])
  have ql_5 : wf0.cell? ⟨wo.heap.size, 5, none⟩ = some (.slice (some ⟨bo, 0, none⟩) n n) := Xr.cell (by simp [go_sem])
  have ql_6 : wf0.cell? ⟨wo.heap.size, 6, none⟩ = some (.int .i64 Cu) := Xr.cell (by simp [go_sem])
  have ql_7 : wf0.cell? ⟨wo.heap.size, 7, none⟩ = some (.int .i64 Cl) := Xr.cell (by simp [go_sem])
  have ql_8 : wf0.cell? ⟨wo.heap.size, 8, none⟩ = some (.int .i64 Ti) := Xr.cell (by simp [go_sem])
  have ql_9 : wf0.cell? ⟨wo.heap.size, 9, none⟩ = some (.int .i64 Se) := Xr.cell (by simp [go_sem])
  have ql_10 : wf0.cell? ⟨wo.heap.size, 10, none⟩ = some (.int .i64 Ne) := Xr.cell (by simp [go_sem])
  have ql_11 : wf0.cell? ⟨wo.heap.size, 11, none⟩ = some (.int .i64 Ma) := Xr.cell (by simp [go_sem])
  have ql_12 : wf0.cell? ⟨wo.heap.size, 12, none⟩ = some (.int .i64 Sl) := Xr.cell (by simp [go_sem])
  have ql_13 : wf0.cell? ⟨wo.heap.size, 13, none⟩ = some (.int .i64 m) := Xr.cell (by simp [go_sem])
  replace qc_0 := (Ext.trans ((Ext.refl wo).alloc _) Xr).cell qc_0
  replace qc_1 := (Ext.trans ((Ext.refl wo).alloc _) Xr).cell qc_1
  replace qc_2 := (Ext.trans ((Ext.refl wo).alloc _) Xr).cell qc_2
  replace qc_3 := (Ext.trans ((Ext.refl wo).alloc _) Xr).cell qc_3
  replace qc_4 := (Ext.trans ((Ext.refl wo).alloc _) Xr).cell qc_4
  replace qc_5 := (Ext.trans ((Ext.refl wo).alloc _) Xr).cell qc_5
  have EF : Ext w wf0 := xo.trans (Ext.trans ((Ext.refl wo).alloc _) Xr)
  have HOF := Lib.hid (HOo.out.ext (Ext.trans ((Ext.refl wo).alloc _) Xr))
  clear Xr Rr hnm xo po ro HOo
  have F2 : Hid (∀ w', Ext wf0 w' → Calls Tryd.prog 17 #[.slice (some ⟨gr, 0, none⟩) m cr, .string (⟨#[99, 117, 114, 115, 111, 114]⟩)] w' fun e w'' => e = .returned (.int .i64 (Cu)) ∧ w' = w'') := Lib.hid (fun w' hx => (rFind gr m cr (nmOf 2 0) N w' (by omega) (fun c hc => hx.cell (HNC.out c hc))).mono fun e w'' hh => ⟨by rw [hh.1]; exact congrArg (fun z => Ending.returned (.int .i64 z)) HF2.out, hh.2⟩)
  have F3 : Hid (∀ w', Ext wf0 w' → Calls Tryd.prog 17 #[.slice (some ⟨gr, 0, none⟩) m cr, .string (⟨#[99, 108, 97, 105, 109]⟩)] w' fun e w'' => e = .returned (.int .i64 (Cl)) ∧ w' = w'') := Lib.hid (fun w' hx => (rFind gr m cr (nmOf 3 0) N w' (by omega) (fun c hc => hx.cell (HNC.out c hc))).mono fun e w'' hh => ⟨by rw [hh.1]; exact congrArg (fun z => Ending.returned (.int .i64 z)) HF3.out, hh.2⟩)
  have F4 : Hid (∀ w', Ext wf0 w' → Calls Tryd.prog 17 #[.slice (some ⟨gr, 0, none⟩) m cr, .string (⟨#[116, 105, 99, 107, 101, 116]⟩)] w' fun e w'' => e = .returned (.int .i64 (Ti)) ∧ w' = w'') := Lib.hid (fun w' hx => (rFind gr m cr (nmOf 4 0) N w' (by omega) (fun c hc => hx.cell (HNC.out c hc))).mono fun e w'' hh => ⟨by rw [hh.1]; exact congrArg (fun z => Ending.returned (.int .i64 z)) HF4.out, hh.2⟩)
  have F5 : Hid (∀ w', Ext wf0 w' → Calls Tryd.prog 17 #[.slice (some ⟨gr, 0, none⟩) m cr, .string (⟨#[115, 101, 114, 118, 105, 110, 103]⟩)] w' fun e w'' => e = .returned (.int .i64 (Se)) ∧ w' = w'') := Lib.hid (fun w' hx => (rFind gr m cr (nmOf 5 0) N w' (by omega) (fun c hc => hx.cell (HNC.out c hc))).mono fun e w'' hh => ⟨by rw [hh.1]; exact congrArg (fun z => Ending.returned (.int .i64 z)) HF5.out, hh.2⟩)
  have F6 : Hid (∀ w', Ext wf0 w' → Calls Tryd.prog 17 #[.slice (some ⟨gr, 0, none⟩) m cr, .string (⟨#[110, 101, 120, 116]⟩)] w' fun e w'' => e = .returned (.int .i64 (Ne)) ∧ w' = w'') := Lib.hid (fun w' hx => (rFind gr m cr (nmOf 6 0) N w' (by omega) (fun c hc => hx.cell (HNC.out c hc))).mono fun e w'' hh => ⟨by rw [hh.1]; exact congrArg (fun z => Ending.returned (.int .i64 z)) HF6.out, hh.2⟩)
  have F0 : Hid (∀ w', Ext wf0 w' → Calls Tryd.prog 17 #[.slice (some ⟨gr, 0, none⟩) m cr, .string (⟨#[115, 108, 111, 116, 48]⟩)] w' fun e w'' => e = .returned (.int .i64 (Sl)) ∧ w' = w'') := Lib.hid (fun w' hx => (rFind gr m cr (⟨#[115, 108, 111, 116, 48]⟩) N w' (by omega) (fun c hc => hx.cell (HNC.out c hc))).mono fun e w'' hh => ⟨by rw [hh.1]; exact congrArg (fun z => Ending.returned (.int .i64 z)) (by rw [← nm_slot0]; exact HF0.out), hh.2⟩)
  have F1 : Hid (∀ w', Ext wf0 w' → Calls Tryd.prog 17 #[.slice (some ⟨gr, 0, none⟩) m cr, .string (⟨#[103, 97, 116, 101]⟩ ++ tx (Lib.itoa i))] w' fun e w'' => e = .returned (.int .i64 (plc 0 n i)) ∧ w' = w'') := Lib.hid (fun w' hx => (rFind gr m cr (nmOf 1 i) N w' (by omega) (fun c hc => hx.cell (HNC.out c hc))).mono fun e w'' hh => ⟨by rw [hh.1]; exact congrArg (fun z => Ending.returned (.int .i64 z)) HF1.out, hh.2⟩)
  have F10 : Hid (∀ w', Ext wf0 w' → Calls Tryd.prog 17 #[.slice (some ⟨gr, 0, none⟩) m cr, .string (⟨#[115, 108, 111, 116]⟩ ++ tx (Lib.itoa i))] w' fun e w'' => e = .returned (.int .i64 (plc Sl C i)) ∧ w' = w'') := Lib.hid (fun w' hx => (rFind gr m cr (nmOf 10 i) N w' (by omega) (fun c hc => hx.cell (HNC.out c hc))).mono fun e w'' hh => ⟨by rw [hh.1]; exact congrArg (fun z => Ending.returned (.int .i64 z)) HF10.out, hh.2⟩)
  have CM := Lib.hid (fun (j : Int) (h0 : -9223372036854775808 ≤ j) (h1 : j ≤ 9223372036854775807) w' (hx : Ext wf0 w') => by
    obtain ⟨x7, x8, x9, e7, e8, e9, e3⟩ := HM3.out j
    exact rMark11 V W C P S a n cap gr m cr N j x7 x8 x9 (plc Ma C j) w' (by omega) h0 h1 (fun c hc => hx.cell (HNC.out c hc)) e7 e8 e9 e3)
  have CM0 : Hid (∀ w', Ext wf0 w' → Calls Tryd.prog 19 #[(.agg #[.int .i64 V, .int .i64 W, .int .i64 C, .int .i64 P, .int .u64 (S), .slice a n cap]), .slice (some ⟨gr, 0, none⟩) m cr, .int .i64 0] w' fun e w'' => e = .returned (.int .i64 Ma) ∧ Ext w' w'') := Lib.hid (fun w' hx => (CM.out 0 (by omega) (by omega) w' hx).mono fun e w'' hh => ⟨by rw [hh.1, HP0.out], hh.2⟩)
  have CMi := Lib.hid (fun w' (hx : Ext wf0 w') => CM.out i hi0 hi1 w' hx)
  have CNi := Lib.hid (fun w => rNum6 i w hi0 hi1)
  have CGi := Lib.hid (fun w => lGate V W C P S (some ⟨bo, 0, none⟩) n n Cu Cl Ti Se Ne Ma Sl m i w (by omega))
  have CKi := Lib.hid (fun w => lMark V W C P S (some ⟨bo, 0, none⟩) n n Cu Cl Ti Se Ne Ma Sl m i w (by omega) (by omega) (by omega))
  have CSi := Lib.hid (fun w => lSlot V W C P S (some ⟨bo, 0, none⟩) n n Cu Cl Ti Se Ne Ma Sl m i w (by omega) (by omega) (by omega))
  have hz := itoa_len i hi0 hi1
  clear HF0 HF1 HF2 HF3 HF4 HF5 HF6 HF10 HM3 HP0 CM HNC HNM hl0 hl1 hl2 hl3
  generalize tx (Lib.itoa i) = num at *
  generalize plc 0 n i = pg at *
  generalize plc Sl C i = ps at *
  generalize plc Ma C i = pm at *
  have s1 : (⟨#[103, 97, 116, 101]⟩ : ByteArray).size + num.size ≤ 9223372036854775807 := by have : (⟨#[103, 97, 116, 101]⟩ : ByteArray).size = 4 := rfl; omega
  have s2 : (⟨#[115, 108, 111, 116]⟩ : ByteArray).size + num.size ≤ 9223372036854775807 := by have : (⟨#[115, 108, 111, 116]⟩ : ByteArray).size = 4 := rfl; omega
  go_upto_region 5 with (fail)
  refine wp_region_later (by kernel_rfl) (by kernel_rfl) ?_
  have l_0 := fun (g : Later wf0) => g.ok.cell ql_0
  have l_1 := fun (g : Later wf0) => g.ok.cell ql_1
  have l_2 := fun (g : Later wf0) => g.ok.cell ql_2
  have l_3 := fun (g : Later wf0) => g.ok.cell ql_3
  have l_4 := fun (g : Later wf0) => g.ok.cell ql_4
  have l_5 := fun (g : Later wf0) => g.ok.cell ql_5
  have l_6 := fun (g : Later wf0) => g.ok.cell ql_6
  have l_7 := fun (g : Later wf0) => g.ok.cell ql_7
  have l_8 := fun (g : Later wf0) => g.ok.cell ql_8
  have l_9 := fun (g : Later wf0) => g.ok.cell ql_9
  have l_10 := fun (g : Later wf0) => g.ok.cell ql_10
  have l_11 := fun (g : Later wf0) => g.ok.cell ql_11
  have l_12 := fun (g : Later wf0) => g.ok.cell ql_12
  have l_13 := fun (g : Later wf0) => g.ok.cell ql_13
  repeat (go_big_quiet_step ((fail)))
  go_big_quiet_step ((go_at_call 17; exact laterS (F2.out _ (Later.ok _))))
  repeat (go_big_quiet_step ((fail)))
  go_big_quiet_step ((go_at_call 17; exact laterS (F3.out _ (Later.ok _))))
  repeat (go_big_quiet_step ((fail)))
  go_big_quiet_step ((go_at_call 17; exact laterS (F4.out _ (Later.ok _))))
  repeat (go_big_quiet_step ((fail)))
  go_big_quiet_step ((go_at_call 17; exact laterS (F5.out _ (Later.ok _))))
  repeat (go_big_quiet_step ((fail)))
  go_big_quiet_step ((go_at_call 17; exact laterS (F6.out _ (Later.ok _))))
  repeat (go_big_quiet_step ((fail)))
  refine wpQuiet_nil ?_
  intro w3 hl3
  have hb3 := laters_ext hl3
  clear hl3 l_0 l_1 l_2 l_3 l_4 l_5 l_6 l_7 l_8 l_9 l_10 l_11 l_12 l_13
  replace ql_0 := hb3.cell ql_0
  replace ql_1 := hb3.cell ql_1
  replace ql_2 := hb3.cell ql_2
  replace ql_3 := hb3.cell ql_3
  replace ql_4 := hb3.cell ql_4
  replace ql_5 := hb3.cell ql_5
  replace ql_6 := hb3.cell ql_6
  replace ql_7 := hb3.cell ql_7
  replace ql_8 := hb3.cell ql_8
  replace ql_9 := hb3.cell ql_9
  replace ql_10 := hb3.cell ql_10
  replace ql_11 := hb3.cell ql_11
  replace ql_12 := hb3.cell ql_12
  replace ql_13 := hb3.cell ql_13
  replace qc_0 := hb3.cell qc_0
  replace qc_1 := hb3.cell qc_1
  replace qc_2 := hb3.cell qc_2
  replace qc_3 := hb3.cell qc_3
  replace qc_4 := hb3.cell qc_4
  replace qc_5 := hb3.cell qc_5
  go_wp2_with fail
  refine (CNi.out _).mono ?_
  rintro e w4 ⟨rfl, X4⟩
  replace ql_0 := X4.cell ql_0
  replace ql_1 := X4.cell ql_1
  replace ql_2 := X4.cell ql_2
  replace ql_3 := X4.cell ql_3
  replace ql_4 := X4.cell ql_4
  replace ql_5 := X4.cell ql_5
  replace ql_6 := X4.cell ql_6
  replace ql_7 := X4.cell ql_7
  replace ql_8 := X4.cell ql_8
  replace ql_9 := X4.cell ql_9
  replace ql_10 := X4.cell ql_10
  replace ql_11 := X4.cell ql_11
  replace ql_12 := X4.cell ql_12
  replace ql_13 := X4.cell ql_13
  replace qc_0 := X4.cell qc_0
  replace qc_1 := X4.cell qc_1
  replace qc_2 := X4.cell qc_2
  replace qc_3 := X4.cell qc_3
  replace qc_4 := X4.cell qc_4
  replace qc_5 := X4.cell qc_5
  have E4 := hb3.trans X4
  clear hb3 X4
  go_upto_region 8 with (fail)
  refine wp_region_later (by kernel_rfl) (by kernel_rfl) ?_
  have l_0 := fun (g : Later w4) => g.ok.cell ql_0
  have l_1 := fun (g : Later w4) => g.ok.cell ql_1
  have l_2 := fun (g : Later w4) => g.ok.cell ql_2
  have l_3 := fun (g : Later w4) => g.ok.cell ql_3
  have l_4 := fun (g : Later w4) => g.ok.cell ql_4
  have l_5 := fun (g : Later w4) => g.ok.cell ql_5
  have l_6 := fun (g : Later w4) => g.ok.cell ql_6
  have l_7 := fun (g : Later w4) => g.ok.cell ql_7
  have l_8 := fun (g : Later w4) => g.ok.cell ql_8
  have l_9 := fun (g : Later w4) => g.ok.cell ql_9
  have l_10 := fun (g : Later w4) => g.ok.cell ql_10
  have l_11 := fun (g : Later w4) => g.ok.cell ql_11
  have l_12 := fun (g : Later w4) => g.ok.cell ql_12
  have l_13 := fun (g : Later w4) => g.ok.cell ql_13
  have c_0 := fun (g : Later w4) => g.ok.cell qc_0
  have c_1 := fun (g : Later w4) => g.ok.cell qc_1
  have c_2 := fun (g : Later w4) => g.ok.cell qc_2
  have c_3 := fun (g : Later w4) => g.ok.cell qc_3
  have c_4 := fun (g : Later w4) => g.ok.cell qc_4
  have c_5 := fun (g : Later w4) => g.ok.cell qc_5
  repeat (go_big_quiet_step ((fail)))
  go_big_quiet_step ((go_at_call 19; exact laterC (CM0.out _ (E4.trans (Later.ok _)))))
  repeat (go_big_quiet_step ((fail)))
  go_big_quiet_step ((go_at_call 17; exact laterS (F0.out _ (E4.trans (Later.ok _)))))
  repeat (go_big_quiet_step ((fail)))
  go_big_quiet_step ((go_at_call 20; exact laterC (CGi.out _)))
  repeat (go_big_quiet_step ((fail)))
  go_big_quiet_step ((go_at_call 17; exact laterS (F1.out _ (E4.trans (Later.ok _)))))
  repeat (go_big_quiet_step ((fail)))
  refine wpQuiet_nil ?_
  intro w5 hl5
  have hb5 := laters_ext hl5
  clear hl5 l_0 l_1 l_2 l_3 l_4 l_5 l_6 l_7 l_8 l_9 l_10 l_11 l_12 l_13 c_0 c_1 c_2 c_3 c_4 c_5
  replace ql_0 := hb5.cell ql_0
  replace ql_1 := hb5.cell ql_1
  replace ql_2 := hb5.cell ql_2
  replace ql_3 := hb5.cell ql_3
  replace ql_4 := hb5.cell ql_4
  replace ql_5 := hb5.cell ql_5
  replace ql_6 := hb5.cell ql_6
  replace ql_7 := hb5.cell ql_7
  replace ql_8 := hb5.cell ql_8
  replace ql_9 := hb5.cell ql_9
  replace ql_10 := hb5.cell ql_10
  replace ql_11 := hb5.cell ql_11
  replace ql_12 := hb5.cell ql_12
  replace ql_13 := hb5.cell ql_13
  replace qc_0 := hb5.cell qc_0
  replace qc_1 := hb5.cell qc_1
  replace qc_2 := hb5.cell qc_2
  replace qc_3 := hb5.cell qc_3
  replace qc_4 := hb5.cell qc_4
  replace qc_5 := hb5.cell qc_5
  have E5 := E4.trans hb5
  have EW5 := EF.trans E5
  clear hb5 E4
  go_upto_region 10 with (fail)
  refine wp_region_later (by kernel_rfl) (by kernel_rfl) ?_
  have l_0 := fun (g : Later w5) => g.ok.cell ql_0
  have l_1 := fun (g : Later w5) => g.ok.cell ql_1
  have l_2 := fun (g : Later w5) => g.ok.cell ql_2
  have l_3 := fun (g : Later w5) => g.ok.cell ql_3
  have l_4 := fun (g : Later w5) => g.ok.cell ql_4
  have l_5 := fun (g : Later w5) => g.ok.cell ql_5
  have l_6 := fun (g : Later w5) => g.ok.cell ql_6
  have l_7 := fun (g : Later w5) => g.ok.cell ql_7
  have l_8 := fun (g : Later w5) => g.ok.cell ql_8
  have l_9 := fun (g : Later w5) => g.ok.cell ql_9
  have l_10 := fun (g : Later w5) => g.ok.cell ql_10
  have l_11 := fun (g : Later w5) => g.ok.cell ql_11
  have l_12 := fun (g : Later w5) => g.ok.cell ql_12
  have l_13 := fun (g : Later w5) => g.ok.cell ql_13
  have c_0 := fun (g : Later w5) => g.ok.cell qc_0
  have c_1 := fun (g : Later w5) => g.ok.cell qc_1
  have c_2 := fun (g : Later w5) => g.ok.cell qc_2
  have c_3 := fun (g : Later w5) => g.ok.cell qc_3
  have c_4 := fun (g : Later w5) => g.ok.cell qc_4
  have c_5 := fun (g : Later w5) => g.ok.cell qc_5
  repeat (go_big_quiet_step ((fail)))
  go_big_quiet_step ((go_at_call 21; exact laterC (CKi.out _)))
  repeat (go_big_quiet_step ((fail)))
  go_big_quiet_step ((go_at_call 19; exact laterC (CMi.out _ (E5.trans (Later.ok _)))))
  repeat (go_big_quiet_step ((fail)))
  go_big_quiet_step ((go_at_call 22; exact laterC (CSi.out _)))
  repeat (go_big_quiet_step ((fail)))
  go_big_quiet_step ((go_at_call 17; exact laterS (F10.out _ (E5.trans (Later.ok _)))))
  repeat (go_big_quiet_step ((fail)))
  go_big_quiet_step ((go_at_call 8; exact laterC (CV.out _ (EW5.trans (Later.ok _)))))
  repeat (go_big_quiet_step ((fail)))
  refine wpQuiet_nil ?_
  intro w6 hl6
  have hb6 := laters_ext hl6
  clear hl6 l_0 l_1 l_2 l_3 l_4 l_5 l_6 l_7 l_8 l_9 l_10 l_11 l_12 l_13 c_0 c_1 c_2 c_3 c_4 c_5
  have E6 := EW5.trans hb6
  go_wp2
  go_ret
  exact ⟨rfl, Ext.below E6⟩
end Go.Proofs.YtaimmpcijdpgdaaDoor

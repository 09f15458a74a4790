/- The walk of LayoutTells. -/
import Derived.Test.YtaimmpcijdpgdaaDoorLawLyF
import Derived.Test.YtaimmpcijdpgdaaDoorLawLyN
namespace Go.Proofs.YtaimmpcijdpgdaaDoor
open Go.RowKit
set_option linter.unusedVariables false
set_option linter.unusedSimpArgs false
set_option maxHeartbeats 4000000
attribute [local go_sem] later_cell later_frozen later_const
theorem kind_at {V W C P S : Int} {ups : List (List Int)} (ok : Ok V W C P ups) (a : Option Addr) (cap : Nat) (w : World) (E : Parts w) (c : Int) :
    Calls Tryd.prog 11 #[layV V W C P S (.slice a ups.length cap) ups.length, .int .i64 c] w fun e w' => e = .returned (.int .i64 (pKind (useN V ups.length C c).1.toNat)) ∧ Ext w w' := by
  have hb := num_bounds (numOk ok)
  exact lKind V W C P S a ups.length cap (nCu V ups.length) (nCl V ups.length) (nTi V ups.length) (nSe V ups.length) (nNe V ups.length) (nMa V ups.length) (nSl V ups.length C) (nCe V ups.length C) c w (by omega) (by omega) (by omega) (by omega) E
theorem name_out {V W C P S : Int} {ups : List (List Int)} (ok : Ok V W C P ups) (a : Option Addr) (cap : Nat) (w : World) (E : LEnv w) (c : Int) (hc : c < 0 ∨ nCe V ups.length C ≤ c) :
    Calls Tryd.prog 14 #[layV V W C P S (.slice a ups.length cap) ups.length, .int .i64 c] w fun e w' => e = .returned (.string ⟨#[]⟩) ∧ Ext w w' := by
  have hb := num_bounds (numOk ok)
  exact lName V W C P S a ups.length cap (nCu V ups.length) (nCl V ups.length) (nTi V ups.length) (nSe V ups.length) (nNe V ups.length) (nMa V ups.length) (nSl V ups.length C) (nCe V ups.length C) c 0 0 w (by omega) (by omega) (by omega) (by omega) (use_out V ups.length C c hc) (by omega) (by omega) (by omega) E
theorem first_at {V W C P S : Int} {ups : List (List Int)} (ok : Ok V W C P ups) (a : Option Addr) (cap : Nat) (w : World) (hL : ListsV w (.slice a ups.length cap) ups) (hll : ∀ l ∈ ups, l.length ≤ 1000000) (hn : ups.length ≤ 1000000) (hg : ckC V W C P ups = 0) (hS0 : 0 ≤ S) (hS1 : S < 18446744073709551616) (c : Int) :
    Calls Tryd.prog 15 #[layV V W C P S (.slice a ups.length cap) ups.length, .int .i64 c] w fun e w' => e = .returned (.int .u64 (fst W C S (useN V ups.length C c).1 (useN V ups.length C c).2)) ∧ Ext w w' := by
  have hok := numOk ok
  have hb := num_bounds hok
  obtain ⟨⟨k, i⟩, e⟩ : ∃ p, p = useN V ups.length C c := ⟨_, rfl⟩
  have hi : k = 7 ∨ k = 8 ∨ k = 9 → 0 ≤ i ∧ i < C := by
    intro hk
    by_cases hc : c < 0 ∨ nCe V ups.length C ≤ c
    · rw [use_out V ups.length C c hc] at e
      cases e
      omega
    · obtain ⟨a1, a2, a3, a4, a5, a6, a7⟩ := use_in hok (by omega) (by omega) e.symm
      exact ⟨a3, a6 hk⟩
  rw [← e]
  rcases ok.wd with rfl | rfl
  · exact lFirst32 V C P S a cap ups (nCu V ups.length) (nCl V ups.length) (nTi V ups.length) (nSe V ups.length) (nNe V ups.length) (nMa V ups.length) (nSl V ups.length C) (nCe V ups.length C) c k i w hL hll hn hg hS0 hS1 (by omega) (by omega) (by omega) (by omega) e.symm hi
  · exact lFirst64 V C P S a cap ups (nCu V ups.length) (nCl V ups.length) (nTi V ups.length) (nSe V ups.length) (nNe V ups.length) (nMa V ups.length) (nSl V ups.length C) (nCe V ups.length C) c k i w hL hll hn hg hS0 hS1 (by omega) (by omega) (by omega) (by omega) e.symm hi
set_option maxRecDepth 100000 in
theorem layoutTells_walk (V W C P S : Int) (a : Option Addr) (len cap : Nat) (ups : List (List Int)) (t : Int) (w : World) (wf : (Lit.int .i64 V).wf = true ∧ (Lit.int .i64 W).wf = true ∧ (Lit.int .i64 C).wf = true ∧ (Lit.int .i64 P).wf = true ∧ (Lit.int .u64 S).wf = true) (h : Came w a len cap ups) (wi : (Lit.int .i64 t).wf = true) (E : LEnv w) :
    Calls Tryd.prog 3 #[(.agg #[.int .i64 V, .int .i64 W, .int .i64 C, .int .i64 P, .int .u64 (S), .slice a len cap]), .int .i64 t] w fun e w' => e = .returned (.bool true) ∧ Below w.heap.size w w' := by
  clear wi
  have hS := wf_u64 wf.2.2.2.2
  obtain ⟨hS0, hS1⟩ := hS
  clear wf
  have CL := fun w' (hx : Ext w w') => long _ ups w' (h.l.ext hx) (by rw [h.n]; exact h.m) (fun l hl => (h.each l hl).1)
  have CV := Lib.hid (fun w' (hx : Ext w w') => live11 w' (E.ext hx))
  cases hb : longB ups
  case true =>
    rw [hb] at CL
    have HCL := Lib.hid CL
    clear CL h hb E
    go_enter Tryd.func3, Tryd.ntmps3
    go_wp2_with fail
    refine (HCL.out _ (by repeat (first | with_reducible exact Ext.refl _ | with_reducible assumption | with_reducible refine Ext.alloc ?_ _ | with_reducible refine Ext.drew ?_ | with_reducible refine Ext.drewN ?_ _ | with_reducible refine Ext.setCell ?_ (by simp <;> omega) _ | with_reducible refine Ext.trans ?_ (by assumption)))).mono ?_
    rintro e w' ⟨rfl, rfl⟩
    go_wp2_with fail
    refine (CV.out _ (by repeat (first | with_reducible exact Ext.refl _ | with_reducible assumption | with_reducible refine Ext.alloc ?_ _ | with_reducible refine Ext.drew ?_ | with_reducible refine Ext.drewN ?_ _ | with_reducible refine Ext.setCell ?_ (by simp <;> omega) _ | with_reducible refine Ext.trans ?_ (by assumption)))).mono ?_
    rintro e w1 ⟨rfl, hb1⟩
    obtain ⟨hc1, hf1⟩ := hb1.cells
    go_wp2
    go_ret
    refine ⟨rfl, Ext.below ?_⟩
    repeat (first | with_reducible exact Ext.refl _ | with_reducible assumption | with_reducible refine Ext.alloc ?_ _ | with_reducible refine Ext.drew ?_ | with_reducible refine Ext.drewN ?_ _ | with_reducible refine Ext.setCell ?_ (by simp <;> omega) _ | with_reducible refine Ext.trans ?_ (by assumption))
  rw [hb] at CL
  have HCL := Lib.hid CL
  obtain ⟨hll, hn⟩ := came_small h hb
  obtain rfl := h.n
  have CR : True := trivial
  by_cases hg : ckC V W C P ups = 0
  case neg =>
    have CO := Lib.hid (fun w' (hx : Ext w w') => lOf_no V W C P S _ ups w' (h.l.ext hx) hll hn hg)
    have CK := Lib.hid (fun w' (hx : Ext w w') => r10Chk V W C P S _ ups w' (h.l.ext hx) hll hn)
    have CZ := Lib.hid (fun w' (hx : Ext w w') => lKind_zero t w' (E.parts.ext hx))
    have kg : (ckC V W C P ups == 0) = false := by simpa using hg
    generalize ckC V W C P ups = g at *
    clear CL h hb E hll hg
    generalize ups.length = n at *
    go_enter Tryd.func3, Tryd.ntmps3
    go_wp2_with fail
    refine (HCL.out _ (by repeat (first | with_reducible exact Ext.refl _ | with_reducible assumption | with_reducible refine Ext.alloc ?_ _ | with_reducible refine Ext.drew ?_ | with_reducible refine Ext.drewN ?_ _ | with_reducible refine Ext.setCell ?_ (by simp <;> omega) _ | with_reducible refine Ext.trans ?_ (by assumption)))).mono ?_
    rintro e w' ⟨rfl, rfl⟩
    go_wp2_with fail
    refine (CO.out _ (by repeat (first | with_reducible exact Ext.refl _ | with_reducible assumption | with_reducible refine Ext.alloc ?_ _ | with_reducible refine Ext.drew ?_ | with_reducible refine Ext.drewN ?_ _ | with_reducible refine Ext.setCell ?_ (by simp <;> omega) _ | with_reducible refine Ext.trans ?_ (by assumption)))).mono ?_
    rintro e w2 ⟨rfl, hb2⟩
    obtain ⟨hc2, hf2⟩ := hb2.cells
    clear hc2 hf2
    have qc_0 : w2.cell? ⟨w.heap.size, 0, none⟩ = some (.int .i64 V) := (hb2.cells.1 _ _ (by simp <;> omega)).trans (by simp [go_sem])
    have qc_1 : w2.cell? ⟨w.heap.size, 1, none⟩ = some (.int .i64 W) := (hb2.cells.1 _ _ (by simp <;> omega)).trans (by simp [go_sem])
    have qc_2 : w2.cell? ⟨w.heap.size, 2, none⟩ = some (.int .i64 C) := (hb2.cells.1 _ _ (by simp <;> omega)).trans (by simp [go_sem])
    have qc_3 : w2.cell? ⟨w.heap.size, 3, none⟩ = some (.int .i64 P) := (hb2.cells.1 _ _ (by simp <;> omega)).trans (by simp [go_sem])
    have qc_4 : w2.cell? ⟨w.heap.size, 4, none⟩ = some (.int .u64 (S)) := (hb2.cells.1 _ _ (by simp <;> omega)).trans (by simp [go_sem])
    have qc_5 : w2.cell? ⟨w.heap.size, 5, none⟩ = some (.slice a n cap) := (hb2.cells.1 _ _ (by simp <;> omega)).trans (by simp [go_sem])
    have pc := World.block_lt_of_cell? _ ⟨w.heap.size, 0, none⟩ qc_0
    have rc := Nat.lt_succ_of_lt pc
    go_wp2_with fail
    have E0 : Ext w w2 := by repeat (first | with_reducible exact Ext.refl _ | with_reducible assumption | with_reducible refine Ext.alloc ?_ _ | with_reducible refine Ext.drew ?_ | with_reducible refine Ext.drewN ?_ _ | with_reducible refine Ext.setCell ?_ (by simp <;> omega) _ | with_reducible refine Ext.trans ?_ (by assumption))
    refine (CK.out _ (E0.alloc _)).mono ?_
    rintro e wk ⟨rfl, Xk⟩
    have ql_0 : wk.cell? ⟨w2.heap.size, 0, none⟩ = some (.int .i64 0) := Xk.cell (by simp [go_sem])
    have ql_1 : wk.cell? ⟨w2.heap.size, 1, none⟩ = some (.int .i64 0) := Xk.cell (by simp [go_sem])
    have ql_2 : wk.cell? ⟨w2.heap.size, 2, none⟩ = some (.int .i64 0) := Xk.cell (by simp [go_sem])
    have ql_3 : wk.cell? ⟨w2.heap.size, 3, none⟩ = some (.int .i64 0) := Xk.cell (by simp [go_sem])
    have ql_4 : wk.cell? ⟨w2.heap.size, 4, none⟩ = some (.int .u64 0) := Xk.cell (by simp [go_sem])
    have ql_5 : wk.cell? ⟨w2.heap.size, 5, none⟩ = some (.slice none 0 0) := Xk.cell (by simp [go_sem])
    have ql_6 : wk.cell? ⟨w2.heap.size, 6, none⟩ = some (.int .i64 0) := Xk.cell (by simp [go_sem])
    have ql_7 : wk.cell? ⟨w2.heap.size, 7, none⟩ = some (.int .i64 0) := Xk.cell (by simp [go_sem])
    have ql_8 : wk.cell? ⟨w2.heap.size, 8, none⟩ = some (.int .i64 0) := Xk.cell (by simp [go_sem])
    have ql_9 : wk.cell? ⟨w2.heap.size, 9, none⟩ = some (.int .i64 0) := Xk.cell (by simp [go_sem])
    have ql_10 : wk.cell? ⟨w2.heap.size, 10, none⟩ = some (.int .i64 0) := Xk.cell (by simp [go_sem])
    have ql_11 : wk.cell? ⟨w2.heap.size, 11, none⟩ = some (.int .i64 0) := Xk.cell (by simp [go_sem])
    have ql_12 : wk.cell? ⟨w2.heap.size, 12, none⟩ = some (.int .i64 0) := Xk.cell (by simp [go_sem])
    have ql_13 : wk.cell? ⟨w2.heap.size, 13, none⟩ = some (.int .i64 0) := Xk.cell (by simp [go_sem])
    have Ek := (E0.alloc _).trans Xk
    clear Xk E0
    go_wp2_with fail
    refine (CZ.out _ Ek).mono ?_
    rintro e wm ⟨rfl, Xm⟩
    go_wp2_with fail
    refine (CV.out _ (Ek.trans Xm)).mono ?_
    rintro e wn ⟨rfl, Xn⟩
    go_wp2
    go_ret
    exact ⟨rfl, Ext.below ((Ek.trans Xm).trans Xn)⟩
  have ok := ok_iff.1 hg
  have hok := numOk ok
  have hbd := num_bounds hok
  have h6 := ok.rt.six
  have hc64 := ok.c64
  have hc2 := ok.c2
  obtain ⟨n, hn0⟩ : ∃ n, n = ups.length := ⟨_, rfl⟩
  obtain ⟨m, hm⟩ : ∃ m : Nat, (m : Int) = nCe V n C := ⟨(nCe V n C).toNat, by rw [hn0]; omega⟩
  have hm0 : 0 < m := by rw [hn0] at hm; omega
  have CO := fun w' (hx : Ext w w') => lOf_ok V W C P S _ ups w' (h.l.ext hx) hll hn hg
  have CF := fun w' => rOf11 V W C P S a ups.length cap w' ok.v1 ok.v5 ok.wd ok.rc ok.c64 hS0 h6
  have CN := fun aq cq w' (hx : Ext w w') (c : Nat) (hc : (c : Int) < nCe V ups.length C) => name_at (S := S) ok aq cq w' (E.ext hx) c hc
  have hlen : (listD V W C S n).length = m := by have := listD_len (V := V) (n := n) (C := C) (by rw [hn0]; exact hok) W S (N := n) rfl; omega
  have HOWN : Hid (∀ c, c < m → findN (nmC V n C) (nmC V n C c) m = some c) := Lib.hid (fun c hc => find_own (by rw [hn0]; exact hok) hm hc)
  have HCELL : Hid (∀ (k : Nat) (i : Int), 1 ≤ k → k ≤ 10 → (pMany k = false → i = 0) → fnd (findN (nmC V n C) (nmOf k i) m) = cellOf V n C k i) := Lib.hid (fun k i h1 h2 h3 => by
    rw [find_cell (by rw [hn0]; exact hok) hm h1 h2 h3]
    by_cases hq : cellOf V n C k i = -1
    · rw [if_pos hq, hq]; rfl
    · rw [if_neg hq]
      have := cell_lt (V := V) (n := n) (C := C) (by rw [hn0]; exact hok) (k := k) (i := i) (by omega) (by omega) (by simpa using h3)
      show (((cellOf V n C k i).toNat : Nat) : Int) = _
      omega)
  have HROW : Hid (∀ (W0 : World) (b0 : Nat) (v : Value), RD W0 b0 v (listD V W C S n) → ∃ g cp, v = .slice (some ⟨g, 0, none⟩) m cp ∧ ∀ c, c < m → W0.cell? ⟨g, c * 3, none⟩ = some (.string (nmC V n C c)) ∧ W0.cell? ⟨g, c * 3 + 1, none⟩ = some (.int .i64 (pKind (useN V n C c).1.toNat)) ∧ W0.cell? ⟨g, c * 3 + 2, none⟩ = some (.int .u64 (fst W C S (useN V n C c).1 (useN V n C c).2))) := Lib.hid (fun W0 b0 v hR => by
    obtain ⟨g, cp, hv, _, _, hcc⟩ := hR.form (by omega)
    rw [hlen] at hv
    refine ⟨g, cp, hv, fun c hc => ?_⟩
    obtain ⟨g', cp', hv', q0, q1, q2⟩ := hR.cell (i := c) (by omega)
    rw [hv] at hv'
    cases hv'
    obtain ⟨m0, m1, m2⟩ := mem_names (V := V) (W := W) (C := C) (S := S) (n := n) (by rw [hn0]; exact hok) rfl (c := c) (by omega) (List.getElem?_eq_getElem (by omega))
    rw [m0] at q0
    rw [m1] at q1
    rw [m2] at q2
    exact ⟨q0, q1, q2⟩)
  rw [← hn0] at CO CF CN
  obtain ⟨Cu, hCu⟩ : ∃ x, x = nCu V n := ⟨_, rfl⟩
  obtain ⟨Cl, hCl⟩ : ∃ x, x = nCl V n := ⟨_, rfl⟩
  obtain ⟨Ti, hTi⟩ : ∃ x, x = nTi V n := ⟨_, rfl⟩
  obtain ⟨Se, hSe⟩ : ∃ x, x = nSe V n := ⟨_, rfl⟩
  obtain ⟨Ne, hNe⟩ : ∃ x, x = nNe V n := ⟨_, rfl⟩
  obtain ⟨Ma, hMa⟩ : ∃ x, x = nMa V n := ⟨_, rfl⟩
  obtain ⟨Sl, hSl⟩ : ∃ x, x = nSl V n C := ⟨_, rfl⟩
  have hLay : ∀ u, layV V W C P S u n = (.agg #[.int .i64 V, .int .i64 W, .int .i64 C, .int .i64 P, .int .u64 S, u, .int .i64 Cu, .int .i64 Cl, .int .i64 Ti, .int .i64 Se, .int .i64 Ne, .int .i64 Ma, .int .i64 Sl, .int .i64 m]) := fun u => by unfold layV; rw [hCu, hCl, hTi, hSe, hNe, hMa, hSl, hm]
  simp only [hLay] at CN
  have HLAY := Lib.hid hLay
  have hm500 : m ≤ 500 := by rw [hn0] at hm; omega
  have HLIM : Hid (0 ≤ Sl ∧ Sl ≤ 500 ∧ -1 ≤ Ma ∧ Ma ≤ 500) := Lib.hid (by rw [hSl, hMa, hn0]; omega)
  have hokT : NumOk V n C := by rw [hn0]; exact hok
  have CK := fun aq cq w' (hx : Ext w w') (c : Int) => kind_at (S := S) ok aq cq w' (E.parts.ext hx) c
  have CNO := fun aq cq w' (hx : Ext w w') (c : Int) (hc : c < 0 ∨ nCe V ups.length C ≤ c) => name_out (S := S) ok aq cq w' (E.ext hx) c hc
  have CFT := fun aq cq w' (hL : ListsV w' (.slice aq ups.length cq) ups) (c : Int) => first_at (S := S) ok aq cq w' hL hll hn hg hS0 hS1 c
  have CSM := fun u u' w' (h1 : ListsV w' u ups) (h2 : ListsV w' u' ups) => rSame V W C P S u u' ups w' h1 h2 hn hll
  have CCK := fun w' (hx : Ext w w') => r10Chk V W C P S _ ups w' (h.l.ext hx) hll hn
  rw [hg] at CCK
  have HLL := Lib.hid (fun w' (hx : Ext w w') => h.l.ext hx)
  rw [← hn0] at CK CNO CFT CCK HLL
  simp only [hLay] at CK CNO CFT
  rw [← hm] at CNO
  have HCK := Lib.hid CK
  have HCNO := Lib.hid CNO
  have HCFT := Lib.hid CFT
  have HCSM := Lib.hid CSM
  have HCCK := Lib.hid CCK
  have HOUT : Hid (∀ c : Int, c < 0 ∨ (m : Int) ≤ c → useN V n C c = (0, 0)) := Lib.hid (fun c hc => use_out V n C c (by rw [← hm]; exact hc))
  clear CK CNO CFT CSM CCK
  have HCO := Lib.hid CO
  have HCF := Lib.hid CF
  rw [← hm] at CN
  have CFI := Lib.hid (fun aq cq (x : ByteArray) w' (hx : Ext w w') => lFind V W C P S aq n cq Cu Cl Ti Se Ne Ma Sl m x (nmC V n C) w' (by omega) (fun c hc w2 hx2 => CN aq cq w2 (hx.trans hx2) c (by omega)))
  have HCN := Lib.hid (fun aq cq w' (hx : Ext w w') (c : Nat) (hc : c < m) => CN aq cq w' hx c (by omega))
  have HN0 := Lib.hid hn0
  have HLEN := Lib.hid hlen
  clear CL CR CO CF CN h hb E hll hg ok hok hbd hn hlen hLay hCu hCl hTi hSe hNe hMa hSl hm hokT hS0 hS1 h6 hc64 hc2
  rw [← hn0] at HCL ⊢
  clear hn0
  generalize listD V W C S n = LD at *
  clear HCELL HOWN CFI
  have HNM := HROW
  clear HROW
  generalize hfu : useN V n C = U at *
  have HCNm : Hid (∀ aq cq w', Ext w w' → ∀ c : Nat, c < m → Calls Tryd.prog 14 #[(.agg #[.int .i64 V, .int .i64 W, .int .i64 C, .int .i64 P, .int .u64 S, .slice aq n cq, .int .i64 Cu, .int .i64 Cl, .int .i64 Ti, .int .i64 Se, .int .i64 Ne, .int .i64 Ma, .int .i64 Sl, .int .i64 m]), .int .i64 c] w' fun e w'' => e = .returned (.string (nmC V n C c)) ∧ Ext w' w'') := HCN
  clear HCN hfu
  generalize nmC V n C = N at *
  go_enter Tryd.func3, Tryd.ntmps3
  go_wp2_with fail
  refine (HCL.out _ (by repeat (first | with_reducible exact Ext.refl _ | with_reducible assumption | with_reducible refine Ext.alloc ?_ _ | with_reducible refine Ext.drew ?_ | with_reducible refine Ext.drewN ?_ _ | with_reducible refine Ext.setCell ?_ (by simp <;> omega) _ | with_reducible refine Ext.trans ?_ (by assumption)))).mono ?_
  rintro e w' ⟨rfl, rfl⟩
  go_wp2_with fail
  refine (HCO.out _ ((Ext.refl w).alloc _)).mono ?_
  rintro e wo ⟨uo, rfl, Oo, Xo⟩
  obtain ⟨bo, fo, cuo, eo, -⟩ := id Oo
  rw [← HN0.out] at eo ⊢
  subst eo
  rw [HLAY.out]
  have qc_0 : wo.cell? ⟨w.heap.size, 0, none⟩ = some (.int .i64 V) := Xo.cell (by simp [go_sem])
  have qc_1 : wo.cell? ⟨w.heap.size, 1, none⟩ = some (.int .i64 W) := Xo.cell (by simp [go_sem])
  have qc_2 : wo.cell? ⟨w.heap.size, 2, none⟩ = some (.int .i64 C) := Xo.cell (by simp [go_sem])
  have qc_3 : wo.cell? ⟨w.heap.size, 3, none⟩ = some (.int .i64 P) := Xo.cell (by simp [go_sem])
  have qc_4 : wo.cell? ⟨w.heap.size, 4, none⟩ = some (.int .u64 S) := Xo.cell (by simp [go_sem])
  have qc_5 : wo.cell? ⟨w.heap.size, 5, none⟩ = some (.slice a n cap) := Xo.cell (by simp [go_sem])
  have xo : Ext w wo := Ext.trans ((Ext.refl w).alloc _) Xo
  have po := World.block_lt_of_cell? _ ⟨w.heap.size, 0, none⟩ qc_0
  have ro := Nat.lt_succ_of_lt po
  go_wp2_with fail
  refine (HCCK.out _ (xo.alloc _)).mono ?_
  rintro e wp ⟨rfl, Xp⟩
  have ql_0 : wp.cell? ⟨wo.heap.size, 0, none⟩ = some (.int .i64 V) := Xp.cell (by simp [go_sem])
  have ql_1 : wp.cell? ⟨wo.heap.size, 1, none⟩ = some (.int .i64 W) := Xp.cell (by simp [go_sem])
  have ql_2 : wp.cell? ⟨wo.heap.size, 2, none⟩ = some (.int .i64 C) := Xp.cell (by simp [go_sem])
  have ql_3 : wp.cell? ⟨wo.heap.size, 3, none⟩ = some (.int .i64 P) := Xp.cell (by simp [go_sem])
  have ql_4 : wp.cell? ⟨wo.heap.size, 4, none⟩ = some (.int .u64 S) := Xp.cell (by simp [go_sem])
  have ql_5 : wp.cell? ⟨wo.heap.size, 5, none⟩ = some (.slice (some ⟨bo, 0, none⟩) n n) := Xp.cell (by simp [go_sem])
  have ql_6 : wp.cell? ⟨wo.heap.size, 6, none⟩ = some (.int .i64 Cu) := Xp.cell (by simp [go_sem])
  have ql_7 : wp.cell? ⟨wo.heap.size, 7, none⟩ = some (.int .i64 Cl) := Xp.cell (by simp [go_sem])
  have ql_8 : wp.cell? ⟨wo.heap.size, 8, none⟩ = some (.int .i64 Ti) := Xp.cell (by simp [go_sem])
  have ql_9 : wp.cell? ⟨wo.heap.size, 9, none⟩ = some (.int .i64 Se) := Xp.cell (by simp [go_sem])
  have ql_10 : wp.cell? ⟨wo.heap.size, 10, none⟩ = some (.int .i64 Ne) := Xp.cell (by simp [go_sem])
  have ql_11 : wp.cell? ⟨wo.heap.size, 11, none⟩ = some (.int .i64 Ma) := Xp.cell (by simp [go_sem])
  have ql_12 : wp.cell? ⟨wo.heap.size, 12, none⟩ = some (.int .i64 Sl) := Xp.cell (by simp [go_sem])
  have ql_13 : wp.cell? ⟨wo.heap.size, 13, none⟩ = some (.int .i64 m) := Xp.cell (by simp [go_sem])
  have xp := Ext.trans ((Ext.refl wo).alloc _) Xp
  replace qc_0 := xp.cell qc_0
  replace qc_1 := xp.cell qc_1
  replace qc_2 := xp.cell qc_2
  replace qc_3 := xp.cell qc_3
  replace qc_4 := xp.cell qc_4
  replace qc_5 := xp.cell qc_5
  have HO := Lib.hid (Oo.ext xp)
  have EP := xo.trans xp
  clear Xp xp Xo Oo xo po ro
  go_wp2_with fail
  refine (HCF.out _).mono ?_
  rintro e wf0 ⟨vr, rfl, Rr, Xr⟩
  obtain ⟨gr, cr, er, hnm⟩ := HNM.out _ _ _ Rr
  subst er
  have HNC := Lib.hid hnm
  replace ql_0 := Xr.cell ql_0
  replace ql_1 := Xr.cell ql_1
  replace ql_2 := Xr.cell ql_2
  replace ql_3 := Xr.cell ql_3
  replace ql_4 := Xr.cell ql_4
  replace ql_5 := Xr.cell ql_5
  replace ql_6 := Xr.cell ql_6
  replace ql_7 := Xr.cell ql_7
  replace ql_8 := Xr.cell ql_8
  replace ql_9 := Xr.cell ql_9
  replace ql_10 := Xr.cell ql_10
  replace ql_11 := Xr.cell ql_11
  replace ql_12 := Xr.cell ql_12
  replace ql_13 := Xr.cell ql_13
  replace qc_0 := Xr.cell qc_0
  replace qc_1 := Xr.cell qc_1
  replace qc_2 := Xr.cell qc_2
  replace qc_3 := Xr.cell qc_3
  replace qc_4 := Xr.cell qc_4
  replace qc_5 := Xr.cell qc_5
  have HO2 := Lib.hid (HO.out.ext Xr)
  have EF := EP.trans Xr
  clear Xr Rr hnm HO EP
  have hsame := HCSM.out (.slice (some ⟨bo, 0, none⟩) n n) (.slice a n cap) wf0 HO2.out.lists (HLL.out wf0 EF)
  have HSAME := Lib.hid hsame
  clear hsame HCSM
  go_wp2_with fail
  refine HSAME.out.mono ?_
  rintro e ws ⟨rfl, Xs⟩
  replace ql_0 := Xs.cell ql_0
  replace ql_1 := Xs.cell ql_1
  replace ql_2 := Xs.cell ql_2
  replace ql_3 := Xs.cell ql_3
  replace ql_4 := Xs.cell ql_4
  replace ql_5 := Xs.cell ql_5
  replace ql_6 := Xs.cell ql_6
  replace ql_7 := Xs.cell ql_7
  replace ql_8 := Xs.cell ql_8
  replace ql_9 := Xs.cell ql_9
  replace ql_10 := Xs.cell ql_10
  replace ql_11 := Xs.cell ql_11
  replace ql_12 := Xs.cell ql_12
  replace ql_13 := Xs.cell ql_13
  have HNC2 : Hid (∀ c, c < m → ws.cell? ⟨gr, c * 3, none⟩ = some (.string (N c)) ∧ ws.cell? ⟨gr, c * 3 + 1, none⟩ = some (.int .i64 (pKind (U c).1.toNat)) ∧ ws.cell? ⟨gr, c * 3 + 2, none⟩ = some (.int .u64 (fst W C S (U c).1 (U c).2))) := Lib.hid (fun c hc => ⟨Xs.cell (HNC.out c hc).1, Xs.cell (HNC.out c hc).2.1, Xs.cell (HNC.out c hc).2.2⟩)
  have HO3 := Lib.hid (HO2.out.ext Xs)
  have ES := EF.trans Xs
  clear Xs EF HO2 HNC HSAME qc_0 qc_1 qc_2 qc_3 qc_4 qc_5
  go_wp2
  go_loopw [8] (fun i wr => ∃ k : Nat, k ≤ m ∧ i = .int .i64 k ∧ Ext ws wr) (fun i _ => m - (intOf i).toNat)
  case atStart => exact ⟨0, Nat.zero_le _, rfl, Ext.refl _⟩
  case round =>
    obtain ⟨k, hk, rfl, hx⟩ := hrel
    have p_0 := hx.cell ql_0
    have p_1 := hx.cell ql_1
    have p_2 := hx.cell ql_2
    have p_3 := hx.cell ql_3
    have p_4 := hx.cell ql_4
    have p_5 := hx.cell ql_5
    have p_6 := hx.cell ql_6
    have p_7 := hx.cell ql_7
    have p_8 := hx.cell ql_8
    have p_9 := hx.cell ql_9
    have p_10 := hx.cell ql_10
    have p_11 := hx.cell ql_11
    have p_12 := hx.cell ql_12
    have p_13 := hx.cell ql_13
    have HX := Lib.hid hx
    by_cases hlt : k < m
    · have hkm : (k : Int) < (m : Int) := by omega
      have EW := ES.trans hx
      obtain ⟨r0, r1, r2⟩ := HNC2.out k hlt
      replace r0 := hx.cell r0
      replace r1 := hx.cell r1
      replace r2 := hx.cell r2
      have CN1 := Lib.hid (fun w' (hx : Ext w w') => HCNm.out (some ⟨bo, 0, none⟩) n w' hx k hlt)
      have CK1 := Lib.hid (fun w' (hx : Ext w w') => HCK.out (some ⟨bo, 0, none⟩) n w' hx k)
      have CF1 := Lib.hid (fun w' (hx : Ext ws w') => HCFT.out (some ⟨bo, 0, none⟩) n w' (HO3.out.ext hx).lists k)
      generalize N k = x at *
      generalize pKind (U k).1.toNat = y at *
      generalize fst W C S (U k).1 (U k).2 = z at *
      clear hx
      go_upto_region 14 with (fail)
      refine wp_region_later (by kernel_rfl) (by kernel_rfl) ?_
      have l_0 := fun (g : Later wr) => g.ok.cell p_0
      have l_1 := fun (g : Later wr) => g.ok.cell p_1
      have l_2 := fun (g : Later wr) => g.ok.cell p_2
      have l_3 := fun (g : Later wr) => g.ok.cell p_3
      have l_4 := fun (g : Later wr) => g.ok.cell p_4
      have l_5 := fun (g : Later wr) => g.ok.cell p_5
      have l_6 := fun (g : Later wr) => g.ok.cell p_6
      have l_7 := fun (g : Later wr) => g.ok.cell p_7
      have l_8 := fun (g : Later wr) => g.ok.cell p_8
      have l_9 := fun (g : Later wr) => g.ok.cell p_9
      have l_10 := fun (g : Later wr) => g.ok.cell p_10
      have l_11 := fun (g : Later wr) => g.ok.cell p_11
      have l_12 := fun (g : Later wr) => g.ok.cell p_12
      have l_13 := fun (g : Later wr) => g.ok.cell p_13
      have s0 := fun (g : Later wr) => g.ok.cell r0
      have s1 := fun (g : Later wr) => g.ok.cell r1
      have s2 := fun (g : Later wr) => g.ok.cell r2
      repeat (go_big_quiet_step ((fail)))
      go_big_quiet_step ((go_at_call 14; exact laterC (CN1.out _ (EW.trans (Later.ok _)))))
      repeat (go_big_quiet_step ((fail)))
      go_big_quiet_step ((go_at_call 11; exact laterC (CK1.out _ (EW.trans (Later.ok _)))))
      repeat (go_big_quiet_step ((fail)))
      go_big_quiet_step ((go_at_call 15; exact laterC (CF1.out _ (HX.out.trans (Later.ok _)))))
      repeat (go_big_quiet_step ((fail)))
      refine wpQuiet_nil ?_
      intro w3 hl3
      have hb3 := laters_ext hl3
      clear hl3 s0 s1 s2 l_0 l_1 l_2 l_3 l_4 l_5 l_6 l_7 l_8 l_9 l_10 l_11 l_12 l_13
      have HX3 := Lib.hid (HX.out.trans hb3)
      clear hb3 r0 r1 r2 p_0 p_1 p_2 p_3 p_4 p_5 p_6 p_7 p_8 p_9 p_10 p_11 p_12 p_13
      go_wp2
      exact ⟨⟨k + 1, by omega, by go_num, HX3.out⟩, by simp [intOf]; omega⟩
    · obtain rfl : k = m := by omega
      have EW := ES.trans hx
      by_cases hout : t < 0 ∨ (k : Int) ≤ t
      · have CN1 := Lib.hid (fun w' (hx : Ext w w') => HCNO.out (some ⟨bo, 0, none⟩) n w' hx t hout)
        have CK1 := fun w' (hx : Ext w w') => HCK.out (some ⟨bo, 0, none⟩) n w' hx t
        have CF1 := fun w' (hx : Ext ws w') => HCFT.out (some ⟨bo, 0, none⟩) n w' (HO3.out.ext hx).lists t
        rw [HOUT.out t hout] at CK1 CF1
        rw [show pKind (((0 : Int), (0 : Int)).1.toNat) = 0 from rfl] at CK1
        rw [show fst W C S ((0 : Int), (0 : Int)).1 ((0 : Int), (0 : Int)).2 = 0 by simp [fst]] at CF1
        have HCK1 := Lib.hid CK1
        have HCF1 := Lib.hid CF1
        have dd : (decide (t < 0) = true) ∨ (decide (t < 0) = false ∧ decide ((k : Int) ≤ t) = true) := by
          by_cases h0 : t < 0
          · exact .inl (by simpa using h0)
          · exact .inr ⟨by simpa using h0, by simp; omega⟩
        clear CK1 CF1 hout hx
        rcases dd with d0 | ⟨d0, d1⟩
        · go_wp2_with fail
          refine (CN1.out _ EW).mono ?_
          rintro e w4 ⟨rfl, X4⟩
          replace p_0 := X4.cell p_0
          replace p_1 := X4.cell p_1
          replace p_2 := X4.cell p_2
          replace p_3 := X4.cell p_3
          replace p_4 := X4.cell p_4
          replace p_5 := X4.cell p_5
          replace p_6 := X4.cell p_6
          replace p_7 := X4.cell p_7
          replace p_8 := X4.cell p_8
          replace p_9 := X4.cell p_9
          replace p_10 := X4.cell p_10
          replace p_11 := X4.cell p_11
          replace p_12 := X4.cell p_12
          replace p_13 := X4.cell p_13
          have E4 := EW.trans X4
          have HX4 := HX.out.trans X4
          clear X4
          go_wp2_with fail
          refine (HCK1.out _ E4).mono ?_
          rintro e w5 ⟨rfl, X5⟩
          replace p_0 := X5.cell p_0
          replace p_1 := X5.cell p_1
          replace p_2 := X5.cell p_2
          replace p_3 := X5.cell p_3
          replace p_4 := X5.cell p_4
          replace p_5 := X5.cell p_5
          replace p_6 := X5.cell p_6
          replace p_7 := X5.cell p_7
          replace p_8 := X5.cell p_8
          replace p_9 := X5.cell p_9
          replace p_10 := X5.cell p_10
          replace p_11 := X5.cell p_11
          replace p_12 := X5.cell p_12
          replace p_13 := X5.cell p_13
          have E5 := E4.trans X5
          have HX5 := HX4.trans X5
          clear X5
          go_wp2_with fail
          refine (HCF1.out _ HX5).mono ?_
          rintro e w6 ⟨rfl, X6⟩
          have E6 := E5.trans X6
          clear X6
          go_wp2_with fail
          refine (CV.out _ E6).mono ?_
          rintro e w7 ⟨rfl, X7⟩
          have HE7 := Lib.hid (E6.trans X7)
          clear X7
          go_wp2
          go_ret
          exact ⟨rfl, Ext.below HE7.out⟩
        · go_wp2_with fail
          refine (CN1.out _ EW).mono ?_
          rintro e w4 ⟨rfl, X4⟩
          replace p_0 := X4.cell p_0
          replace p_1 := X4.cell p_1
          replace p_2 := X4.cell p_2
          replace p_3 := X4.cell p_3
          replace p_4 := X4.cell p_4
          replace p_5 := X4.cell p_5
          replace p_6 := X4.cell p_6
          replace p_7 := X4.cell p_7
          replace p_8 := X4.cell p_8
          replace p_9 := X4.cell p_9
          replace p_10 := X4.cell p_10
          replace p_11 := X4.cell p_11
          replace p_12 := X4.cell p_12
          replace p_13 := X4.cell p_13
          have E4 := EW.trans X4
          have HX4 := HX.out.trans X4
          clear X4
          go_wp2_with fail
          refine (HCK1.out _ E4).mono ?_
          rintro e w5 ⟨rfl, X5⟩
          replace p_0 := X5.cell p_0
          replace p_1 := X5.cell p_1
          replace p_2 := X5.cell p_2
          replace p_3 := X5.cell p_3
          replace p_4 := X5.cell p_4
          replace p_5 := X5.cell p_5
          replace p_6 := X5.cell p_6
          replace p_7 := X5.cell p_7
          replace p_8 := X5.cell p_8
          replace p_9 := X5.cell p_9
          replace p_10 := X5.cell p_10
          replace p_11 := X5.cell p_11
          replace p_12 := X5.cell p_12
          replace p_13 := X5.cell p_13
          have E5 := E4.trans X5
          have HX5 := HX4.trans X5
          clear X5
          go_wp2_with fail
          refine (HCF1.out _ HX5).mono ?_
          rintro e w6 ⟨rfl, X6⟩
          have E6 := E5.trans X6
          clear X6
          go_wp2_with fail
          refine (CV.out _ E6).mono ?_
          rintro e w7 ⟨rfl, X7⟩
          have HE7 := Lib.hid (E6.trans X7)
          clear X7
          go_wp2
          go_ret
          exact ⟨rfl, Ext.below HE7.out⟩
      · have d0 : decide (t < 0) = false := by simp; omega
        have d1 : decide ((k : Int) ≤ t) = false := by simp; omega
        clear hout hx
        go_wp2_with fail
        refine (CV.out _ EW).mono ?_
        rintro e w7 ⟨rfl, X7⟩
        have HE7 := Lib.hid (EW.trans X7)
        clear X7
        go_wp2
        go_ret
        exact ⟨rfl, Ext.below HE7.out⟩
end Go.Proofs.YtaimmpcijdpgdaaDoor

/- What the walks of layer 11 share; the walk of LayoutFinds. -/
import Derived.Test.YtaimmpcijdpgdaaDoorLyL
import Derived.Test.YtaimmpcijdpgdaaDoorOpenC
namespace Go.Proofs.YtaimmpcijdpgdaaDoor
open Go.RowKit
set_option linter.unusedVariables false
set_option linter.unusedSimpArgs false
set_option maxHeartbeats 4000000
attribute [local go_sem] later_cell later_frozen later_const
theorem came_small {w : World} {a : Option Addr} {len cap : Nat} {ups : List (List Int)} (h : Came w a len cap ups) (hb : longB ups = false) : (∀ l ∈ ups, l.length ≤ 1000000) ∧ ups.length ≤ 1000000 := by
  obtain ⟨h1, h2⟩ := longB_no hb
  exact ⟨fun l hl => by have := h2 l hl; omega, by omega⟩
theorem numOk {V W C P : Int} {ups : List (List Int)} (ok : Ok V W C P ups) : NumOk V ups.length C := ⟨ok.v1, ok.v5, by omega, by have := ok.rt.six; omega, ok.c2, ok.c64⟩
/-- a layout's names -/
theorem name_at {V W C P S : Int} {ups : List (List Int)} (ok : Ok V W C P ups) (a : Option Addr) (cap : Nat) (w : World) (E : LEnv w) (c : Nat) (hc : (c : Int) < nCe V ups.length C) :
    Calls Tryd.prog 14 #[layV V W C P S (.slice a ups.length cap) ups.length, .int .i64 c] w fun e w' => e = .returned (.string (nmC V ups.length C c)) ∧ Ext w w' := by
  have hok := numOk ok
  have hb := num_bounds hok
  obtain ⟨⟨k, i⟩, e⟩ : ∃ p, p = useN V ups.length C c := ⟨_, rfl⟩
  obtain ⟨a1, a2, a3, a4, a5, a6, a7⟩ := use_in hok (by omega) hc e.symm
  have h := lName V W C P S a ups.length cap (nCu V ups.length) (nCl V ups.length) (nTi V ups.length) (nSe V ups.length) (nNe V ups.length) (nMa V ups.length) (nSl V ups.length C) (nCe V ups.length C) c i k.toNat w (by omega) (by omega) (by omega) (by omega) (by rw [show ((k.toNat : Nat) : Int) = k by omega]; exact e.symm) (by omega) (by omega) (by omega) E
  unfold nmC
  rw [← e]
  exact h
/-- a cell that there is not -/
theorem use_out (V n C c : Int) (h : c < 0 ∨ nCe V n C ≤ c) : useN V n C c = (0, 0) := by
  unfold useN useL
  rw [if_pos h]
theorem mem_names {V W C S : Int} {n : Nat} {l : List DC} (h : NumOk V n C) (hl : l = listD V W C S n) {c : Nat} (hc : c < l.length) {d : DC} (hd : l[c]? = some d) : d.nm = nmC V n C c ∧ d.kd = pKind (useN V n C c).1.toNat ∧ d.fs = fst W C S (useN V n C c).1 (useN V n C c).2 := by
  subst hl
  have hlen := listD_len h W S (N := n) rfl
  obtain ⟨⟨k, i⟩, e⟩ : ∃ p, p = useN V n C c := ⟨_, rfl⟩
  have := listD_at h W S (N := n) (c := c) rfl (by omega) e.symm
  rw [hd] at this
  have h2 := Option.some.inj this
  unfold nmC
  rw [← e, h2]
  exact ⟨rfl, rfl, rfl⟩
set_option maxRecDepth 100000 in
theorem layoutFinds_walk (V W C P S : Int) (a : Option Addr) (len cap : Nat) (ups : List (List Int)) (s : ByteArray) (w : World) (wf : (Lit.int .i64 V).wf = true ∧ (Lit.int .i64 W).wf = true ∧ (Lit.int .i64 C).wf = true ∧ (Lit.int .i64 P).wf = true ∧ (Lit.int .u64 S).wf = true) (h : Came w a len cap ups) (ws : s.size ≤ maxLen) (E : LEnv w) :
    Calls Tryd.prog 5 #[(.agg #[.int .i64 V, .int .i64 W, .int .i64 C, .int .i64 P, .int .u64 (S), .slice a len cap]), .string s] w fun e w' => e = .returned (.bool true) ∧ Below w.heap.size w w' := by
  clear ws
  have hS := wf_u64 wf.2.2.2.2
  obtain ⟨hS0, hS1⟩ := hS
  clear wf
  have CL := fun w' (hx : Ext w w') => long _ ups w' (h.l.ext hx) (by rw [h.n]; exact h.m) (fun l hl => (h.each l hl).1)
  have CV := Lib.hid (fun w' (hx : Ext w w') => live11 w' (E.ext hx))
  cases hb : longB ups
  case true =>
    rw [hb] at CL
    have HCL := Lib.hid CL
    clear CL h hb E
    go_enter Tryd.func5, Tryd.ntmps5
    go_wp2_with fail
    refine (HCL.out _ (by repeat (first | with_reducible exact Ext.refl _ | with_reducible assumption | with_reducible refine Ext.alloc ?_ _ | with_reducible refine Ext.drew ?_ | with_reducible refine Ext.drewN ?_ _ | with_reducible refine Ext.setCell ?_ (by simp <;> omega) _ | with_reducible refine Ext.trans ?_ (by assumption)))).mono ?_
    rintro e w' ⟨rfl, rfl⟩
    go_wp2_with fail
    refine (CV.out _ (by repeat (first | with_reducible exact Ext.refl _ | with_reducible assumption | with_reducible refine Ext.alloc ?_ _ | with_reducible refine Ext.drew ?_ | with_reducible refine Ext.drewN ?_ _ | with_reducible refine Ext.setCell ?_ (by simp <;> omega) _ | with_reducible refine Ext.trans ?_ (by assumption)))).mono ?_
    rintro e w1 ⟨rfl, hb1⟩
    obtain ⟨hc1, hf1⟩ := hb1.cells
    go_wp2
    go_ret
    refine ⟨rfl, Ext.below ?_⟩
    repeat (first | with_reducible exact Ext.refl _ | with_reducible assumption | with_reducible refine Ext.alloc ?_ _ | with_reducible refine Ext.drew ?_ | with_reducible refine Ext.drewN ?_ _ | with_reducible refine Ext.setCell ?_ (by simp <;> omega) _ | with_reducible refine Ext.trans ?_ (by assumption))
  rw [hb] at CL
  have HCL := Lib.hid CL
  obtain ⟨hll, hn⟩ := came_small h hb
  obtain rfl := h.n
  have CR := fun w' (hx : Ext w w') => r10Right V W C P S _ ups w' (h.l.ext hx) hll hn
  by_cases hg : ckC V W C P ups = 0
  case neg =>
    rw [show (ckC V W C P ups == 0) = false by simpa using hg] at CR
    have HCR := Lib.hid CR
    clear CL CR h hb E hll hg
    generalize ups.length = n at *
    go_enter Tryd.func5, Tryd.ntmps5
    go_wp2_with fail
    refine (HCL.out _ (by repeat (first | with_reducible exact Ext.refl _ | with_reducible assumption | with_reducible refine Ext.alloc ?_ _ | with_reducible refine Ext.drew ?_ | with_reducible refine Ext.drewN ?_ _ | with_reducible refine Ext.setCell ?_ (by simp <;> omega) _ | with_reducible refine Ext.trans ?_ (by assumption)))).mono ?_
    rintro e w' ⟨rfl, rfl⟩
    go_wp2_with fail
    refine (HCR.out _ (by repeat (first | with_reducible exact Ext.refl _ | with_reducible assumption | with_reducible refine Ext.alloc ?_ _ | with_reducible refine Ext.drew ?_ | with_reducible refine Ext.drewN ?_ _ | with_reducible refine Ext.setCell ?_ (by simp <;> omega) _ | with_reducible refine Ext.trans ?_ (by assumption)))).mono ?_
    rintro e w2 ⟨rfl, hb2⟩
    obtain ⟨hc2, hf2⟩ := hb2.cells
    go_wp2_with fail
    refine (CV.out _ (by repeat (first | with_reducible exact Ext.refl _ | with_reducible assumption | with_reducible refine Ext.alloc ?_ _ | with_reducible refine Ext.drew ?_ | with_reducible refine Ext.drewN ?_ _ | with_reducible refine Ext.setCell ?_ (by simp <;> omega) _ | with_reducible refine Ext.trans ?_ (by assumption)))).mono ?_
    rintro e w3 ⟨rfl, hb3⟩
    obtain ⟨hc3, hf3⟩ := hb3.cells
    go_wp2
    go_ret
    refine ⟨rfl, Ext.below ?_⟩
    repeat (first | with_reducible exact Ext.refl _ | with_reducible assumption | with_reducible refine Ext.alloc ?_ _ | with_reducible refine Ext.drew ?_ | with_reducible refine Ext.drewN ?_ _ | with_reducible refine Ext.setCell ?_ (by simp <;> omega) _ | with_reducible refine Ext.trans ?_ (by assumption))
  rw [show (ckC V W C P ups == 0) = true by simpa using hg] at CR
  have HCR := Lib.hid CR
  have ok := ok_iff.1 hg
  have hok := numOk ok
  have hbd := num_bounds hok
  have h6 := ok.rt.six
  have hc64 := ok.c64
  have hc2 := ok.c2
  obtain ⟨n, hn0⟩ : ∃ n, n = ups.length := ⟨_, rfl⟩
  obtain ⟨m, hm⟩ : ∃ m : Nat, (m : Int) = nCe V n C := ⟨(nCe V n C).toNat, by rw [hn0]; omega⟩
  have hm0 : 0 < m := by rw [hn0] at hm; omega
  have CO := fun w' (hx : Ext w w') => lOf_ok V W C P S _ ups w' (h.l.ext hx) hll hn hg
  have CF := fun w' => rOf11 V W C P S a ups.length cap w' ok.v1 ok.v5 ok.wd ok.rc ok.c64 hS0 h6
  have CN := fun aq cq w' (hx : Ext w w') (c : Nat) (hc : (c : Int) < nCe V ups.length C) => name_at (S := S) ok aq cq w' (E.ext hx) c hc
  have hlen : (listD V W C S n).length = m := by have := listD_len (V := V) (n := n) (C := C) (by rw [hn0]; exact hok) W S (N := n) rfl; omega
  have HOWN : Hid (∀ c, c < m → findN (nmC V n C) (nmC V n C c) m = some c) := Lib.hid (fun c hc => find_own (by rw [hn0]; exact hok) hm hc)
  have HCELL : Hid (∀ (k : Nat) (i : Int), 1 ≤ k → k ≤ 10 → (pMany k = false → i = 0) → fnd (findN (nmC V n C) (nmOf k i) m) = cellOf V n C k i) := Lib.hid (fun k i h1 h2 h3 => by
    rw [find_cell (by rw [hn0]; exact hok) hm h1 h2 h3]
    by_cases hq : cellOf V n C k i = -1
    · rw [if_pos hq, hq]; rfl
    · rw [if_neg hq]
      have := cell_lt (V := V) (n := n) (C := C) (by rw [hn0]; exact hok) (k := k) (i := i) (by omega) (by omega) (by simpa using h3)
      show (((cellOf V n C k i).toNat : Nat) : Int) = _
      omega)
  have HROW : Hid (∀ (W0 : World) (b0 : Nat) (v : Value), RD W0 b0 v (listD V W C S n) → ∃ g cp, v = .slice (some ⟨g, 0, none⟩) m cp ∧ ∀ c, c < m → W0.cell? ⟨g, c * 3, none⟩ = some (.string (nmC V n C c)) ∧ W0.cell? ⟨g, c * 3 + 1, none⟩ = some (.int .i64 (pKind (useN V n C c).1.toNat)) ∧ W0.cell? ⟨g, c * 3 + 2, none⟩ = some (.int .u64 (fst W C S (useN V n C c).1 (useN V n C c).2))) := Lib.hid (fun W0 b0 v hR => by
    obtain ⟨g, cp, hv, _, _, hcc⟩ := hR.form (by omega)
    rw [hlen] at hv
    refine ⟨g, cp, hv, fun c hc => ?_⟩
    obtain ⟨g', cp', hv', q0, q1, q2⟩ := hR.cell (i := c) (by omega)
    rw [hv] at hv'
    cases hv'
    obtain ⟨m0, m1, m2⟩ := mem_names (V := V) (W := W) (C := C) (S := S) (n := n) (by rw [hn0]; exact hok) rfl (c := c) (by omega) (List.getElem?_eq_getElem (by omega))
    rw [m0] at q0
    rw [m1] at q1
    rw [m2] at q2
    exact ⟨q0, q1, q2⟩)
  rw [← hn0] at CO CF CN
  obtain ⟨Cu, hCu⟩ : ∃ x, x = nCu V n := ⟨_, rfl⟩
  obtain ⟨Cl, hCl⟩ : ∃ x, x = nCl V n := ⟨_, rfl⟩
  obtain ⟨Ti, hTi⟩ : ∃ x, x = nTi V n := ⟨_, rfl⟩
  obtain ⟨Se, hSe⟩ : ∃ x, x = nSe V n := ⟨_, rfl⟩
  obtain ⟨Ne, hNe⟩ : ∃ x, x = nNe V n := ⟨_, rfl⟩
  obtain ⟨Ma, hMa⟩ : ∃ x, x = nMa V n := ⟨_, rfl⟩
  obtain ⟨Sl, hSl⟩ : ∃ x, x = nSl V n C := ⟨_, rfl⟩
  have hLay : ∀ u, layV V W C P S u n = (.agg #[.int .i64 V, .int .i64 W, .int .i64 C, .int .i64 P, .int .u64 S, u, .int .i64 Cu, .int .i64 Cl, .int .i64 Ti, .int .i64 Se, .int .i64 Ne, .int .i64 Ma, .int .i64 Sl, .int .i64 m]) := fun u => by unfold layV; rw [hCu, hCl, hTi, hSe, hNe, hMa, hSl, hm]
  simp only [hLay] at CN
  have HLAY := Lib.hid hLay
  have hm500 : m ≤ 500 := by rw [hn0] at hm; omega
  have HLIM : Hid (0 ≤ Sl ∧ Sl ≤ 500 ∧ -1 ≤ Ma ∧ Ma ≤ 500) := Lib.hid (by rw [hSl, hMa, hn0]; omega)
  have HCO := Lib.hid CO
  have HCF := Lib.hid CF
  rw [← hm] at CN
  have CFI := Lib.hid (fun aq cq (x : ByteArray) w' (hx : Ext w w') => lFind V W C P S aq n cq Cu Cl Ti Se Ne Ma Sl m x (nmC V n C) w' (by omega) (fun c hc w2 hx2 => CN aq cq w2 (hx.trans hx2) c (by omega)))
  have HCN := Lib.hid (fun aq cq w' (hx : Ext w w') (c : Nat) (hc : c < m) => CN aq cq w' hx c (by omega))
  have HN0 := Lib.hid hn0
  have HLEN := Lib.hid hlen
  clear CL CR CO CF CN h hb E hll hg ok hok hbd hn hlen hLay hCu hCl hTi hSe hNe hMa hSl hm hS0 hS1 h6 hc64 hc2
  rw [← hn0] at HCL HCR ⊢
  clear hn0
  generalize listD V W C S n = LD at *
  clear HCELL
  have HNM : Hid (∀ (W0 : World) (b0 : Nat) (v : Value), RD W0 b0 v LD → ∃ g cp, v = .slice (some ⟨g, 0, none⟩) m cp ∧ ∀ c, c < m → W0.cell? ⟨g, c * 3, none⟩ = some (.string (nmC V n C c))) := Lib.hid (fun W0 b0 v hR => by
    obtain ⟨g, cp, h1, h2⟩ := HROW.out W0 b0 v hR
    exact ⟨g, cp, h1, fun c hc => (h2 c hc).1⟩)
  clear HROW
  generalize nmC V n C = N at *
  go_enter Tryd.func5, Tryd.ntmps5
  go_wp2_with fail
  refine (HCL.out _ (by repeat (first | with_reducible exact Ext.refl _ | with_reducible assumption | with_reducible refine Ext.alloc ?_ _ | with_reducible refine Ext.drew ?_ | with_reducible refine Ext.drewN ?_ _ | with_reducible refine Ext.setCell ?_ (by simp <;> omega) _ | with_reducible refine Ext.trans ?_ (by assumption)))).mono ?_
  rintro e w' ⟨rfl, rfl⟩
  go_wp2_with fail
  refine (HCR.out _ (by repeat (first | with_reducible exact Ext.refl _ | with_reducible assumption | with_reducible refine Ext.alloc ?_ _ | with_reducible refine Ext.drew ?_ | with_reducible refine Ext.drewN ?_ _ | with_reducible refine Ext.setCell ?_ (by simp <;> omega) _ | with_reducible refine Ext.trans ?_ (by assumption)))).mono ?_
  rintro e w4 ⟨rfl, hb4⟩
  obtain ⟨hc4, hf4⟩ := hb4.cells
  clear hc4 hf4
  have qc_0 : w4.cell? ⟨w.heap.size, 0, none⟩ = some (.int .i64 V) := (hb4.cells.1 _ _ (by simp <;> omega)).trans (by simp [go_sem])
  have qc_1 : w4.cell? ⟨w.heap.size, 1, none⟩ = some (.int .i64 W) := (hb4.cells.1 _ _ (by simp <;> omega)).trans (by simp [go_sem])
  have qc_2 : w4.cell? ⟨w.heap.size, 2, none⟩ = some (.int .i64 C) := (hb4.cells.1 _ _ (by simp <;> omega)).trans (by simp [go_sem])
  have qc_3 : w4.cell? ⟨w.heap.size, 3, none⟩ = some (.int .i64 P) := (hb4.cells.1 _ _ (by simp <;> omega)).trans (by simp [go_sem])
  have qc_4 : w4.cell? ⟨w.heap.size, 4, none⟩ = some (.int .u64 (S)) := (hb4.cells.1 _ _ (by simp <;> omega)).trans (by simp [go_sem])
  have qc_5 : w4.cell? ⟨w.heap.size, 5, none⟩ = some (.slice a n cap) := (hb4.cells.1 _ _ (by simp <;> omega)).trans (by simp [go_sem])
  have pc := World.block_lt_of_cell? _ ⟨w.heap.size, 0, none⟩ qc_0
  have rc := Nat.lt_succ_of_lt pc
  go_wp2_with fail
  refine (HCO.out _ (by repeat (first | with_reducible exact Ext.refl _ | with_reducible assumption | with_reducible refine Ext.alloc ?_ _ | with_reducible refine Ext.drew ?_ | with_reducible refine Ext.drewN ?_ _ | with_reducible refine Ext.setCell ?_ (by simp <;> omega) _ | with_reducible refine Ext.trans ?_ (by assumption)))).mono ?_
  rintro e wo ⟨uo, rfl, Oo, Xo⟩
  obtain ⟨bo, fo, cuo, eo, -⟩ := id Oo
  rw [← HN0.out] at eo ⊢
  subst eo
  rw [HLAY.out]
  have Eo : Ext w4 wo := Ext.trans (by repeat (first | with_reducible exact Ext.refl _ | with_reducible assumption | with_reducible refine Ext.alloc ?_ _ | with_reducible refine Ext.drew ?_ | with_reducible refine Ext.drewN ?_ _ | with_reducible refine Ext.setCell ?_ (by simp <;> omega) _ | with_reducible refine Ext.trans ?_ (by assumption))) Xo
  have xo := Ext.trans (show Ext w w4 by repeat (first | with_reducible exact Ext.refl _ | with_reducible assumption | with_reducible refine Ext.alloc ?_ _ | with_reducible refine Ext.drew ?_ | with_reducible refine Ext.drewN ?_ _ | with_reducible refine Ext.setCell ?_ (by simp <;> omega) _ | with_reducible refine Ext.trans ?_ (by assumption))) Eo
  replace qc_0 := Eo.cell qc_0
  replace qc_1 := Eo.cell qc_1
  replace qc_2 := Eo.cell qc_2
  replace qc_3 := Eo.cell qc_3
  replace qc_4 := Eo.cell qc_4
  replace qc_5 := Eo.cell qc_5
  clear Eo
  have HOo := Lib.hid Oo
  clear Xo Oo
  have po := World.block_lt_of_cell? _ ⟨w.heap.size, 0, none⟩ qc_0
  have ro := Nat.lt_succ_of_lt po
  go_wp2_with fail
  refine (HCF.out _).mono ?_
  rintro e wf0 ⟨vr, rfl, Rr, Xr⟩
  obtain ⟨gr, cr, er, hnm⟩ := HNM.out _ _ _ Rr
  subst er
  have HNC := Lib.hid hnm
  have ql_0 : wf0.cell? ⟨wo.heap.size, 0, none⟩ = some (.int .i64 V) := Xr.cell (by simp [go_sem])
  have ql_1 : wf0.cell? ⟨wo.heap.size, 1, none⟩ = some (.int .i64 W) := Xr.cell (by simp [go_sem])
  have ql_2 : wf0.cell? ⟨wo.heap.size, 2, none⟩ = some (.int .i64 C) := Xr.cell (by simp [go_sem])
  have ql_3 : wf0.cell? ⟨wo.heap.size, 3, none⟩ = some (.int .i64 P) := Xr.cell (by simp [go_sem])
  have ql_4 : wf0.cell? ⟨wo.heap.size, 4, none⟩ = some (.int .u64 S) := Xr.cell (by simp [go_sem])
  have ql_5 : wf0.cell? ⟨wo.heap.size, 5, none⟩ = some (.slice (some ⟨bo, 0, none⟩) n n) := Xr.cell (by simp [go_sem])
  have ql_6 : wf0.cell? ⟨wo.heap.size, 6, none⟩ = some (.int .i64 Cu) := Xr.cell (by simp [go_sem])
  have ql_7 : wf0.cell? ⟨wo.heap.size, 7, none⟩ = some (.int .i64 Cl) := Xr.cell (by simp [go_sem])
  have ql_8 : wf0.cell? ⟨wo.heap.size, 8, none⟩ = some (.int .i64 Ti) := Xr.cell (by simp [go_sem])
  have ql_9 : wf0.cell? ⟨wo.heap.size, 9, none⟩ = some (.int .i64 Se) := Xr.cell (by simp [go_sem])
  have ql_10 : wf0.cell? ⟨wo.heap.size, 10, none⟩ = some (.int .i64 Ne) := Xr.cell (by simp [go_sem])
  have ql_11 : wf0.cell? ⟨wo.heap.size, 11, none⟩ = some (.int .i64 Ma) := Xr.cell (by simp [go_sem])
  have ql_12 : wf0.cell? ⟨wo.heap.size, 12, none⟩ = some (.int .i64 Sl) := Xr.cell (by simp [go_sem])
  have ql_13 : wf0.cell? ⟨wo.heap.size, 13, none⟩ = some (.int .i64 m) := Xr.cell (by simp [go_sem])
  replace qc_0 := (Ext.trans ((Ext.refl wo).alloc _) Xr).cell qc_0
  replace qc_1 := (Ext.trans ((Ext.refl wo).alloc _) Xr).cell qc_1
  replace qc_2 := (Ext.trans ((Ext.refl wo).alloc _) Xr).cell qc_2
  replace qc_3 := (Ext.trans ((Ext.refl wo).alloc _) Xr).cell qc_3
  replace qc_4 := (Ext.trans ((Ext.refl wo).alloc _) Xr).cell qc_4
  replace qc_5 := (Ext.trans ((Ext.refl wo).alloc _) Xr).cell qc_5
  have EF : Ext w wf0 := xo.trans (Ext.trans ((Ext.refl wo).alloc _) Xr)
  have HOF := Lib.hid (HOo.out.ext (Ext.trans ((Ext.refl wo).alloc _) Xr))
  clear Xr Rr hnm xo po ro HOo
  go_wp2
  go_loopw [8] (fun i wr => ∃ k : Nat, k ≤ m ∧ i = .int .i64 k ∧ Ext wf0 wr) (fun i _ => m - (intOf i).toNat)
  case atStart => exact ⟨0, Nat.zero_le _, rfl, Ext.refl _⟩
  case round =>
    obtain ⟨k, hk, rfl, hx⟩ := hrel
    have p_0 := hx.cell ql_0
    have p_1 := hx.cell ql_1
    have p_2 := hx.cell ql_2
    have p_3 := hx.cell ql_3
    have p_4 := hx.cell ql_4
    have p_5 := hx.cell ql_5
    have p_6 := hx.cell ql_6
    have p_7 := hx.cell ql_7
    have p_8 := hx.cell ql_8
    have p_9 := hx.cell ql_9
    have p_10 := hx.cell ql_10
    have p_11 := hx.cell ql_11
    have p_12 := hx.cell ql_12
    have p_13 := hx.cell ql_13
    have HX := Lib.hid hx
    by_cases hlt : k < m
    · have hkm : (k : Int) < (m : Int) := by omega
      have EW := EF.trans hx
      have CNk := Lib.hid (fun w' (hx : Ext w w') => HCN.out (some ⟨bo, 0, none⟩) n w' hx k hlt)
      have CFk : Hid (∀ w', Ext w w' → Calls Tryd.prog 23 #[(.agg #[.int .i64 V, .int .i64 W, .int .i64 C, .int .i64 P, .int .u64 S, .slice (some ⟨bo, 0, none⟩) n n, .int .i64 Cu, .int .i64 Cl, .int .i64 Ti, .int .i64 Se, .int .i64 Ne, .int .i64 Ma, .int .i64 Sl, .int .i64 m]), .string (N k)] w' fun e w'' => e = .returned (.tuple #[.int .i64 k, .bool true]) ∧ Ext w' w'') := Lib.hid (fun w' hx => (CFI.out (some ⟨bo, 0, none⟩) n (N k) w' hx).mono fun e w'' hh => ⟨by rw [hh.1, HOWN.out k hlt]; rfl, hh.2⟩)
      generalize N k = x at *
      clear hx
      go_upto_region 10 with (fail)
      refine wp_region_later (by kernel_rfl) (by kernel_rfl) ?_
      have l_0 := fun (g : Later wr) => g.ok.cell p_0
      have l_1 := fun (g : Later wr) => g.ok.cell p_1
      have l_2 := fun (g : Later wr) => g.ok.cell p_2
      have l_3 := fun (g : Later wr) => g.ok.cell p_3
      have l_4 := fun (g : Later wr) => g.ok.cell p_4
      have l_5 := fun (g : Later wr) => g.ok.cell p_5
      have l_6 := fun (g : Later wr) => g.ok.cell p_6
      have l_7 := fun (g : Later wr) => g.ok.cell p_7
      have l_8 := fun (g : Later wr) => g.ok.cell p_8
      have l_9 := fun (g : Later wr) => g.ok.cell p_9
      have l_10 := fun (g : Later wr) => g.ok.cell p_10
      have l_11 := fun (g : Later wr) => g.ok.cell p_11
      have l_12 := fun (g : Later wr) => g.ok.cell p_12
      have l_13 := fun (g : Later wr) => g.ok.cell p_13
      repeat (go_big_quiet_step ((fail)))
      go_big_quiet_step ((go_at_call 14; exact laterC (CNk.out _ (EW.trans (Later.ok _)))))
      repeat (go_big_quiet_step ((fail)))
      go_big_quiet_step ((go_at_call 23; exact laterC (CFk.out _ (EW.trans (Later.ok _)))))
      repeat (go_big_quiet_step ((fail)))
      refine wpQuiet_nil ?_
      intro w3 hl3
      have hb3 := laters_ext hl3
      clear hl3 l_0 l_1 l_2 l_3 l_4 l_5 l_6 l_7 l_8 l_9 l_10 l_11 l_12 l_13
      have HX3 := Lib.hid (HX.out.trans hb3)
      clear hb3 p_0 p_1 p_2 p_3 p_4 p_5 p_6 p_7 p_8 p_9 p_10 p_11 p_12 p_13
      go_wp2
      exact ⟨⟨k + 1, by omega, by go_num, HX3.out⟩, by simp [intOf]; omega⟩
    · obtain rfl : k = m := by omega
      have EW := EF.trans hx
      have CR1 := Lib.hid (fun w' (hx : Ext wf0 w') => rFind gr k cr s N w' (by omega) (fun c hc => hx.cell (HNC.out c hc)))
      have CF1 := Lib.hid (fun w' (hx : Ext w w') => CFI.out (some ⟨bo, 0, none⟩) n s w' hx)
      clear hx
      obtain ⟨nn, fb, kk, hEq, hMx, hN1, hN2, hN3⟩ : ∃ (nn : Int) (fb : Bool) (kk : Int), (fb == decide (0 ≤ kk)) = true ∧ (if (0 : Int) > kk then 0 else kk) = nn ∧ findI (findN N s k) = nn ∧ (findN N s k).isSome = fb ∧ fnd (findN N s k) = kk := by
        refine ⟨_, _, _, ?_, ?_, rfl, rfl, rfl⟩
        · cases findN N s k with
          | none => rfl
          | some c => show (true == decide ((0 : Int) ≤ (c : Int))) = true; simp
        · cases findN N s k with
          | none => rfl
          | some c => show (if (0 : Int) > (c : Int) then 0 else (c : Int)) = (c : Int); rw [if_neg (by omega)]
      have hM := fun ts t w => run_max_int2 (P := Tryd.prog) w ts t .i64 .i64 kk 0
      rw [hMx] at hM
      have C1 : Hid (∀ w', Ext w w' → Calls Tryd.prog 23 #[(.agg #[.int .i64 V, .int .i64 W, .int .i64 C, .int .i64 P, .int .u64 S, .slice (some ⟨bo, 0, none⟩) n n, .int .i64 Cu, .int .i64 Cl, .int .i64 Ti, .int .i64 Se, .int .i64 Ne, .int .i64 Ma, .int .i64 Sl, .int .i64 k]), .string s] w' fun e w'' => e = .returned (.tuple #[.int .i64 nn, .bool fb]) ∧ Ext w' w'') := Lib.hid (fun w' hx => (CF1.out w' hx).mono fun e w'' hh => ⟨by rw [hh.1, hN1, hN2], hh.2⟩)
      have C2 : Hid (∀ w', Ext wf0 w' → Calls Tryd.prog 17 #[.slice (some ⟨gr, 0, none⟩) k cr, .string s] w' fun e w'' => e = .returned (.int .i64 kk) ∧ w' = w'') := Lib.hid (fun w' hx => (CR1.out w' hx).mono fun e w'' hh => ⟨by rw [hh.1, hN3], hh.2⟩)
      clear hN1 hN2 hN3 hMx
      go_wp2_with fail
      refine (C1.out _ EW).mono ?_
      rintro e w4 ⟨rfl, X4⟩
      have HX4 := Lib.hid (HX.out.trans X4)
      have HE4 := Lib.hid (EW.trans X4)
      clear X4
      go_wp2_with fail
      refine (C2.out _ HX4.out).mono ?_
      rintro e w' ⟨rfl, rfl⟩
      go_wp2_with fail
      refine (CV.out _ HE4.out).mono ?_
      rintro e w5 ⟨rfl, X5⟩
      have HE5 := Lib.hid (HE4.out.trans X5)
      clear X5
      go_wp2
      go_ret
      exact ⟨rfl, Ext.below HE5.out⟩
end Go.Proofs.YtaimmpcijdpgdaaDoor

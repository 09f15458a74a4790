/- The walk of BoardChains. -/
import Derived.Test.YtaimmpcijdpgdabDoorOpenD
import Derived.Test.YtaimmpcijdpgdabDoorChn
import Derived.Test.YtaimmpcijdpgdabDoorCf2
namespace Go.Proofs.YtaimmpcijdpgdabDoor
open Go.RowKit
set_option linter.unusedVariables false
set_option linter.unusedSimpArgs false
set_option maxHeartbeats 4000000
attribute [local go_sem] later_cell later_frozen later_const
set_option maxRecDepth 100000 in
theorem boardChains_walk (V W C P S : Int) (a : Option Addr) (len cap : Nat) (ups : List (List Int)) (a2 : Option Addr) (len2 cap2 : Nat) (ds : List DoR) (w : World) (wf : (Lit.int .i64 V).wf = true ∧ (Lit.int .i64 W).wf = true ∧ (Lit.int .i64 C).wf = true ∧ (Lit.int .i64 P).wf = true ∧ (Lit.int .u64 S).wf = true) (h : Came w a len cap ups) (hD : IsDos w a2 len2 cap2 ds) (E : Parts w) :
    Calls Tryd.prog 3 #[(.agg #[.int .i64 V, .int .i64 W, .int .i64 C, .int .i64 P, .int .u64 (S), .slice a len cap]), .slice a2 len2 cap2] w fun e w' => e = .returned (.bool true) ∧ Below w.heap.size w w' := by
  have hS := wf_u64 wf.2.2.2.2
  obtain ⟨hS0, hS1⟩ := hS
  clear wf
  obtain ⟨hdl, hdc, hdm, hdo, hdr⟩ := hD
  have CL := fun w' (hx : Ext w w') => long _ ups w' (h.l.ext hx) (by rw [h.n]; exact h.m) (fun l hl => (h.each l hl).1)
  have CV := Lib.hid (fun w' (hx : Ext w w') => live12 w' (E.ext hx))
  cases hb : longB ups
  case true =>
    rw [hb] at CL
    have HCL := Lib.hid CL
    clear CL h hb E hdr hdo
    go_enter Tryd.func3, Tryd.ntmps3
    go_wp2_with fail
    refine (HCL.out _ (by repeat (first | with_reducible exact Ext.refl _ | with_reducible assumption | with_reducible refine Ext.alloc ?_ _ | with_reducible refine Ext.drew ?_ | with_reducible refine Ext.drewN ?_ _ | with_reducible refine Ext.setCell ?_ (by simp <;> omega) _ | with_reducible refine Ext.trans ?_ (by assumption)))).mono ?_
    rintro e w' ⟨rfl, rfl⟩
    go_wp2_with fail
    refine (CV.out _ (by repeat (first | with_reducible exact Ext.refl _ | with_reducible assumption | with_reducible refine Ext.alloc ?_ _ | with_reducible refine Ext.drew ?_ | with_reducible refine Ext.drewN ?_ _ | with_reducible refine Ext.setCell ?_ (by simp <;> omega) _ | with_reducible refine Ext.trans ?_ (by assumption)))).mono ?_
    rintro e w1 ⟨rfl, hb1⟩
    obtain ⟨hc1, hf1⟩ := hb1.cells
    go_wp2
    go_ret
    refine ⟨rfl, Ext.below ?_⟩
    repeat (first | with_reducible exact Ext.refl _ | with_reducible assumption | with_reducible refine Ext.alloc ?_ _ | with_reducible refine Ext.drew ?_ | with_reducible refine Ext.drewN ?_ _ | with_reducible refine Ext.setCell ?_ (by simp <;> omega) _ | with_reducible refine Ext.trans ?_ (by assumption))
  rw [hb] at CL
  have HCL := Lib.hid CL
  obtain ⟨hll, hn⟩ := came_small h hb
  obtain rfl := h.n
  have hd63 : len2 ≤ 9223372036854775807 := by unfold maxLen at hdm; omega
  by_cases h200 : 200 < len2
  · have d200 : decide ((200 : Int) < (len2 : Int)) = true := by simp; omega
    clear CL h hb E hdr hdo hll hn
    generalize ups.length = n at *
    go_enter Tryd.func3, Tryd.ntmps3
    go_wp2_with fail
    refine (HCL.out _ (by repeat (first | with_reducible exact Ext.refl _ | with_reducible assumption | with_reducible refine Ext.alloc ?_ _ | with_reducible refine Ext.drew ?_ | with_reducible refine Ext.drewN ?_ _ | with_reducible refine Ext.setCell ?_ (by simp <;> omega) _ | with_reducible refine Ext.trans ?_ (by assumption)))).mono ?_
    rintro e w' ⟨rfl, rfl⟩
    go_wp2_with fail
    refine (CV.out _ (by repeat (first | with_reducible exact Ext.refl _ | with_reducible assumption | with_reducible refine Ext.alloc ?_ _ | with_reducible refine Ext.drew ?_ | with_reducible refine Ext.drewN ?_ _ | with_reducible refine Ext.setCell ?_ (by simp <;> omega) _ | with_reducible refine Ext.trans ?_ (by assumption)))).mono ?_
    rintro e w2 ⟨rfl, hb2⟩
    obtain ⟨hc2, hf2⟩ := hb2.cells
    go_wp2
    go_ret
    refine ⟨rfl, Ext.below ?_⟩
    repeat (first | with_reducible exact Ext.refl _ | with_reducible assumption | with_reducible refine Ext.alloc ?_ _ | with_reducible refine Ext.drew ?_ | with_reducible refine Ext.drewN ?_ _ | with_reducible refine Ext.setCell ?_ (by simp <;> omega) _ | with_reducible refine Ext.trans ?_ (by assumption))
  have d200 : decide ((200 : Int) < (len2 : Int)) = false := by simp; omega
  have CR := fun w' (hx : Ext w w') => r10Right V W C P S _ ups w' (h.l.ext hx) hll hn
  by_cases hg : ckC V W C P ups = 0
  case neg =>
    rw [show (ckC V W C P ups == 0) = false by simpa using hg] at CR
    have HCR := Lib.hid CR
    clear CL CR h hb E hdr hdo hll hg hn
    generalize ups.length = n at *
    go_enter Tryd.func3, Tryd.ntmps3
    go_wp2_with fail
    refine (HCL.out _ (by repeat (first | with_reducible exact Ext.refl _ | with_reducible assumption | with_reducible refine Ext.alloc ?_ _ | with_reducible refine Ext.drew ?_ | with_reducible refine Ext.drewN ?_ _ | with_reducible refine Ext.setCell ?_ (by simp <;> omega) _ | with_reducible refine Ext.trans ?_ (by assumption)))).mono ?_
    rintro e w' ⟨rfl, rfl⟩
    go_wp2_with fail
    refine (HCR.out _ (by repeat (first | with_reducible exact Ext.refl _ | with_reducible assumption | with_reducible refine Ext.alloc ?_ _ | with_reducible refine Ext.drew ?_ | with_reducible refine Ext.drewN ?_ _ | with_reducible refine Ext.setCell ?_ (by simp <;> omega) _ | with_reducible refine Ext.trans ?_ (by assumption)))).mono ?_
    rintro e w3 ⟨rfl, hb3⟩
    obtain ⟨hc3, hf3⟩ := hb3.cells
    go_wp2_with fail
    refine (CV.out _ (by repeat (first | with_reducible exact Ext.refl _ | with_reducible assumption | with_reducible refine Ext.alloc ?_ _ | with_reducible refine Ext.drew ?_ | with_reducible refine Ext.drewN ?_ _ | with_reducible refine Ext.setCell ?_ (by simp <;> omega) _ | with_reducible refine Ext.trans ?_ (by assumption)))).mono ?_
    rintro e w4 ⟨rfl, hb4⟩
    obtain ⟨hc4, hf4⟩ := hb4.cells
    go_wp2
    go_ret
    refine ⟨rfl, Ext.below ?_⟩
    repeat (first | with_reducible exact Ext.refl _ | with_reducible assumption | with_reducible refine Ext.alloc ?_ _ | with_reducible refine Ext.drew ?_ | with_reducible refine Ext.drewN ?_ _ | with_reducible refine Ext.setCell ?_ (by simp <;> omega) _ | with_reducible refine Ext.trans ?_ (by assumption))
  rw [show (ckC V W C P ups == 0) = true by simpa using hg] at CR
  by_cases hw : W = 32
  case neg =>
    have HCR := Lib.hid CR
    have dw : (W == 32) = false := by simpa using hw
    clear CL CR h hb E hdr hdo hll hg hn hw
    generalize ups.length = n at *
    go_enter Tryd.func3, Tryd.ntmps3
    go_wp2_with fail
    refine (HCL.out _ (by repeat (first | with_reducible exact Ext.refl _ | with_reducible assumption | with_reducible refine Ext.alloc ?_ _ | with_reducible refine Ext.drew ?_ | with_reducible refine Ext.drewN ?_ _ | with_reducible refine Ext.setCell ?_ (by simp <;> omega) _ | with_reducible refine Ext.trans ?_ (by assumption)))).mono ?_
    rintro e w' ⟨rfl, rfl⟩
    go_wp2_with fail
    refine (HCR.out _ (by repeat (first | with_reducible exact Ext.refl _ | with_reducible assumption | with_reducible refine Ext.alloc ?_ _ | with_reducible refine Ext.drew ?_ | with_reducible refine Ext.drewN ?_ _ | with_reducible refine Ext.setCell ?_ (by simp <;> omega) _ | with_reducible refine Ext.trans ?_ (by assumption)))).mono ?_
    rintro e w5 ⟨rfl, hb5⟩
    obtain ⟨hc5, hf5⟩ := hb5.cells
    clear hc5 hf5
    have qc_0 : w5.cell? ⟨w.heap.size, 0, none⟩ = some (.int .i64 V) := (hb5.cells.1 _ _ (by simp <;> omega)).trans (by simp [go_sem])
    have qc_1 : w5.cell? ⟨w.heap.size, 1, none⟩ = some (.int .i64 W) := (hb5.cells.1 _ _ (by simp <;> omega)).trans (by simp [go_sem])
    have qc_2 : w5.cell? ⟨w.heap.size, 2, none⟩ = some (.int .i64 C) := (hb5.cells.1 _ _ (by simp <;> omega)).trans (by simp [go_sem])
    have qc_3 : w5.cell? ⟨w.heap.size, 3, none⟩ = some (.int .i64 P) := (hb5.cells.1 _ _ (by simp <;> omega)).trans (by simp [go_sem])
    have qc_4 : w5.cell? ⟨w.heap.size, 4, none⟩ = some (.int .u64 (S)) := (hb5.cells.1 _ _ (by simp <;> omega)).trans (by simp [go_sem])
    have qc_5 : w5.cell? ⟨w.heap.size, 5, none⟩ = some (.slice a n cap) := (hb5.cells.1 _ _ (by simp <;> omega)).trans (by simp [go_sem])
    have pc := World.block_lt_of_cell? _ ⟨w.heap.size, 0, none⟩ qc_0
    have rc := Nat.lt_succ_of_lt pc
    go_wp2_with fail
    refine (CV.out _ (by repeat (first | with_reducible exact Ext.refl _ | with_reducible assumption | with_reducible refine Ext.alloc ?_ _ | with_reducible refine Ext.drew ?_ | with_reducible refine Ext.drewN ?_ _ | with_reducible refine Ext.setCell ?_ (by simp <;> omega) _ | with_reducible refine Ext.trans ?_ (by assumption)))).mono ?_
    rintro e w6 ⟨rfl, hb6⟩
    have hx6 : Ext w5 w6 := by repeat (first | with_reducible exact Ext.refl _ | with_reducible assumption | with_reducible refine Ext.alloc ?_ _ | with_reducible refine Ext.drew ?_ | with_reducible refine Ext.drewN ?_ _ | with_reducible refine Ext.setCell ?_ (by simp <;> omega) _ | with_reducible refine Ext.trans ?_ (by assumption))
    replace qc_0 := hx6.cell qc_0
    replace qc_1 := hx6.cell qc_1
    replace qc_2 := hx6.cell qc_2
    replace qc_3 := hx6.cell qc_3
    replace qc_4 := hx6.cell qc_4
    replace qc_5 := hx6.cell qc_5
    replace pc := Nat.lt_of_lt_of_le pc hx6.size
    replace rc := Nat.lt_succ_of_lt pc
    clear hx6
    go_wp2
    go_ret
    refine ⟨rfl, Ext.below ?_⟩
    repeat (first | with_reducible exact Ext.refl _ | with_reducible assumption | with_reducible refine Ext.alloc ?_ _ | with_reducible refine Ext.drew ?_ | with_reducible refine Ext.drewN ?_ _ | with_reducible refine Ext.setCell ?_ (by simp <;> omega) _ | with_reducible refine Ext.trans ?_ (by assumption))
  subst hw
  have HCR := Lib.hid CR
  have h2l : len2 ≤ 200 := by omega
  have ok := ok_iff.1 hg
  have hok := numOk ok
  have hbd := num_bounds hok
  obtain ⟨n, hn0⟩ : ∃ n, n = ups.length := ⟨_, rfl⟩
  obtain ⟨m, hm⟩ : ∃ m : Nat, (m : Int) = nCe V n C := ⟨(nCe V n C).toNat, by rw [hn0]; omega⟩
  have hokn : NumOk V n C := by rw [hn0]; exact hok
  have CO := fun w' (hx : Ext w w') => lOf_ok V 32 C P S _ ups w' (h.l.ext hx) hll hn hg
  have CNW := fun bo w' (hL' : OwnL w' (.slice (some ⟨bo, 0, none⟩) ups.length ups.length) ups) (xu xl xt xs xn xm xo : Int) => New32 V C P S (some ⟨bo, 0, none⟩) ups.length ups xu xl xt xs xn xm xo m w' hL'.lists hll hn hg hS0 hS1 (by rw [← hn0]; exact hm)
  have CF := fun bo w' (hL' : OwnL w' (.slice (some ⟨bo, 0, none⟩) ups.length ups.length) ups) (c : Nat) => first_at (S := S) ok (some ⟨bo, 0, none⟩) ups.length w' hL'.lists hll hn hg hS0 hS1 c
  rw [← hn0] at CO CNW CF
  have HRNG : Hid (∀ i, i < m → 0 ≤ fsC V 32 C S n i ∧ fsC V 32 C S n i < 18446744073709551616) := Lib.hid (fun i _ => fst_rng (.inl rfl) ok.rc hS0 hS1 _ _)
  have HYOK : Hid (∀ bo, YOk (yOf V 32 C P S bo n m)) := Lib.hid (fun bo => yOf_ok hokn hm)
  obtain ⟨Cu, hCu⟩ : ∃ x, x = nCu V n := ⟨_, rfl⟩
  obtain ⟨Cl, hCl⟩ : ∃ x, x = nCl V n := ⟨_, rfl⟩
  obtain ⟨Ti, hTi⟩ : ∃ x, x = nTi V n := ⟨_, rfl⟩
  obtain ⟨Se, hSe⟩ : ∃ x, x = nSe V n := ⟨_, rfl⟩
  obtain ⟨Ne, hNe⟩ : ∃ x, x = nNe V n := ⟨_, rfl⟩
  obtain ⟨Ma, hMa⟩ : ∃ x, x = nMa V n := ⟨_, rfl⟩
  obtain ⟨Sl, hSl⟩ : ∃ x, x = nSl V n C := ⟨_, rfl⟩
  have hLay : ∀ u, layV V 32 C P S u n = (.agg #[.int .i64 V, .int .i64 32, .int .i64 C, .int .i64 P, .int .u64 S, u, .int .i64 Cu, .int .i64 Cl, .int .i64 Ti, .int .i64 Se, .int .i64 Ne, .int .i64 Ma, .int .i64 Sl, .int .i64 m]) := fun u => by unfold layV; rw [hCu, hCl, hTi, hSe, hNe, hMa, hSl, hm]
  simp only [hLay] at CF
  have HLAY := Lib.hid hLay
  have HCO := Lib.hid CO
  have HCNW := Lib.hid CNW
  have HCF : Hid (∀ bo w', OwnL w' (.slice (some ⟨bo, 0, none⟩) n n) ups → ∀ c : Nat, Calls Tryd.prog 11 #[(.agg #[.int .i64 V, .int .i64 32, .int .i64 C, .int .i64 P, .int .u64 S, .slice (some ⟨bo, 0, none⟩) n n, .int .i64 Cu, .int .i64 Cl, .int .i64 Ti, .int .i64 Se, .int .i64 Ne, .int .i64 Ma, .int .i64 Sl, .int .i64 m]), .int .i64 c] w' fun e w'' => e = .returned (.int .u64 (fsC V 32 C S n c)) ∧ Ext w' w'') := Lib.hid (fun bo w' h c => CF bo w' h c)
  have HM : Hid (∀ bo, (yOf V 32 C P S bo n m).m = m) := Lib.hid (fun _ => rfl)
  have HE := Lib.hid E
  have HDO := Lib.hid hdo
  have HDR := Lib.hid hdr
  have HDL := Lib.hid hdl
  have HN0 := Lib.hid hn0
  rw [← hn0] at HCL HCR ⊢
  clear CL CR CO CNW CF h hb E hll hg ok hok hokn hbd hn hLay hCu hCl hTi hSe hNe hMa hSl hm hn0 hdo hdr hdl hS0 hS1 h200
  generalize hF : fsC V 32 C S n = F at *
  have HFF := Lib.hid hF
  generalize hY : (fun bo => yOf V 32 C P S bo n m) = Y0 at *
  have HY0 : Hid (∀ bo, yOf V 32 C P S bo n m = Y0 bo) := Lib.hid (fun bo => by rw [← hY])
  clear hF hY
  go_enter Tryd.func3, Tryd.ntmps3
  go_wp2_with fail
  refine (HCL.out _ (by repeat (first | with_reducible exact Ext.refl _ | with_reducible assumption | with_reducible refine Ext.alloc ?_ _ | with_reducible refine Ext.drew ?_ | with_reducible refine Ext.drewN ?_ _ | with_reducible refine Ext.setCell ?_ (by simp <;> omega) _ | with_reducible refine Ext.trans ?_ (by assumption)))).mono ?_
  rintro e w' ⟨rfl, rfl⟩
  go_wp2_with fail
  refine (HCR.out _ (by repeat (first | with_reducible exact Ext.refl _ | with_reducible assumption | with_reducible refine Ext.alloc ?_ _ | with_reducible refine Ext.drew ?_ | with_reducible refine Ext.drewN ?_ _ | with_reducible refine Ext.setCell ?_ (by simp <;> omega) _ | with_reducible refine Ext.trans ?_ (by assumption)))).mono ?_
  rintro e w7 ⟨rfl, hb7⟩
  obtain ⟨hc7, hf7⟩ := hb7.cells
  clear hc7 hf7
  have qc_0 : w7.cell? ⟨w.heap.size, 0, none⟩ = some (.int .i64 V) := (hb7.cells.1 _ _ (by simp <;> omega)).trans (by simp [go_sem])
  have qc_1 : w7.cell? ⟨w.heap.size, 1, none⟩ = some (.int .i64 32) := (hb7.cells.1 _ _ (by simp <;> omega)).trans (by simp [go_sem])
  have qc_2 : w7.cell? ⟨w.heap.size, 2, none⟩ = some (.int .i64 C) := (hb7.cells.1 _ _ (by simp <;> omega)).trans (by simp [go_sem])
  have qc_3 : w7.cell? ⟨w.heap.size, 3, none⟩ = some (.int .i64 P) := (hb7.cells.1 _ _ (by simp <;> omega)).trans (by simp [go_sem])
  have qc_4 : w7.cell? ⟨w.heap.size, 4, none⟩ = some (.int .u64 (S)) := (hb7.cells.1 _ _ (by simp <;> omega)).trans (by simp [go_sem])
  have qc_5 : w7.cell? ⟨w.heap.size, 5, none⟩ = some (.slice a n cap) := (hb7.cells.1 _ _ (by simp <;> omega)).trans (by simp [go_sem])
  have pc := World.block_lt_of_cell? _ ⟨w.heap.size, 0, none⟩ qc_0
  have rc := Nat.lt_succ_of_lt pc
  go_wp2_with fail
  have E1 : Ext w w7 := by repeat (first | with_reducible exact Ext.refl _ | with_reducible assumption | with_reducible refine Ext.alloc ?_ _ | with_reducible refine Ext.drew ?_ | with_reducible refine Ext.drewN ?_ _ | with_reducible refine Ext.setCell ?_ (by simp <;> omega) _ | with_reducible refine Ext.trans ?_ (by assumption))
  refine (HCO.out _ E1).mono ?_
  rintro e wo ⟨uo, rfl, Oo, Xo⟩
  obtain ⟨bo, fo, cuo, eo, -⟩ := id Oo
  rw [← HN0.out] at eo ⊢
  subst eo
  rw [HLAY.out]
  have xo := E1.trans Xo
  have HOo := Lib.hid (Oo.ext ((Ext.refl wo).alloc (.cells #[.int .i64 V, .int .i64 32, .int .i64 C, .int .i64 P, .int .u64 S, .slice (some ⟨bo, 0, none⟩) n n, .int .i64 Cu, .int .i64 Cl, .int .i64 Ti, .int .i64 Se, .int .i64 Ne, .int .i64 Ma, .int .i64 Sl, .int .i64 m] 31)))
  clear Xo Oo E1 qc_0 qc_1 qc_2 qc_3 qc_4 qc_5
  go_wp2_with fail
  have HNEW := Lib.hid (HCNW.out bo _ HOo.out Cu Cl Ti Se Ne Ma Sl)
  refine HNEW.out.mono ?_
  rintro e w3 ⟨b, g, bo3, rfl, B3, O3, X3, hb3, hg3⟩
  rw [← HN0.out, HY0.out, HFF.out] at B3
  have EA : Ext w (wo.alloc (.cells #[.int .i64 V, .int .i64 32, .int .i64 C, .int .i64 P, .int .u64 S, .slice (some ⟨bo, 0, none⟩) n n, .int .i64 Cu, .int .i64 Cl, .int .i64 Ti, .int .i64 Se, .int .i64 Ne, .int .i64 Ma, .int .i64 Sl, .int .i64 m] 31)) := xo.alloc _
  have ql_0 : (wo.alloc (.cells #[.int .i64 V, .int .i64 32, .int .i64 C, .int .i64 P, .int .u64 S, .slice (some ⟨bo, 0, none⟩) n n, .int .i64 Cu, .int .i64 Cl, .int .i64 Ti, .int .i64 Se, .int .i64 Ne, .int .i64 Ma, .int .i64 Sl, .int .i64 m] 31)).cell? ⟨wo.heap.size, 0, none⟩ = some (.int .i64 V) := by simp [go_sem]
  have ql_1 : (wo.alloc (.cells #[.int .i64 V, .int .i64 32, .int .i64 C, .int .i64 P, .int .u64 S, .slice (some ⟨bo, 0, none⟩) n n, .int .i64 Cu, .int .i64 Cl, .int .i64 Ti, .int .i64 Se, .int .i64 Ne, .int .i64 Ma, .int .i64 Sl, .int .i64 m] 31)).cell? ⟨wo.heap.size, 1, none⟩ = some (.int .i64 32) := by simp [go_sem]
  have ql_2 : (wo.alloc (.cells #[.int .i64 V, .int .i64 32, .int .i64 C, .int .i64 P, .int .u64 S, .slice (some ⟨bo, 0, none⟩) n n, .int .i64 Cu, .int .i64 Cl, .int .i64 Ti, .int .i64 Se, .int .i64 Ne, .int .i64 Ma, .int .i64 Sl, .int .i64 m] 31)).cell? ⟨wo.heap.size, 2, none⟩ = some (.int .i64 C) := by simp [go_sem]
  have ql_3 : (wo.alloc (.cells #[.int .i64 V, .int .i64 32, .int .i64 C, .int .i64 P, .int .u64 S, .slice (some ⟨bo, 0, none⟩) n n, .int .i64 Cu, .int .i64 Cl, .int .i64 Ti, .int .i64 Se, .int .i64 Ne, .int .i64 Ma, .int .i64 Sl, .int .i64 m] 31)).cell? ⟨wo.heap.size, 3, none⟩ = some (.int .i64 P) := by simp [go_sem]
  have ql_4 : (wo.alloc (.cells #[.int .i64 V, .int .i64 32, .int .i64 C, .int .i64 P, .int .u64 S, .slice (some ⟨bo, 0, none⟩) n n, .int .i64 Cu, .int .i64 Cl, .int .i64 Ti, .int .i64 Se, .int .i64 Ne, .int .i64 Ma, .int .i64 Sl, .int .i64 m] 31)).cell? ⟨wo.heap.size, 4, none⟩ = some (.int .u64 S) := by simp [go_sem]
  have ql_5 : (wo.alloc (.cells #[.int .i64 V, .int .i64 32, .int .i64 C, .int .i64 P, .int .u64 S, .slice (some ⟨bo, 0, none⟩) n n, .int .i64 Cu, .int .i64 Cl, .int .i64 Ti, .int .i64 Se, .int .i64 Ne, .int .i64 Ma, .int .i64 Sl, .int .i64 m] 31)).cell? ⟨wo.heap.size, 5, none⟩ = some (.slice (some ⟨bo, 0, none⟩) n n) := by simp [go_sem]
  have ql_6 : (wo.alloc (.cells #[.int .i64 V, .int .i64 32, .int .i64 C, .int .i64 P, .int .u64 S, .slice (some ⟨bo, 0, none⟩) n n, .int .i64 Cu, .int .i64 Cl, .int .i64 Ti, .int .i64 Se, .int .i64 Ne, .int .i64 Ma, .int .i64 Sl, .int .i64 m] 31)).cell? ⟨wo.heap.size, 6, none⟩ = some (.int .i64 Cu) := by simp [go_sem]
  have ql_7 : (wo.alloc (.cells #[.int .i64 V, .int .i64 32, .int .i64 C, .int .i64 P, .int .u64 S, .slice (some ⟨bo, 0, none⟩) n n, .int .i64 Cu, .int .i64 Cl, .int .i64 Ti, .int .i64 Se, .int .i64 Ne, .int .i64 Ma, .int .i64 Sl, .int .i64 m] 31)).cell? ⟨wo.heap.size, 7, none⟩ = some (.int .i64 Cl) := by simp [go_sem]
  have ql_8 : (wo.alloc (.cells #[.int .i64 V, .int .i64 32, .int .i64 C, .int .i64 P, .int .u64 S, .slice (some ⟨bo, 0, none⟩) n n, .int .i64 Cu, .int .i64 Cl, .int .i64 Ti, .int .i64 Se, .int .i64 Ne, .int .i64 Ma, .int .i64 Sl, .int .i64 m] 31)).cell? ⟨wo.heap.size, 8, none⟩ = some (.int .i64 Ti) := by simp [go_sem]
  have ql_9 : (wo.alloc (.cells #[.int .i64 V, .int .i64 32, .int .i64 C, .int .i64 P, .int .u64 S, .slice (some ⟨bo, 0, none⟩) n n, .int .i64 Cu, .int .i64 Cl, .int .i64 Ti, .int .i64 Se, .int .i64 Ne, .int .i64 Ma, .int .i64 Sl, .int .i64 m] 31)).cell? ⟨wo.heap.size, 9, none⟩ = some (.int .i64 Se) := by simp [go_sem]
  have ql_10 : (wo.alloc (.cells #[.int .i64 V, .int .i64 32, .int .i64 C, .int .i64 P, .int .u64 S, .slice (some ⟨bo, 0, none⟩) n n, .int .i64 Cu, .int .i64 Cl, .int .i64 Ti, .int .i64 Se, .int .i64 Ne, .int .i64 Ma, .int .i64 Sl, .int .i64 m] 31)).cell? ⟨wo.heap.size, 10, none⟩ = some (.int .i64 Ne) := by simp [go_sem]
  have ql_11 : (wo.alloc (.cells #[.int .i64 V, .int .i64 32, .int .i64 C, .int .i64 P, .int .u64 S, .slice (some ⟨bo, 0, none⟩) n n, .int .i64 Cu, .int .i64 Cl, .int .i64 Ti, .int .i64 Se, .int .i64 Ne, .int .i64 Ma, .int .i64 Sl, .int .i64 m] 31)).cell? ⟨wo.heap.size, 11, none⟩ = some (.int .i64 Ma) := by simp [go_sem]
  have ql_12 : (wo.alloc (.cells #[.int .i64 V, .int .i64 32, .int .i64 C, .int .i64 P, .int .u64 S, .slice (some ⟨bo, 0, none⟩) n n, .int .i64 Cu, .int .i64 Cl, .int .i64 Ti, .int .i64 Se, .int .i64 Ne, .int .i64 Ma, .int .i64 Sl, .int .i64 m] 31)).cell? ⟨wo.heap.size, 12, none⟩ = some (.int .i64 Sl) := by simp [go_sem]
  have ql_13 : (wo.alloc (.cells #[.int .i64 V, .int .i64 32, .int .i64 C, .int .i64 P, .int .u64 S, .slice (some ⟨bo, 0, none⟩) n n, .int .i64 Cu, .int .i64 Cl, .int .i64 Ti, .int .i64 Se, .int .i64 Ne, .int .i64 Ma, .int .i64 Sl, .int .i64 m] 31)).cell? ⟨wo.heap.size, 13, none⟩ = some (.int .i64 m) := by simp [go_sem]
  obtain ⟨wA, hwA⟩ : ∃ wA, wA = wo.alloc (.cells #[.int .i64 V, .int .i64 32, .int .i64 C, .int .i64 P, .int .u64 S, .slice (some ⟨bo, 0, none⟩) n n, .int .i64 Cu, .int .i64 Cl, .int .i64 Ti, .int .i64 Se, .int .i64 Ne, .int .i64 Ma, .int .i64 Sl, .int .i64 m] 31) := ⟨_, rfl⟩
  rw [← hwA] at EA X3 hb3 hg3 HOo ql_0 ql_1 ql_2 ql_3 ql_4 ql_5 ql_6 ql_7 ql_8 ql_9 ql_10 ql_11 ql_12 ql_13
  have HB3 := Lib.hid B3
  have HX3 := Lib.hid X3
  have hYm : (Y0 bo3).m = m := by rw [← HY0.out]; rfl
  have HYO : Hid (YOk (Y0 bo3)) := Lib.hid (by rw [← HY0.out]; exact HYOK.out bo3)
  have HRG := HRNG
  generalize Y0 bo3 = y at *
  clear hwA xo B3 X3 O3 HNEW HCNW HCO HLAY HCL HCR HM HYOK HRNG HY0
  go_wp2
  go_loopw [8] (fun i wr => ∃ k : Nat, k ≤ len2 ∧ i = .int .i64 k ∧ ∃ f lv log, BD wr 60 b g y f lv log ∧ Chain y.m F f log ∧ log.length ≤ k ∧ Ext wA wr ∧ (∀ j, lv.ownBlock = some j → wA.heap.size ≤ j)) (fun i _ => len2 - (intOf i).toNat)
  case atStart => exact ⟨0, Nat.zero_le _, rfl, F, .slice none 0 0, [], HB3.out, Chain.nil (by rw [hYm]; exact HRG.out), Nat.le_refl _, HX3.out, fun j h => by cases h⟩
  case round =>
    obtain ⟨k, hk, rfl, f, lv, log, hB, hC, hL, hx, hlv⟩ := hrel
    by_cases hlt : k < len2
    · have hkl : (k : Int) < (len2 : Int) := by omega
      have hkd : k < ds.length := by rw [HDL.out]; exact hlt
      obtain ⟨db, doff, ea, hcell⟩ := HDR.out k hkd
      subst ea
      have hok := HDO.out _ (List.getElem_mem hkd)
      obtain ⟨_, _, _, _, wo', wz'⟩ := hok
      obtain ⟨o0, o1⟩ := wf_u64 wo'
      obtain ⟨z0, z1⟩ := wf_u64 wz'
      have c0 := (EA.trans hx).cell (hcell 0 _ rfl)
      have c1 := (EA.trans hx).cell (hcell 1 _ rfl)
      have c2 := (EA.trans hx).cell (hcell 2 _ rfl)
      have c3 := (EA.trans hx).cell (hcell 3 _ rfl)
      have c4 := (EA.trans hx).cell (hcell 4 _ rfl)
      have c5 := (EA.trans hx).cell (hcell 5 _ rfl)
      have CS := Lib.hid (small_step b g y f lv log ds[k] wr hB HYO.out (HE.out.ext (EA.trans hx)) (by omega) hC.rng o0 o1 z0 z1)
      have HST := Lib.hid (hC.stp 32 (.inl rfl) ds[k] z0 z1)
      have HSL := Lib.hid (stp_len y 32 (.inl rfl) ds[k] f log hC.rng z0 z1)
      have HX := Lib.hid hx
      have HLV := Lib.hid hlv
      have HLL := Lib.hid hL
      have hbg : wA.heap.size ≤ b ∧ wA.heap.size ≤ g := ⟨hb3, hg3⟩
      generalize ds[k] = d at *
      clear hB hC hL hx hlv hcell wo' wz' o0 o1 z0 z1 hkd
      rw [show doff + (k * 6 + 0) = doff + k * 6 by omega] at c0
      rw [show doff + (k * 6 + 1) = doff + k * 6 + 1 by omega] at c1
      rw [show doff + (k * 6 + 2) = doff + k * 6 + 2 by omega] at c2
      rw [show doff + (k * 6 + 3) = doff + k * 6 + 3 by omega] at c3
      rw [show doff + (k * 6 + 4) = doff + k * 6 + 4 by omega] at c4
      rw [show doff + (k * 6 + 5) = doff + k * 6 + 5 by omega] at c5
      go_wp2_with fail
      refine CS.out.mono ?_
      rintro e w5 ⟨rfl, lv', B5, T5, A5⟩
      have hge : ∀ j, Own b g lv j → wA.heap.size ≤ j := fun j hj => by
        rcases hj with hj | hj | hj
        · omega
        · omega
        · exact HLV.out j hj
      have HX5 := Lib.hid (But.ext HX.out T5 hge)
      have HLV5 : Hid (∀ j, lv'.ownBlock = some j → wA.heap.size ≤ j) := Lib.hid (fun j hj => by
        rcases A5 with e | ⟨q, e, hq⟩
        · exact HLV.out j (by rw [← e]; exact hj)
        · rw [e] at hj
          cases hj
          exact Nat.le_trans HX.out.size hq)
      have HB5 := Lib.hid B5
      clear B5 T5 A5 hge c0 c1 c2 c3 c4 c5
      go_wp2
      exact ⟨⟨k + 1, by omega, by go_num, _, lv', _, HB5.out, HST.out, by have := HSL.out; have := HLL.out; omega, HX5.out, HLV5.out⟩, by simp [intOf]; omega⟩
    · obtain rfl : k = len2 := by omega
      have CLG := Lib.hid (Log32 b g y f lv log wr hB (by omega))
      have HCH := Lib.hid hC
      have HX := Lib.hid hx
      have hlog : log.length ≤ 200 := by omega
      clear hB hC hx hlv hL
      go_wp2_with fail
      refine CLG.out.mono ?_
      rintro e wl ⟨v, rfl, Rl, Xl⟩
      obtain ⟨al, capl, el, -⟩ := rowA_form Rl
      subst el
      have HR := Lib.hid Rl
      have EL := HX.out.trans Xl
      have HOL := Lib.hid (HOo.out.ext EL)
      have EWL := EA.trans EL
      have HK : Hid (∀ i, (hi : i < log.length) → ∃ c : Nat, c < m ∧ log[i].c = c ∧ log[i].o = lastN (F c) (log.take i) c) := Lib.hid (by rw [← hYm]; exact HCH.out.old)
      have p_0 := EL.cell ql_0
      have p_1 := EL.cell ql_1
      have p_2 := EL.cell ql_2
      have p_3 := EL.cell ql_3
      have p_4 := EL.cell ql_4
      have p_5 := EL.cell ql_5
      have p_6 := EL.cell ql_6
      have p_7 := EL.cell ql_7
      have p_8 := EL.cell ql_8
      have p_9 := EL.cell ql_9
      have p_10 := EL.cell ql_10
      have p_11 := EL.cell ql_11
      have p_12 := EL.cell ql_12
      have p_13 := EL.cell ql_13
      obtain ⟨L, hLd⟩ : ∃ L, L = log.length := ⟨_, rfl⟩
      have HLd := Lib.hid hLd
      rw [← hLd] at hlog
      rw [← hLd]
      clear Rl Xl EL hLd HX CLG
      go_wp2
      go_loopw [10] (fun i wr => ∃ i0 : Nat, i0 ≤ L ∧ i = .int .i64 i0 ∧ Ext wl wr) (fun i _ => L - (intOf i).toNat)
      case atStart => exact ⟨0, Nat.zero_le _, rfl, Ext.refl _⟩
      case round =>
        obtain ⟨i, hi, rfl, hxr⟩ := hrel
        by_cases hil : i < L
        · have hiL : (i : Int) < (L : Int) := by omega
          have hi' : i < log.length := by rw [← HLd.out]; exact hil
          obtain ⟨c, hcm, hcc, hco⟩ := HK.out i hi'
          have HCELL : Hid (∀ j, (hj : j < log.length) → ∃ gl, al = some ⟨gl, 0, none⟩ ∧ ∀ w', Ext wl w' → w'.cell? ⟨gl, j * 5 + 2, none⟩ = some (.int .i64 log[j].c) ∧ w'.cell? ⟨gl, j * 5 + 3, none⟩ = some (.int .u64 log[j].o) ∧ w'.cell? ⟨gl, j * 5 + 4, none⟩ = some (.int .u64 log[j].n)) := Lib.hid (fun j hj => by
            obtain ⟨gl, ea, r0, r1, r2, r3, r4⟩ := rowA_cell (by rw [← HLd.out]; rw [← HLd.out] at HR; exact HR.out) hj
            exact ⟨gl, ea, fun w' hx => ⟨hx.cell r2, hx.cell r3, hx.cell r4⟩⟩)
          obtain ⟨gl, ea, hrow⟩ := HCELL.out i hi'
          subst ea
          obtain ⟨r2, r3, -⟩ := hrow wr hxr
          rw [hcc] at r2
          rw [hco] at r3
          have HCC := Lib.hid hcc
          have HCO := Lib.hid hco
          have CF1 := Lib.hid (fun w' (hx : Ext wl w') => HCF.out bo w' (HOL.out.ext hx) c)
          have HX := Lib.hid hxr
          have w_0 := hxr.cell p_0
          have w_1 := hxr.cell p_1
          have w_2 := hxr.cell p_2
          have w_3 := hxr.cell p_3
          have w_4 := hxr.cell p_4
          have w_5 := hxr.cell p_5
          have w_6 := hxr.cell p_6
          have w_7 := hxr.cell p_7
          have w_8 := hxr.cell p_8
          have w_9 := hxr.cell p_9
          have w_10 := hxr.cell p_10
          have w_11 := hxr.cell p_11
          have w_12 := hxr.cell p_12
          have w_13 := hxr.cell p_13
          clear hrow hxr hcc hco
          go_upto_region 13 with (fail)
          refine wp_region_later (by kernel_rfl) (by kernel_rfl) ?_
          have l_0 := fun (g : Later wr) => g.ok.cell w_0
          have l_1 := fun (g : Later wr) => g.ok.cell w_1
          have l_2 := fun (g : Later wr) => g.ok.cell w_2
          have l_3 := fun (g : Later wr) => g.ok.cell w_3
          have l_4 := fun (g : Later wr) => g.ok.cell w_4
          have l_5 := fun (g : Later wr) => g.ok.cell w_5
          have l_6 := fun (g : Later wr) => g.ok.cell w_6
          have l_7 := fun (g : Later wr) => g.ok.cell w_7
          have l_8 := fun (g : Later wr) => g.ok.cell w_8
          have l_9 := fun (g : Later wr) => g.ok.cell w_9
          have l_10 := fun (g : Later wr) => g.ok.cell w_10
          have l_11 := fun (g : Later wr) => g.ok.cell w_11
          have l_12 := fun (g : Later wr) => g.ok.cell w_12
          have l_13 := fun (g : Later wr) => g.ok.cell w_13
          have s2 := fun (g : Later wr) => g.ok.cell r2
          repeat (go_big_quiet_step ((fail)))
          go_big_quiet_step ((go_at_call 11; exact laterC (CF1.out _ (HX.out.trans (Later.ok _)))))
          repeat (go_big_quiet_step ((fail)))
          refine wpQuiet_nil ?_
          intro w4 hl4
          have hb4 := laters_ext hl4
          have HX4 := Lib.hid (HX.out.trans hb4)
          clear hl4 hb4 s2 l_0 l_1 l_2 l_3 l_4 l_5 l_6 l_7 l_8 l_9 l_10 l_11 l_12 l_13 w_0 w_1 w_2 w_3 w_4 w_5 w_6 w_7 w_8 w_9 w_10 w_11 w_12 w_13 r2 r3 CF1
          have HI : Hid (∀ w', Ext wl w' → w'.cell? ⟨gl, i * 5 + 2, none⟩ = some (.int .i64 c) ∧ w'.cell? ⟨gl, i * 5 + 3, none⟩ = some (.int .u64 (lastN (F c) (log.take i) c))) := Lib.hid (fun w' hx => by
            obtain ⟨gl', e, hr⟩ := HCELL.out i hi'
            cases e
            obtain ⟨a1, a2, _⟩ := hr w' hx
            obtain ⟨c', b1, b2, b3⟩ := HK.out i hi'
            exact ⟨by rw [a1, HCC.out], by rw [a2, HCO.out]⟩)
          go_wp2
          go_loopw [11, 12] (fun h j wr2 => ∃ j0 : Nat, j0 ≤ i ∧ j = .int .i64 j0 ∧ h = .int .u64 (lastN (F c) (log.take j0) c) ∧ Ext wl wr2) (fun _ j _ => i - (intOf j).toNat)
          case atStart => exact ⟨0, Nat.zero_le _, rfl, by simp [lastN], HX4.out⟩
          case round =>
            obtain ⟨j, hj, rfl, rfl, hxj⟩ := hrel
            by_cases hjl : j < i
            · have hji : (j : Int) < (i : Int) := by omega
              have hjL : (j : Int) < (L : Int) := by omega
              have hj' : j < log.length := by omega
              obtain ⟨t2, -⟩ := HI.out wr hxj
              obtain ⟨gl', e, hr⟩ := HCELL.out j hj'
              cases e
              obtain ⟨u2, -, u4⟩ := hr wr hxj
              have hs := lastN_snoc (F c) (log.take j) log[j] c
              rw [← take_snoc hj'] at hs
              have HXj := Lib.hid hxj
              generalize lastN (F c) (log.take j) c = v at *
              generalize log[j] = q at *
              clear hr hxj
              by_cases hq : q.c = c
              · have HS : Hid (lastN (F c) (log.take (j + 1)) c = q.n) := Lib.hid (by rw [hs, if_pos hq])
                rw [hq] at u2
                clear hs hq
                go_upto_region 17 with (fail)
                refine wp_region_later (by kernel_rfl) (by kernel_rfl) ?_
                have s2 := fun (g : Later wr) => g.ok.cell t2
                have s3 := fun (g : Later wr) => g.ok.cell u2
                repeat (go_big_quiet_step ((fail)))
                refine wpQuiet_nil ?_
                intro w5 hl5
                have hb5 := laters_ext hl5
                replace u4 := hb5.cell u4
                have HX5 := Lib.hid (HXj.out.trans hb5)
                clear hl5 hb5 s2 s3 t2 u2
                go_wp2
                exact ⟨⟨j + 1, by omega, by go_num, by rw [HS.out], HX5.out⟩, by simp [intOf]; omega⟩
              · have HS : Hid (lastN (F c) (log.take (j + 1)) c = v) := Lib.hid (by rw [hs, if_neg hq])
                have dq : (q.c == (c : Int)) = false := by simpa using hq
                clear hs hq
                go_upto_region 17 with (fail)
                refine wp_region_later (by kernel_rfl) (by kernel_rfl) ?_
                have s2 := fun (g : Later wr) => g.ok.cell t2
                have s3 := fun (g : Later wr) => g.ok.cell u2
                repeat (go_big_quiet_step ((fail)))
                refine wpQuiet_nil ?_
                intro w5 hl5
                have hb5 := laters_ext hl5
                have HX5 := Lib.hid (HXj.out.trans hb5)
                clear hl5 hb5 s2 s3 t2 u2 u4
                go_wp2
                exact ⟨⟨j + 1, by omega, by go_num, by rw [HS.out], HX5.out⟩, by simp [intOf]; omega⟩
            · obtain rfl : j = i := by omega
              obtain ⟨-, t3⟩ := HI.out wr hxj
              have HXj := Lib.hid hxj
              generalize lastN (F c) (log.take j) c = v at *
              clear hxj
              go_wp2
              exact ⟨⟨j + 1, by omega, by go_num, HXj.out⟩, by simp [intOf]; omega⟩
        · obtain rfl : i = L := by omega
          have EW := EWL.trans hxr
          clear hxr
          go_wp2_with fail
          refine (CV.out _ EW).mono ?_
          rintro e w7 ⟨rfl, X7⟩
          have HE7 := Lib.hid (EW.trans X7)
          clear X7
          go_wp2
          go_ret
          exact ⟨rfl, Ext.below HE7.out⟩
end Go.Proofs.YtaimmpcijdpgdabDoor

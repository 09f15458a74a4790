/- The walk of ConfOthers. -/
import Derived.Test.YtlalkefbcddbfabLawCf
import Derived.Test.YtlalkefbcddbfabCfR
import Derived.Test.YtlalkefbcddbfabGrow
namespace Go.Proofs.Ytlalkefbcddbfab
open Go.RowKit
set_option linter.unusedVariables false
set_option maxHeartbeats 2000000
attribute [local go_sem] later_cell later_frozen later_const
/-- a configuration in a row -/
theorem conf_at {w : World} {base g cap len : Nat} {C P S : Int} {ps : List (Int × Int)} {us : List Value} (h : w.ownsRow base 25 6 (.slice (some ⟨g, 0, none⟩) len cap) ps.length (rowT C P S ps us)) (hl : us.length = ps.length) {i : Nat} {p : Int × Int} {u : Value} (hp : ps[i]? = some p) (hu : us[i]? = some u) :
    w.cell? ⟨g, i * 6, none⟩ = some (.int .i64 p.1) ∧ w.cell? ⟨g, i * 6 + 1, none⟩ = some (.int .i64 p.2) ∧ w.cell? ⟨g, i * 6 + 2, none⟩ = some (.int .i64 C) ∧ w.cell? ⟨g, i * 6 + 3, none⟩ = some (.int .i64 P) ∧ w.cell? ⟨g, i * 6 + 4, none⟩ = some (.int .u64 S) ∧ w.cell? ⟨g, i * 6 + 5, none⟩ = some u := by
  have hi : i < ps.length := (List.getElem?_eq_some_iff.1 hp).1
  have hL := rowT_len C P S ps us hl
  have hlen : len = ps.length := by
    rcases h.2 with ⟨e, _⟩ | ⟨g', cap', cur, e, _⟩
    · cases e
    · cases e; rfl
  subst hlen
  have key : ∀ j, j < 6 → w.cell? ⟨g, i * 6 + j, none⟩ = (cc C P S p u)[j]? := by
    intro j hj
    rw [h.cellAt (i * 6 + j) (by omega)]
    exact rowT_at C P S ps us i p u j hl hp hu hj
  exact ⟨key 0 (by omega), key 1 (by omega), key 2 (by omega), key 3 (by omega), key 4 (by omega), key 5 (by omega)⟩
set_option maxRecDepth 100000 in
theorem confOthers_walk (V W C P S : Int) (a : Option Addr) (len cap : Nat) (ups : List (List Int)) (w : World) (wf : (Lit.int .i64 V).wf = true ∧ (Lit.int .i64 W).wf = true ∧ (Lit.int .i64 C).wf = true ∧ (Lit.int .i64 P).wf = true ∧ (Lit.int .u64 S).wf = true) (h : Came w a len cap ups) :
    Calls Try.prog 5 #[(.agg #[.int .i64 V, .int .i64 W, .int .i64 C, .int .i64 P, .int .u64 (S), .slice a len cap])] w fun e w' => e = .returned (.bool true) ∧ Below w.heap.size w w' := by
  have hS := wf_u64 wf.2.2.2.2
  clear wf
  have CL := fun w' (hx : Ext w w') => long _ ups w' (h.l.ext hx) (by rw [h.n]; exact h.m) (fun l hl => (h.each l hl).1)
  cases hb : longB ups
  · rw [hb] at CL
    have HCL := Lib.hid CL
    obtain ⟨hll, hn⟩ := came_small h hb
    have CR := Lib.hid (fun w' (hx : Ext w w') => r10Right V W C P S _ ups w' (h.l.ext hx) hll hn)
    by_cases hg : ckC V W C P ups = 0
    · have ok := ok_iff.1 hg
      have hle := h.n
      subst hle
      have C1 := Lib.hid (fun w' (hx : Ext w w') => cOthers_ok V W C P S a cap ups w' (h.l.ext hx) hll ok)
      have C2 := Lib.hid (fun w' (hx : Ext w w') => rOthers V W C P S a cap ups w' (h.l.ext hx) hll ok hS.1)
      have HA1 := Lib.hid (fun (p : Int × Int) u w' (hx : Ext w w') (hu : ListsV w' u ups) => rSame p.1 p.2 C P (S % 4294967296) u _ ups w' hu (h.l.ext hx) hn hll)
      have HA2 : Hid (∀ (p : Int × Int), p ∈ tg P 10 → ∀ u w', ListsV w' u ups → Calls Try.prog 10 #[(.agg #[.int .i64 (p.1), .int .i64 (p.2), .int .i64 C, .int .i64 P, .int .u64 (S % 4294967296), u])] w' fun e w'' => e = .returned (.int .i64 0) ∧ Ext w' w'') := Lib.hid (fun p hp u w' hu => by
        have := cCheck p.1 p.2 C P (S % 4294967296) u ups w' hu hll hn
        obtain ⟨t1, t2, t3, t4⟩ := tg_mem hp
        rwa [(ok_other ok t1 t2 t3).2 t4] at this)
      have HA3 : Hid (∀ (p : Int × Int) u w', Ext w w' → ListsV w' u ups → Calls Try.prog 25 #[(.agg #[.int .i64 V, .int .i64 W, .int .i64 C, .int .i64 P, .int .u64 (S), .slice a ups.length cap]), (.agg #[.int .i64 (p.1), .int .i64 (p.2), .int .i64 C, .int .i64 P, .int .u64 (S % 4294967296), u])] w' fun e w'' => e = .returned (.bool true) ∧ Ext w' w'') := Lib.hid (fun p u w' hx hu => by
        have := cAlike V W C P S p.1 p.2 C P (S % 4294967296) _ u ups ups w' (h.l.ext hx) hu hn hn hll hll
        rwa [show alikeB C P S C P (S % 4294967296) ups ups = true by unfold alikeB; simp] at this)
      have HTC := Lib.hid (tg_count ok.p1 ok.p4)
      have hn6 := ok.rt.six
      have kg : (ckC V W C P ups == 0) = true := by simpa using hg
      rw [kg] at CR
      clear CL h hb hll hn hg ok kg hS
      generalize S % 4294967296 = Z at *
      generalize ups.length = n at *
      go_enter Try.func5, Try.ntmps5
      go_wp2_with fail
      refine (HCL.out _ (by repeat (first | with_reducible exact Ext.refl _ | with_reducible assumption | with_reducible refine Ext.alloc ?_ _ | with_reducible refine Ext.drew ?_ | with_reducible refine Ext.drewN ?_ _ | with_reducible refine Ext.setCell ?_ (by simp <;> omega) _ | with_reducible refine Ext.trans ?_ (by assumption)))).mono ?_
      rintro e w' ⟨rfl, rfl⟩
      go_wp2_with fail
      refine (CR.out _ (by repeat (first | with_reducible exact Ext.refl _ | with_reducible assumption | with_reducible refine Ext.alloc ?_ _ | with_reducible refine Ext.drew ?_ | with_reducible refine Ext.drewN ?_ _ | with_reducible refine Ext.setCell ?_ (by simp <;> omega) _ | with_reducible refine Ext.trans ?_ (by assumption)))).mono ?_
      rintro e w1 ⟨rfl, hb1⟩
      obtain ⟨hc1, hf1⟩ := hb1.cells
      clear hc1 hf1
      have qc_0 : w1.cell? ⟨w.heap.size, 0, none⟩ = some (.int .i64 V) := (hb1.cells.1 _ _ (by simp <;> omega)).trans (by simp [go_sem])
      have qc_1 : w1.cell? ⟨w.heap.size, 1, none⟩ = some (.int .i64 W) := (hb1.cells.1 _ _ (by simp <;> omega)).trans (by simp [go_sem])
      have qc_2 : w1.cell? ⟨w.heap.size, 2, none⟩ = some (.int .i64 C) := (hb1.cells.1 _ _ (by simp <;> omega)).trans (by simp [go_sem])
      have qc_3 : w1.cell? ⟨w.heap.size, 3, none⟩ = some (.int .i64 P) := (hb1.cells.1 _ _ (by simp <;> omega)).trans (by simp [go_sem])
      have qc_4 : w1.cell? ⟨w.heap.size, 4, none⟩ = some (.int .u64 (S)) := (hb1.cells.1 _ _ (by simp <;> omega)).trans (by simp [go_sem])
      have qc_5 : w1.cell? ⟨w.heap.size, 5, none⟩ = some (.slice a n cap) := (hb1.cells.1 _ _ (by simp <;> omega)).trans (by simp [go_sem])
      have pc := World.block_lt_of_cell? _ ⟨w.heap.size, 0, none⟩ qc_0
      have rc := Nat.lt_succ_of_lt pc
      have hxx : Ext w w1 := by repeat (first | with_reducible exact Ext.refl _ | with_reducible assumption | with_reducible refine Ext.alloc ?_ _ | with_reducible refine Ext.drew ?_ | with_reducible refine Ext.drewN ?_ _ | with_reducible refine Ext.setCell ?_ (by simp <;> omega) _ | with_reducible refine Ext.trans ?_ (by assumption))
      go_upto_region 3 with (fail)
      have lc_0 := fun wz (h : Ext w1 wz) => h.cell qc_0
      have lc_1 := fun wz (h : Ext w1 wz) => h.cell qc_1
      have lc_2 := fun wz (h : Ext w1 wz) => h.cell qc_2
      have lc_3 := fun wz (h : Ext w1 wz) => h.cell qc_3
      have lc_4 := fun wz (h : Ext w1 wz) => h.cell qc_4
      have lc_5 := fun wz (h : Ext w1 wz) => h.cell qc_5
      refine wp_region_held_drew (S := fun w' => Ext w1 w') (by kernel_rfl) ?hbeg (fun hHeld => ?_)
      case hbeg => exact (Ext.refl w1).drew
      refine take_at (i := 0) (v := ?_) rfl rfl (by kernel_rfl) (by kernel_rfl) (by kernel_rfl) (fun _ _ _ h => h) (Or.inl ⟨by rfl, ?hy0⟩) (by assumption) ?_
      case hy0 => (intro wz hSw; (try dsimp only at hSw); go_simp <;> with_reducible rfl)
      simp only [List.setIfInBounds_toArray, List.set_cons_zero, List.set_cons_succ]
      refine take_at (i := 2) (v := ?_) rfl rfl (by kernel_rfl) (by kernel_rfl) (by kernel_rfl) (fun _ _ _ h => h) (Or.inl ⟨by rfl, ?hy2⟩) (by assumption) ?_
      case hy2 => (intro wz hSw; (try dsimp only at hSw); go_simp <;> with_reducible rfl)
      simp only [List.setIfInBounds_toArray, List.set_cons_zero, List.set_cons_succ]
      refine call_at (i := 1) (F := 22) (C1.out _ (hxx.trans hHeld)) rfl rfl (by kernel_rfl) (by rfl) (by first | rfl | (go_simp <;> rfl)) ?_
      rintro e wq ⟨v1, us, rfl, T1⟩
      have Y1 := Ext.trans hHeld T1.x
      refine ⟨_, rfl, Y1, wpAnyH_strong (S' := fun w' => Ext wq w') (fun w' h => Ext.trans Y1 h) _ _ _ _ ?_⟩
      simp only [List.setIfInBounds_toArray, List.set_cons_zero, List.set_cons_succ]
      have hHeld2 := Ext.refl wq
      have HT1 := Lib.hid T1
      obtain ⟨g1, cp1, e1⟩ : ∃ g cp, v1 = .slice (some ⟨g, 0, none⟩) (tg P 10).length cp := by
        rcases T1.row.2 with ⟨_, e2⟩ | ⟨g, cp, cur, e2, _⟩
        · exfalso
          have htc := HTC.out
          by_cases hP : P = 1
          · rw [if_pos hP] at htc; omega
          · rw [if_neg hP] at htc; omega
        · exact ⟨g, cp, e2⟩
      subst e1
      have HY1 := Lib.hid Y1
      clear T1 Y1
      refine call_at (i := 3) (F := 23) (C2.out _ (hxx.trans HY1.out)) rfl rfl (by kernel_rfl) (by rfl) (by first | rfl | (go_simp <;> rfl)) ?_
      rintro e wE ⟨v2, rfl, R2, X2⟩
      refine ⟨_, rfl, X2, ?_⟩
      simp only [List.setIfInBounds_toArray, List.set_cons_zero, List.set_cons_succ]
      obtain ⟨g2, cp2, e2⟩ : ∃ g cp, v2 = .slice (some ⟨g, 0, none⟩) (tg P 10).length cp := by
        rcases R2.2 with ⟨_, e2⟩ | ⟨g, cp, cur, e2, _⟩
        · exfalso
          have htc := HTC.out
          by_cases hP : P = 1
          · rw [if_pos hP] at htc; omega
          · rw [if_neg hP] at htc; omega
        · exact ⟨g, cp, e2⟩
      subst e2
      have HR2 := Lib.hid R2
      have HT2 := Lib.hid (HT1.out.ext X2)
      have EE : Ext w wE := (hxx.trans HY1.out).trans X2
      have EC := HY1.out.trans X2
      refine take_at (i := 4) (v := ?_) rfl rfl (by kernel_rfl) (by kernel_rfl) (by kernel_rfl) (fun _ _ _ h => h) (Or.inl ⟨by rfl, ?hy4⟩) (by assumption) ?_
      case hy4 => (intro wz hSw; (try dsimp only at hSw); go_simp <;> with_reducible rfl)
      simp only [List.setIfInBounds_toArray, List.set_cons_zero, List.set_cons_succ]
      refine take_at (i := 5) (v := ?_) rfl rfl (by kernel_rfl) (by kernel_rfl) (by kernel_rfl) (fun _ _ _ h => h) (Or.inl ⟨by rfl, ?hy5⟩) (by assumption) ?_
      case hy5 => (intro wz hSw; (try dsimp only at hSw); go_simp <;> with_reducible rfl)
      simp only [List.setIfInBounds_toArray, List.set_cons_zero, List.set_cons_succ]
      refine wpAnyH_done (by kernel_rfl) ?_ _
      replace qc_0 := EC.cell qc_0
      replace qc_1 := EC.cell qc_1
      replace qc_2 := EC.cell qc_2
      replace qc_3 := EC.cell qc_3
      replace qc_4 := EC.cell qc_4
      replace qc_5 := EC.cell qc_5
      clear lc_0 lc_1 lc_2 lc_3 lc_4 lc_5 hHeld hHeld2 HT1 HY1 R2 X2 EC C1 C2 HCL CR
      have htl := tg_len P 10
      obtain ⟨m, hm⟩ : ∃ m, m = (tg P 10).length := ⟨_, rfl⟩
      rw [← hm] at htl ⊢
      have htc := HTC.out
      rw [← hm] at htc
      have HM := Lib.hid hm
      clear hm HTC
      by_cases hP : P = 1
      · rw [if_pos hP] at htc
        have kP : (P == 1) = true := by simpa using hP
        subst htc
        clear hP
        go_wp2
        go_loopw [6] (fun i wr => ∃ k : Nat, k ≤ 10 ∧ i = .int .i64 k ∧ Ext wE wr) (fun i _ => 10 - (intOf i).toNat)
        case atStart => exact ⟨0, Nat.zero_le _, rfl, Ext.refl _⟩
        case round =>
          obtain ⟨i, hi, rfl, hx⟩ := hrel
          by_cases hlt : i < 10
          · have hin : (i : Int) < 10 := by omega
            have hit : i < (tg P 10).length := by have := HM.out; omega
            obtain ⟨p, hp⟩ : ∃ p, (tg P 10)[i]? = some p := ⟨_, List.getElem?_eq_getElem hit⟩
            obtain ⟨u, hu⟩ : ∃ u, us[i]? = some u := ⟨_, List.getElem?_eq_getElem (by rw [HT2.out.len]; exact hit)⟩
            have hpm : p ∈ tg P 10 := List.mem_of_getElem? hp
            have hum : u ∈ us := List.mem_of_getElem? hu
            have hOw := HT2.out.own u hum
            obtain ⟨a_0, a_1, a_2, a_3, a_4, a_5⟩ := conf_at HT2.out.row HT2.out.len hp hu
            obtain ⟨b_0, b_1, b_2, b_3, b_4, b_5⟩ := conf_at HR2.out (by simp) hp (u := .slice a n cap) (by rw [List.getElem?_replicate, if_pos hit])
            replace a_0 := hx.cell a_0
            replace a_1 := hx.cell a_1
            replace a_2 := hx.cell a_2
            replace a_3 := hx.cell a_3
            replace a_4 := hx.cell a_4
            replace a_5 := hx.cell a_5
            replace b_0 := hx.cell b_0
            replace b_1 := hx.cell b_1
            replace b_2 := hx.cell b_2
            replace b_3 := hx.cell b_3
            replace b_4 := hx.cell b_4
            replace b_5 := hx.cell b_5
            have d_0 := hx.cell qc_0
            have d_1 := hx.cell qc_1
            have d_2 := hx.cell qc_2
            have d_3 := hx.cell qc_3
            have d_4 := hx.cell qc_4
            have d_5 := hx.cell qc_5
            have HX := Lib.hid (EE.trans hx)
            have HU := Lib.hid (hOw.lists.ext hx)
            have HB1 := Lib.hid (fun (g : Later wr) => HA1.out p u g.world (HX.out.trans g.ok) (HU.out.ext g.ok))
            have HB2 := Lib.hid (fun (g : Later wr) => HA2.out p hpm u g.world (HU.out.ext g.ok))
            have HB3 := Lib.hid (fun (g : Later wr) => HA3.out p u g.world (HX.out.trans g.ok) (HU.out.ext g.ok))
            obtain ⟨p1, p2⟩ := p
            simp only [] at a_0 a_1 b_0 b_1
            clear hp hu hpm hum hOw hit
            go_wp2
            refine wp_region_later (by kernel_rfl) (by kernel_rfl) ?_
            have la0 := fun (g : Later wr) => g.ok.cell a_0
            have la1 := fun (g : Later wr) => g.ok.cell a_1
            have la2 := fun (g : Later wr) => g.ok.cell a_2
            have la3 := fun (g : Later wr) => g.ok.cell a_3
            have la4 := fun (g : Later wr) => g.ok.cell a_4
            have la5 := fun (g : Later wr) => g.ok.cell a_5
            have lb0 := fun (g : Later wr) => g.ok.cell b_0
            have lb1 := fun (g : Later wr) => g.ok.cell b_1
            have lb2 := fun (g : Later wr) => g.ok.cell b_2
            have lb3 := fun (g : Later wr) => g.ok.cell b_3
            have lb4 := fun (g : Later wr) => g.ok.cell b_4
            have lb5 := fun (g : Later wr) => g.ok.cell b_5
            have ld0 := fun (g : Later wr) => g.ok.cell d_0
            have ld1 := fun (g : Later wr) => g.ok.cell d_1
            have ld2 := fun (g : Later wr) => g.ok.cell d_2
            have ld3 := fun (g : Later wr) => g.ok.cell d_3
            have ld4 := fun (g : Later wr) => g.ok.cell d_4
            have ld5 := fun (g : Later wr) => g.ok.cell d_5
            repeat (go_big_quiet_step ((fail)))
            go_big_quiet_step ((go_at_call 24; exact laterC (HB1.out _)))
            repeat (go_big_quiet_step ((fail)))
            go_big_quiet_step ((go_at_call 10; exact laterC (HB2.out _)))
            repeat (go_big_quiet_step ((fail)))
            go_big_quiet_step ((go_at_call 25; exact laterC (HB3.out _)))
            repeat (go_big_quiet_step ((fail)))
            refine wpQuiet_nil ?_
            intro w6 hl6
            have X6 := laters_ext hl6
            clear hl6 la0 a_0 la1 a_1 la2 a_2 la3 a_3 la4 a_4 la5 a_5 lb0 b_0 lb1 b_1 lb2 b_2 lb3 b_3 lb4 b_4 lb5 b_5 ld0 d_0 ld1 d_1 ld2 d_2 ld3 d_3 ld4 d_4 ld5 d_5
            go_wp2
            exact ⟨⟨i + 1, by omega, by go_num, hx.trans X6⟩, by simp [intOf]; omega⟩
          · have E6 := EE.trans hx
            clear hx
            go_wp2_with fail
            refine (live10 _).mono ?_
            rintro e w7 ⟨rfl, X7⟩
            go_wp2
            go_ret
            exact ⟨rfl, (E6.trans X7).below⟩
      · rw [if_neg hP] at htc
        have kP : (P == 1) = false := by simpa using hP
        subst htc
        clear hP
        go_wp2
        go_loopw [6] (fun i wr => ∃ k : Nat, k ≤ 8 ∧ i = .int .i64 k ∧ Ext wE wr) (fun i _ => 8 - (intOf i).toNat)
        case atStart => exact ⟨0, Nat.zero_le _, rfl, Ext.refl _⟩
        case round =>
          obtain ⟨i, hi, rfl, hx⟩ := hrel
          by_cases hlt : i < 8
          · have hin : (i : Int) < 8 := by omega
            have hit : i < (tg P 10).length := by have := HM.out; omega
            obtain ⟨p, hp⟩ : ∃ p, (tg P 10)[i]? = some p := ⟨_, List.getElem?_eq_getElem hit⟩
            obtain ⟨u, hu⟩ : ∃ u, us[i]? = some u := ⟨_, List.getElem?_eq_getElem (by rw [HT2.out.len]; exact hit)⟩
            have hpm : p ∈ tg P 10 := List.mem_of_getElem? hp
            have hum : u ∈ us := List.mem_of_getElem? hu
            have hOw := HT2.out.own u hum
            obtain ⟨a_0, a_1, a_2, a_3, a_4, a_5⟩ := conf_at HT2.out.row HT2.out.len hp hu
            obtain ⟨b_0, b_1, b_2, b_3, b_4, b_5⟩ := conf_at HR2.out (by simp) hp (u := .slice a n cap) (by rw [List.getElem?_replicate, if_pos hit])
            replace a_0 := hx.cell a_0
            replace a_1 := hx.cell a_1
            replace a_2 := hx.cell a_2
            replace a_3 := hx.cell a_3
            replace a_4 := hx.cell a_4
            replace a_5 := hx.cell a_5
            replace b_0 := hx.cell b_0
            replace b_1 := hx.cell b_1
            replace b_2 := hx.cell b_2
            replace b_3 := hx.cell b_3
            replace b_4 := hx.cell b_4
            replace b_5 := hx.cell b_5
            have d_0 := hx.cell qc_0
            have d_1 := hx.cell qc_1
            have d_2 := hx.cell qc_2
            have d_3 := hx.cell qc_3
            have d_4 := hx.cell qc_4
            have d_5 := hx.cell qc_5
            have HX := Lib.hid (EE.trans hx)
            have HU := Lib.hid (hOw.lists.ext hx)
            have HB1 := Lib.hid (fun (g : Later wr) => HA1.out p u g.world (HX.out.trans g.ok) (HU.out.ext g.ok))
            have HB2 := Lib.hid (fun (g : Later wr) => HA2.out p hpm u g.world (HU.out.ext g.ok))
            have HB3 := Lib.hid (fun (g : Later wr) => HA3.out p u g.world (HX.out.trans g.ok) (HU.out.ext g.ok))
            obtain ⟨p1, p2⟩ := p
            simp only [] at a_0 a_1 b_0 b_1
            clear hp hu hpm hum hOw hit
            go_wp2
            refine wp_region_later (by kernel_rfl) (by kernel_rfl) ?_
            have la0 := fun (g : Later wr) => g.ok.cell a_0
            have la1 := fun (g : Later wr) => g.ok.cell a_1
            have la2 := fun (g : Later wr) => g.ok.cell a_2
            have la3 := fun (g : Later wr) => g.ok.cell a_3
            have la4 := fun (g : Later wr) => g.ok.cell a_4
            have la5 := fun (g : Later wr) => g.ok.cell a_5
            have lb0 := fun (g : Later wr) => g.ok.cell b_0
            have lb1 := fun (g : Later wr) => g.ok.cell b_1
            have lb2 := fun (g : Later wr) => g.ok.cell b_2
            have lb3 := fun (g : Later wr) => g.ok.cell b_3
            have lb4 := fun (g : Later wr) => g.ok.cell b_4
            have lb5 := fun (g : Later wr) => g.ok.cell b_5
            have ld0 := fun (g : Later wr) => g.ok.cell d_0
            have ld1 := fun (g : Later wr) => g.ok.cell d_1
            have ld2 := fun (g : Later wr) => g.ok.cell d_2
            have ld3 := fun (g : Later wr) => g.ok.cell d_3
            have ld4 := fun (g : Later wr) => g.ok.cell d_4
            have ld5 := fun (g : Later wr) => g.ok.cell d_5
            repeat (go_big_quiet_step ((fail)))
            go_big_quiet_step ((go_at_call 24; exact laterC (HB1.out _)))
            repeat (go_big_quiet_step ((fail)))
            go_big_quiet_step ((go_at_call 10; exact laterC (HB2.out _)))
            repeat (go_big_quiet_step ((fail)))
            go_big_quiet_step ((go_at_call 25; exact laterC (HB3.out _)))
            repeat (go_big_quiet_step ((fail)))
            refine wpQuiet_nil ?_
            intro w6 hl6
            have X6 := laters_ext hl6
            clear hl6 la0 a_0 la1 a_1 la2 a_2 la3 a_3 la4 a_4 la5 a_5 lb0 b_0 lb1 b_1 lb2 b_2 lb3 b_3 lb4 b_4 lb5 b_5 ld0 d_0 ld1 d_1 ld2 d_2 ld3 d_3 ld4 d_4 ld5 d_5
            go_wp2
            exact ⟨⟨i + 1, by omega, by go_num, hx.trans X6⟩, by simp [intOf]; omega⟩
          · have E6 := EE.trans hx
            clear hx
            go_wp2_with fail
            refine (live10 _).mono ?_
            rintro e w7 ⟨rfl, X7⟩
            go_wp2
            go_ret
            exact ⟨rfl, (E6.trans X7).below⟩
    · have kg : (ckC V W C P ups == 0) = false := by simpa using hg
      rw [kg] at CR
      clear CL h hb hll hn hg kg
      go_enter Try.func5, Try.ntmps5
      go_wp2_with fail
      refine (HCL.out _ (by repeat (first | with_reducible exact Ext.refl _ | with_reducible assumption | with_reducible refine Ext.alloc ?_ _ | with_reducible refine Ext.drew ?_ | with_reducible refine Ext.drewN ?_ _ | with_reducible refine Ext.setCell ?_ (by simp <;> omega) _ | with_reducible refine Ext.trans ?_ (by assumption)))).mono ?_
      rintro e w' ⟨rfl, rfl⟩
      go_wp2_with fail
      refine (CR.out _ (by repeat (first | with_reducible exact Ext.refl _ | with_reducible assumption | with_reducible refine Ext.alloc ?_ _ | with_reducible refine Ext.drew ?_ | with_reducible refine Ext.drewN ?_ _ | with_reducible refine Ext.setCell ?_ (by simp <;> omega) _ | with_reducible refine Ext.trans ?_ (by assumption)))).mono ?_
      rintro e w2 ⟨rfl, hb2⟩
      obtain ⟨hc2, hf2⟩ := hb2.cells
      go_wp2_with fail
      refine (live10 _).mono ?_
      rintro e w3 ⟨rfl, hb3⟩
      obtain ⟨hc3, hf3⟩ := hb3.cells
      go_wp2
      go_ret
      refine ⟨rfl, Ext.below ?_⟩
      repeat (first | with_reducible exact Ext.refl _ | with_reducible assumption | with_reducible refine Ext.alloc ?_ _ | with_reducible refine Ext.drew ?_ | with_reducible refine Ext.drewN ?_ _ | with_reducible refine Ext.setCell ?_ (by simp <;> omega) _ | with_reducible refine Ext.trans ?_ (by assumption))
  · rw [hb] at CL
    have HCL := Lib.hid CL
    clear CL h hb
    go_enter Try.func5, Try.ntmps5
    go_wp2_with fail
    refine (HCL.out _ (by repeat (first | with_reducible exact Ext.refl _ | with_reducible assumption | with_reducible refine Ext.alloc ?_ _ | with_reducible refine Ext.drew ?_ | with_reducible refine Ext.drewN ?_ _ | with_reducible refine Ext.setCell ?_ (by simp <;> omega) _ | with_reducible refine Ext.trans ?_ (by assumption)))).mono ?_
    rintro e w' ⟨rfl, rfl⟩
    go_wp2_with fail
    refine (live10 _).mono ?_
    rintro e w4 ⟨rfl, hb4⟩
    obtain ⟨hc4, hf4⟩ := hb4.cells
    go_wp2
    go_ret
    refine ⟨rfl, Ext.below ?_⟩
    repeat (first | with_reducible exact Ext.refl _ | with_reducible assumption | with_reducible refine Ext.alloc ?_ _ | with_reducible refine Ext.drew ?_ | with_reducible refine Ext.drewN ?_ _ | with_reducible refine Ext.setCell ?_ (by simp <;> omega) _ | with_reducible refine Ext.trans ?_ (by assumption))
end Go.Proofs.Ytlalkefbcddbfab

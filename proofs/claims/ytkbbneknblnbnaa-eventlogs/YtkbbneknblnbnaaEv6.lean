/- event.Merge. -/
import Derived.Test.YtkbbneknblnbnaaEv5
import Derived.Test.YtkbbneknblnbnaaEvR
namespace Go.Proofs.Ytkbbneknblnbnaa
open Go.RowKit
set_option linter.unusedVariables false
set_option linter.unusedSimpArgs false
set_option maxHeartbeats 4000000
attribute [local go_sem] later_cell later_frozen later_const
/-- a call gives these events, each one's data apart, in memory of its own -/
def GivesM (w : World) (L : List Ev) (e : Ending) (w' : World) : Prop := ∃ v, e = .returned v ∧ RM w' w.heap.size v L ∧ Ext w w'
theorem mrun_shape (W : Int) (L : List Ev) : ∀ k, k ≤ L.length → 0 < k → ∃ D x, mrun W (L.take k) = (D, some x) := by
  intro k hk h0
  obtain ⟨k, rfl⟩ : ∃ j, k = j + 1 := ⟨k - 1, by omega⟩
  rw [mrun_snoc W (by omega)]
  generalize mrun W (L.take k) = s
  obtain ⟨D, c⟩ := s
  cases c with
  | none => exact ⟨D, _, rfl⟩
  | some l =>
    by_cases h : goOn W l L[k] = true
    · exact ⟨D, _, mst_yes h⟩
    · exact ⟨_, _, mst_no h⟩
theorem merged_take_tot (W : Int) (L : List Ev) (k : Nat) : tot (merged W (L.take k)) ≤ tot L := by
  rw [mrun_tot]
  exact tot_take L k
theorem merged_take_len (W : Int) (L : List Ev) (k : Nat) : (merged W (L.take k)).length ≤ L.length := by
  refine Nat.le_trans (mrun_len W _) ?_
  rw [List.length_take]
  exact Nat.min_le_right _ _
theorem eMerge_no (W : Int) (v : Value) (w : World) (h1 : (W == 32) = false) (h2 : (W == 64) = false) : Calls Try.prog 23 #[.int .i64 W, v] w fun e w' => e = .returned (.slice none 0 0) ∧ w = w' := by
  go_enter Try.func23, Try.ntmps23
  go_wp2_with fail
  refine (wRight_no _ _ h1 h2).mono ?_
  rintro e w' ⟨rfl, rfl⟩
  go_wp2
  go_ret
  exact ⟨rfl, rfl⟩
set_option maxRecDepth 100000 in
theorem eMerge32 {B : Nat} (v : Value) (L : List Ev) (w : World) (h : EvsV w B v L) (hBw : B ≤ w.heap.size) (hl : L.length ≤ 900000) (ht : tot L ≤ 900000) : Calls Try.prog 23 #[.int .i64 32, v] w (GivesM w (merged 32 L)) := by
  obtain ⟨a, cap, e, hm, f⟩ := h.get3
  subst e
  have HA := Lib.hid f
  have HT := Lib.hid (fun e (he : e ∈ L) => Nat.le_trans (tot_mem he) ht)
  have HG : Hid (∀ v w', RM w' w.heap.size v (merged 32 (L.take L.length)) → Ext w w' → GivesM w (merged 32 L) (.returned v) w') := Lib.hid (fun v w' h1 h2 => ⟨v, rfl, by rwa [List.take_length] at h1, h2⟩)
  have HS := Lib.hid (fun k hk => mrun_snoc 32 (L := L) (k := k) hk)
  have HSH := Lib.hid (mrun_shape 32 L)
  have HTT := Lib.hid (fun k => Nat.le_trans (merged_take_tot 32 L k) ht)
  have HLL := Lib.hid (fun k => Nat.le_trans (merged_take_len 32 L k) hl)
  generalize GivesM w (merged 32 L) = G at *
  clear h f ht
  go_enter Try.func23, Try.ntmps23
  go_wp2_with fail
  refine (wRight_yes _ _ (by decide)).mono ?_
  rintro e w' ⟨rfl, rfl⟩
  go_wp2
  go_loopw [5, 14] (fun v i wr => ∃ k : Nat, k ≤ L.length ∧ i = .int .i64 k ∧ RM wr w.heap.size v (merged 32 (L.take k)) ∧ Ext w wr) (fun _ i _ => L.length - (intOf i).toNat)
  case atStart => exact ⟨0, Nat.zero_le _, rfl, by rw [List.take_zero]; exact RM.nil _ _, Ext.refl _⟩
  case round =>
    obtain ⟨k, hk, rfl, hR, hx⟩ := hrel
    by_cases hlt : k < L.length
    case neg =>
      obtain rfl : k = L.length := by omega
      have HG2 := Lib.hid (HG.out _ wr hR hx)
      clear hR hx
      go_wp2
      exact HG2.out
    have hlt' : (k : Int) < (L.length : Int) := by omega
    obtain ⟨b, off, u, ea, A⟩ := HA.out wr hx k hlt
    subst ea
    have hdl := HT.out L[k] (List.getElem_mem hlt)
    have hs : merged 32 (L.take (k + 1)) = outM (mst 32 (mrun 32 (L.take k)) L[k]) := by unfold merged; rw [HS.out k hlt]
    obtain ⟨ua, uc, eu⟩ := A.d.len
    have htk := HTT.out (k + 1)
    generalize L[k] = x at *
    generalize hul : x.d.length = ul at eu
    subst eu
    have HUL := Lib.hid hul
    clear hul
    have HSN := Lib.hid hs
    have HR := Lib.hid hR
    have HX := Lib.hid hx
    have HAD := Lib.hid A.d
    have HDL := Lib.hid hdl
    have HTK := Lib.hid htk
    obtain ⟨c0, c1, c2, c3, c4, c5, c6, -⟩ := A
    clear hR hx hs hdl htk
    go_upto_region 7 with (fail)
    refine settle_wp ?_
    intro wA hbA
    have XA : Ext wr wA := Ext.trans (by repeat (first | with_reducible exact Ext.refl _ | with_reducible assumption | with_reducible refine Ext.alloc ?_ _ | with_reducible refine Ext.drew ?_ | with_reducible refine Ext.drewN ?_ _ | with_reducible refine Ext.setCell ?_ (by simp <;> omega) _ | with_reducible refine Ext.trans ?_ (by assumption))) hbA
    have qa_0 : wA.cell? ⟨wr.heap.size, 0, none⟩ = some (.int .i64 x.k) := hbA.cell (by simp [go_sem])
    have qa_1 : wA.cell? ⟨wr.heap.size, 1, none⟩ = some (.int .i64 x.t) := hbA.cell (by simp [go_sem])
    have qa_2 : wA.cell? ⟨wr.heap.size, 2, none⟩ = some (.int .i64 x.o) := hbA.cell (by simp [go_sem])
    have qa_3 : wA.cell? ⟨wr.heap.size, 3, none⟩ = some (.int .i64 x.n) := hbA.cell (by simp [go_sem])
    have qa_4 : wA.cell? ⟨wr.heap.size, 4, none⟩ = some (.int .u64 x.p) := hbA.cell (by simp [go_sem])
    have qa_5 : wA.cell? ⟨wr.heap.size, 5, none⟩ = some (.int .i64 x.c) := hbA.cell (by simp [go_sem])
    have qa_6 : wA.cell? ⟨wr.heap.size, 6, none⟩ = some (.slice ua ul uc) := hbA.cell (by simp [go_sem])
    have HBN : Hid (∀ q, q ≠ wr.heap.size → q = q) := Lib.hid (fun _ _ => rfl)
    have HXA := Lib.hid (HX.out.trans XA)
    have HRA := Lib.hid (HR.out.ext XA)
    have HDA := Lib.hid (HAD.out.ext XA)
    have hbx : wr.heap.size < wA.heap.size := World.block_lt_of_cell? wA ⟨wr.heap.size, 0, none⟩ qa_0
    have HBX : Hid (∀ g, TagE wr g 31 → g ≠ wr.heap.size) := Lib.hid (fun g tg e => by have := tg.lt; omega)
    have HRR := Lib.hid hbx
    clear hbA c0 c1 c2 c3 c4 c5 c6 HAD
    have hfl := HLL.out k
    by_cases hk0 : k = 0
    case pos =>
      subst hk0
      have e0 : merged 32 (L.take 0) = [] := by rw [List.take_zero]; rfl
      have e1 : merged 32 (L.take (0 + 1)) = [] ++ [x] := by rw [HSN.out, List.take_zero]; rfl
      rw [e0] at HRA HR
      have HE1 := Lib.hid e1
      obtain ⟨va, vc, ev⟩ := HRA.out.re.len
      have ev' : u5 = .slice va 0 vc := ev
      clear ev
      subst ev'
      clear HSN e0 e1
      go_wp2
      refine wp_region_later (by kernel_rfl) (by kernel_rfl) ?_
      repeat (go_big_quiet_step ((fail)))
      refine wpQuiet_nil ?_
      intro w6 hl6
      have X6 := laters_ext hl6
      have HX6 := Lib.hid (HXA.out.trans X6)
      have HR6 := Lib.hid (HRA.out.ext X6)
      have HD6 := Lib.hid (HDA.out.ext X6)
      replace qa_0 := X6.cell qa_0
      replace qa_1 := X6.cell qa_1
      replace qa_2 := X6.cell qa_2
      replace qa_3 := X6.cell qa_3
      replace qa_4 := X6.cell qa_4
      replace qa_5 := X6.cell qa_5
      replace qa_6 := X6.cell qa_6
      clear hl6 X6
      have CW := eWith x (.slice ua ul uc) (.slice ua ul uc) x.d w6 HD6.out (by have := HDL.out; omega)
      unfold evA at CW
      have HCW := Lib.hid CW
      clear CW
      go_wp2_with fail
      refine HCW.out.mono ?_
      rintro e w3 ⟨u3, rfl, R3, X3⟩
      unfold evA
      generalize hV : Value.slice va 0 vc = V at *
      clear hV
      obtain ⟨a3, n3, e3⟩ := (R3.dat (B' := w.heap.size)).len
      subst e3
      have HX3 := Lib.hid (HX6.out.trans X3)
      have HR3 := Lib.hid R3
      have HY3 := Lib.hid X3
      clear R3 X3 HCW
      have hB3 := HX6.out.size
      go_wp2_with (at_builtin; refine appM w6 _ rfl _ _ rfl w.heap.size _ _ rfl HR6.out hB3 (HY3.out.alloc _) w3.heap.size x (.slice a3 x.d.length n3) rfl (at_new (HR3.out.dat (B' := w.heap.size))) (HR3.out.ext ((Ext.refl w3).alloc _)) (by simp) ?_)
      intro v4 w4 R4 G4
      have HX4 := Lib.hid ((HX3.out.alloc _).grown G4 (fun q hq => (HR6.out.re.lt hq).1))
      have HR4 := Lib.hid R4
      clear R4 G4 hB3
      go_wp2
      exact ⟨⟨0 + 1, by omega, by go_num, by rw [HE1.out]; simpa using HR4.out, HX4.out⟩, by simp [intOf]; omega⟩
    obtain ⟨D, l, hsh⟩ := HSH.out k hk (by omega)
    have e0 : merged 32 (L.take k) = D ++ [l] := by unfold merged; rw [hsh]; rfl
    rw [hsh] at HSN
    rw [e0] at HRA HR hfl
    have hDl : D.length + 1 ≤ 900000 := by simpa using hfl
    obtain ⟨g, vcap, lu, ev, AL, zf, hlu, hBg, tg, -, fN, fD⟩ := HRA.out.last
    subst ev
    obtain ⟨la, lc, elu⟩ := AL.d.len
    have hgb : g ≠ wr.heap.size := HBX.out g (by
      obtain ⟨g2, vcap2, lu2, ev2, _, _, _, _, tg2, _, _, _⟩ := HR.out.last
      cases ev2
      exact tg2)
    obtain ⟨m, hm'⟩ : ∃ m, m = D.length := ⟨_, rfl⟩
    rw [← hm'] at AL fN fD
    rw [show D.length + 1 = m + 1 by omega] at *
    have HM := Lib.hid hm'
    have hm9 : m + 1 ≤ 900000 := by omega
    clear hm' hfl
    generalize hll : l.d.length = ll at elu
    subst elu
    have HLL2 := Lib.hid hll
    clear hll
    have HZF := Lib.hid zf
    have HLU := Lib.hid hlu
    have HBG := Lib.hid hBg
    have HTG := Lib.hid tg
    have hmI : (m : Int) < ((m + 1 : Nat) : Int) := by omega
    have hmI2 : (m : Int) < (m : Int) + 1 := by omega
    have hmI1 : ((m + 1 : Nat) : Int) - 1 = (m : Int) := by omega
    have hm0 : decide ((m : Int) < 0) = false := by simp
    have CG := Lib.hid (fun w' => eGoes32 l x (.slice la ll lc) (.slice ua ul uc) w')
    unfold evA at CG
    obtain ⟨d0, d1, d2, d3, d4, d5, d6, hdd⟩ := AL
    have HDD := Lib.hid hdd
    clear zf hlu hBg tg fN fD hdd
    by_cases hgo : goOn 32 l x = true
    case neg =>
      have hgo' : goOn 32 l x = false := by simpa using hgo
      rw [mst_no hgo] at HSN
      have HE1 : Hid (merged 32 (L.take (k + 1)) = D ++ [l] ++ [x]) := Lib.hid HSN.out
      rw [hgo'] at CG
      clear HSN hgo hgo'
      go_wp2
      refine wp_region_later (by kernel_rfl) (by kernel_rfl) ?_
      have l0 := fun (g : Later wA) => g.ok.cell qa_0
      have l1 := fun (g : Later wA) => g.ok.cell qa_1
      have l2 := fun (g : Later wA) => g.ok.cell qa_2
      have l3 := fun (g : Later wA) => g.ok.cell qa_3
      have l4 := fun (g : Later wA) => g.ok.cell qa_4
      have l5 := fun (g : Later wA) => g.ok.cell qa_5
      have l6 := fun (g : Later wA) => g.ok.cell qa_6
      have m0 := fun (g : Later wA) => g.ok.cell d0
      have m1 := fun (g : Later wA) => g.ok.cell d1
      have m2 := fun (g : Later wA) => g.ok.cell d2
      have m3 := fun (g : Later wA) => g.ok.cell d3
      have m4 := fun (g : Later wA) => g.ok.cell d4
      have m5 := fun (g : Later wA) => g.ok.cell d5
      have m6 := fun (g : Later wA) => g.ok.cell d6
      repeat (go_big_quiet_step ((fail)))
      go_big_quiet_step ((go_at_call 44; exact laterC (CG.out _)))
      repeat (go_big_quiet_step ((fail)))
      refine wpQuiet_nil ?_
      intro w6 hl6
      have X6 := laters_ext hl6
      have HX6 := Lib.hid (HXA.out.trans X6)
      have HR6 := Lib.hid (HRA.out.ext X6)
      have HD6 := Lib.hid (HDA.out.ext X6)
      replace qa_0 := X6.cell qa_0
      replace qa_1 := X6.cell qa_1
      replace qa_2 := X6.cell qa_2
      replace qa_3 := X6.cell qa_3
      replace qa_4 := X6.cell qa_4
      replace qa_5 := X6.cell qa_5
      replace qa_6 := X6.cell qa_6
      clear hl6 X6 l0 l1 l2 l3 l4 l5 l6 m0 m1 m2 m3 m4 m5 m6 d0 d1 d2 d3 d4 d5 d6
      have CW := eWith x (.slice ua ul uc) (.slice ua ul uc) x.d w6 HD6.out (by have := HDL.out; omega)
      unfold evA at CW
      have HCW := Lib.hid CW
      clear CW
      go_wp2_with fail
      refine HCW.out.mono ?_
      rintro e w3 ⟨u3, rfl, R3, X3⟩
      unfold evA
      generalize hV : Value.slice (some ⟨g, 0, none⟩) (m + 1) vcap = V at *
      clear hV
      obtain ⟨a3, n3, e3⟩ := (R3.dat (B' := w.heap.size)).len
      subst e3
      have HX3 := Lib.hid (HX6.out.trans X3)
      have HR3 := Lib.hid R3
      have HY3 := Lib.hid X3
      clear R3 X3 HCW
      have hB3 := HX6.out.size
      go_wp2_with (at_builtin; refine appM w6 _ rfl _ _ rfl w.heap.size _ _ rfl HR6.out hB3 (HY3.out.alloc _) w3.heap.size x (.slice a3 x.d.length n3) rfl (at_new (HR3.out.dat (B' := w.heap.size))) (HR3.out.ext ((Ext.refl w3).alloc _)) (by have := HM.out; simp; omega) ?_)
      intro v4 w4 R4 G4
      have HX4 := Lib.hid ((HX3.out.alloc _).grown G4 (fun q hq => (HR6.out.re.lt hq).1))
      have HR4 := Lib.hid R4
      clear R4 G4 hB3
      go_wp2
      exact ⟨⟨k + 1, by omega, by go_num, by rw [HE1.out]; simpa using HR4.out, HX4.out⟩, by simp [intOf]; omega⟩
    rw [mst_yes hgo] at HSN
    have HE1 : Hid (merged 32 (L.take (k + 1)) = D ++ [addE l x]) := Lib.hid HSN.out
    rw [hgo] at CG
    clear HSN hgo
    go_wp2
    refine wp_region_later (by kernel_rfl) (by kernel_rfl) ?_
    have l0 := fun (g : Later wA) => g.ok.cell qa_0
    have l1 := fun (g : Later wA) => g.ok.cell qa_1
    have l2 := fun (g : Later wA) => g.ok.cell qa_2
    have l3 := fun (g : Later wA) => g.ok.cell qa_3
    have l4 := fun (g : Later wA) => g.ok.cell qa_4
    have l5 := fun (g : Later wA) => g.ok.cell qa_5
    have l6 := fun (g : Later wA) => g.ok.cell qa_6
    have m0 := fun (g : Later wA) => g.ok.cell d0
    have m1 := fun (g : Later wA) => g.ok.cell d1
    have m2 := fun (g : Later wA) => g.ok.cell d2
    have m3 := fun (g : Later wA) => g.ok.cell d3
    have m4 := fun (g : Later wA) => g.ok.cell d4
    have m5 := fun (g : Later wA) => g.ok.cell d5
    have m6 := fun (g : Later wA) => g.ok.cell d6
    repeat (go_big_quiet_step ((fail)))
    go_big_quiet_step ((go_at_call 44; exact laterC (CG.out _)))
    repeat (go_big_quiet_step ((fail)))
    refine wpQuiet_nil ?_
    intro w6 hl6
    have X6 := laters_ext hl6
    have HX6 := Lib.hid (HXA.out.trans X6)
    have HR6 := Lib.hid (HRA.out.ext X6)
    have HD6 := Lib.hid (HDA.out.ext X6)
    have hb6 : wr.heap.size < w6.heap.size := Nat.lt_of_lt_of_le HRR.out X6.size
    replace qa_3 := X6.cell qa_3
    replace qa_6 := X6.cell qa_6
    replace d3 := X6.cell d3
    clear hl6 X6 l0 l1 l2 l3 l4 l5 l6 m0 m1 m2 m3 m4 m5 m6 d0 d1 d2 d4 d5 d6 qa_0 qa_1 qa_2 qa_4 qa_5 CG
    have F3 := fun w' (hx : Ext w6 w') => hx.cell d3
    have FQ := fun w' (hx : Ext w6 w') => hx.cell qa_3
    have X7 : Ext w6 w6.drew := (Ext.refl w6).drew
    have e3 : w6.drew.cell? ⟨g, m * 7 + 3, none⟩ = some (.int .i64 l.n) := X7.cell d3
    have y3 : w6.drew.frozen? ⟨g, m * 7 + 3, none⟩ = false := by
      obtain ⟨g2, vcap2, lu2, ev2, _, zf2, _⟩ := ((HR6.out.ext X7).lastM HM.out)
      cases ev2
      exact zf2 _
    have HQ6 := Lib.hid qa_6
    clear d3 qa_3 qa_6
    go_upto_region 10 with (fail)
    refine wp_region_D (fun i => decide (i ≤ 9)) (by kernel_rfl) ?_
    refine take_D (i := 0) (v := ?_) rfl rfl rfl (by kernel_rfl) (by kernel_rfl) (by kernel_rfl) (by kernel_rfl) (by kernel_rfl) ((Ext.refl w6).drew) ?hyp ?_
    case hyp => intro wz hSw; (try dsimp only at hSw); go_simp <;> with_reducible rfl
    simp only [List.setIfInBounds_toArray, List.set_cons_zero, List.set_cons_succ]
    refine take_D (i := 1) (v := ?_) rfl rfl rfl (by kernel_rfl) (by kernel_rfl) (by kernel_rfl) (by kernel_rfl) (by kernel_rfl) ((Ext.refl w6).drew) ?hyp ?_
    case hyp => intro wz hSw; (try dsimp only at hSw); go_simp <;> with_reducible rfl
    simp only [List.setIfInBounds_toArray, List.set_cons_zero, List.set_cons_succ]
    refine take_D (i := 2) (v := ?_) rfl rfl rfl (by kernel_rfl) (by kernel_rfl) (by kernel_rfl) (by kernel_rfl) (by kernel_rfl) ((Ext.refl w6).drew) ?hyp ?_
    case hyp => intro wz hSw; (try dsimp only at hSw); go_simp <;> with_reducible rfl
    simp only [List.setIfInBounds_toArray, List.set_cons_zero, List.set_cons_succ]
    refine take_D (i := 3) (v := ?_) rfl rfl rfl (by kernel_rfl) (by kernel_rfl) (by kernel_rfl) (by kernel_rfl) (by kernel_rfl) ((Ext.refl w6).drew) ?hyp ?_
    case hyp => intro wz hSw; (try dsimp only at hSw); go_simp <;> with_reducible rfl
    simp only [List.setIfInBounds_toArray, List.set_cons_zero, List.set_cons_succ]
    refine take_D (i := 4) (v := ?_) rfl rfl rfl (by kernel_rfl) (by kernel_rfl) (by kernel_rfl) (by kernel_rfl) (by kernel_rfl) ((Ext.refl w6).drew) ?hyp ?_
    case hyp => intro wz hSw; (try dsimp only at hSw); go_simp <;> with_reducible rfl
    simp only [List.setIfInBounds_toArray, List.set_cons_zero, List.set_cons_succ]
    refine take_D (i := 5) (v := ?_) rfl rfl rfl (by kernel_rfl) (by kernel_rfl) (by kernel_rfl) (by kernel_rfl) (by kernel_rfl) ((Ext.refl w6).drew) ?hyp ?_
    case hyp => intro wz hSw; (try dsimp only at hSw); go_simp <;> with_reducible rfl
    simp only [List.setIfInBounds_toArray, List.set_cons_zero, List.set_cons_succ]
    refine take_D (i := 6) (v := ?_) rfl rfl rfl (by kernel_rfl) (by kernel_rfl) (by kernel_rfl) (by kernel_rfl) (by kernel_rfl) ((Ext.refl w6).drew) ?hyp ?_
    case hyp => intro wz hSw; (try dsimp only at hSw); go_simp <;> with_reducible rfl
    simp only [List.setIfInBounds_toArray, List.set_cons_zero, List.set_cons_succ]
    refine take_D (i := 7) (v := ?_) rfl rfl rfl (by kernel_rfl) (by kernel_rfl) (by kernel_rfl) (by kernel_rfl) (by kernel_rfl) ((Ext.refl w6).drew) ?hyp ?_
    case hyp => intro wz hSw; (try dsimp only at hSw); go_simp <;> with_reducible rfl
    simp only [List.setIfInBounds_toArray, List.set_cons_zero, List.set_cons_succ]
    refine take_D (i := 8) (v := ?_) rfl rfl rfl (by kernel_rfl) (by kernel_rfl) (by kernel_rfl) (by kernel_rfl) (by kernel_rfl) ((Ext.refl w6).drew) ?hyp ?_
    case hyp => intro wz hSw; (try dsimp only at hSw); go_simp <;> with_reducible rfl
    simp only [List.setIfInBounds_toArray, List.set_cons_zero, List.set_cons_succ]
    refine take_D (i := 9) (v := ?_) rfl rfl rfl (by kernel_rfl) (by kernel_rfl) (by kernel_rfl) (by kernel_rfl) (by kernel_rfl) ((Ext.refl w6).drew) ?hyp ?_
    case hyp => intro wz hSw; (try dsimp only at hSw); go_simp <;> with_reducible rfl
    simp only [List.setIfInBounds_toArray, List.set_cons_zero, List.set_cons_succ]
    refine rest_D (n := 10) rfl rfl (fun j hj => by simp; omega) (by kernel_rfl) ?_
    go_wp2
    refine off_normal ?_
    rw [wrapI64]
    rw [show (w6.setCell ⟨g, m * 7 + 3, none⟩ (.int .i64 (D64 (l.n + x.n)))).drew = w6.drew.setCell ⟨g, m * 7 + 3, none⟩ (.int .i64 (D64 (l.n + x.n))) from rfl]
    obtain ⟨g2, vcap2, lu2, ev2, _, _, _, _, tg2, _, fN, _⟩ := ((HR6.out.ext X7).lastM HM.out)
    cases ev2
    have R7 := fN (D64 (l.n + x.n))
    have B7 := but_setCell w6.drew ⟨g, m * 7 + 3, none⟩ (.int .i64 (D64 (l.n + x.n)))
    have HX7 := Lib.hid ((HX6.out.trans X7).setCell (p := ⟨g, m * 7 + 3, none⟩) HBG.out (.int .i64 (D64 (l.n + x.n))))
    have HR7 := Lib.hid R7
    have HD7 := Lib.hid ((HD6.out.ext X7).but B7 (fun q hq _ => by simp at hq; subst hq; exact ⟨Nat.le_trans hBw HBG.out, tg2⟩))
    have HQ7 := Lib.hid (B7.cell (X7.cell HQ6.out) (by simpa using Ne.symm hgb))
    clear fN tg2 R7 B7 F3 FQ e3 y3 X7
    generalize w6.drew.setCell ⟨g, m * 7 + 3, none⟩ (.int .i64 (D64 (l.n + x.n))) = w7 at *
    obtain ⟨g2, vcap2, lu3, ev2, A7, _, lu7, _, _, st7, _, fD⟩ := ((HR7.out.ext ((Ext.refl w7).drew)).lastM HM.out)
    cases ev2
    obtain ⟨la3, lc3, elu3⟩ := A7.d.len
    have elu4 : lu3 = .slice la3 l.d.length lc3 := elu3
    clear elu3
    subst elu4
    have hbx7 : RM w7 w.heap.size (.slice (some ⟨g, 0, none⟩) (m + 1) vcap) (D ++ [{ l with n := D64 (l.n + x.n) }]) := HR7.out
    obtain ⟨g2, vcap2, lu8, ev2, A8, _, _, _, _, _, _, _⟩ := (hbx7.lastM HM.out)
    cases ev2
    have e6 := ((Ext.refl w7).drew).cell A8.c6
    rw [A7.c6] at e6
    cases e6
    have F6 := fun w' (hx : Ext w7 w') => hx.cell A8.c6
    have FQ := fun w' (hx : Ext w7 w') => hx.cell HQ7.out
    have HA7 := Lib.hid lu7
    have HFD := Lib.hid fD
    have HST := Lib.hid st7
    have HTT2 := Lib.hid (Nat.le_trans (by rw [HE1.out, tot_app, tot_one]; simp [addE] : l.d.length + x.d.length ≤ tot (merged 32 (L.take (k + 1)))) HTK.out)
    clear A7 A8 lu7 fD st7 hbx7
    go_upto_region 11 with (fail)
    refine wp_region_D (fun i => decide (2 ≤ i) && decide (i ≤ 8)) (by kernel_rfl) ?_
    refine pure_D (i := 0) (v := ?_) rfl rfl rfl (by kernel_rfl) (by kernel_rfl) (by kernel_rfl) rfl ?hyp ?_
    case hyp => intro wz; go_simp <;> with_reducible rfl
    simp only [List.setIfInBounds_toArray, List.set_cons_zero, List.set_cons_succ]
    refine pure_D (i := 1) (v := ?_) rfl rfl rfl (by kernel_rfl) (by kernel_rfl) (by kernel_rfl) rfl ?hyp ?_
    case hyp => intro wz; go_simp <;> with_reducible rfl
    simp only [List.setIfInBounds_toArray, List.set_cons_zero, List.set_cons_succ]
    refine take_D (i := 2) (v := ?_) rfl rfl rfl (by kernel_rfl) (by kernel_rfl) (by kernel_rfl) (by kernel_rfl) (by kernel_rfl) ((Ext.refl w7).drew) ?hyp ?_
    case hyp => intro wz hSw; (try dsimp only at hSw); go_simp <;> with_reducible rfl
    simp only [List.setIfInBounds_toArray, List.set_cons_zero, List.set_cons_succ]
    refine take_D (i := 3) (v := ?_) rfl rfl rfl (by kernel_rfl) (by kernel_rfl) (by kernel_rfl) (by kernel_rfl) (by kernel_rfl) ((Ext.refl w7).drew) ?hyp ?_
    case hyp => intro wz hSw; (try dsimp only at hSw); go_simp <;> with_reducible rfl
    simp only [List.setIfInBounds_toArray, List.set_cons_zero, List.set_cons_succ]
    refine take_D (i := 4) (v := ?_) rfl rfl rfl (by kernel_rfl) (by kernel_rfl) (by kernel_rfl) (by kernel_rfl) (by kernel_rfl) ((Ext.refl w7).drew) ?hyp ?_
    case hyp => intro wz hSw; (try dsimp only at hSw); go_simp <;> with_reducible rfl
    simp only [List.setIfInBounds_toArray, List.set_cons_zero, List.set_cons_succ]
    refine take_D (i := 5) (v := ?_) rfl rfl rfl (by kernel_rfl) (by kernel_rfl) (by kernel_rfl) (by kernel_rfl) (by kernel_rfl) ((Ext.refl w7).drew) ?hyp ?_
    case hyp => intro wz hSw; (try dsimp only at hSw); go_simp <;> with_reducible rfl
    simp only [List.setIfInBounds_toArray, List.set_cons_zero, List.set_cons_succ]
    refine take_D (i := 6) (v := ?_) rfl rfl rfl (by kernel_rfl) (by kernel_rfl) (by kernel_rfl) (by kernel_rfl) (by kernel_rfl) ((Ext.refl w7).drew) ?hyp ?_
    case hyp => intro wz hSw; (try dsimp only at hSw); go_simp <;> with_reducible rfl
    simp only [List.setIfInBounds_toArray, List.set_cons_zero, List.set_cons_succ]
    refine take_D (i := 7) (v := ?_) rfl rfl rfl (by kernel_rfl) (by kernel_rfl) (by kernel_rfl) (by kernel_rfl) (by kernel_rfl) ((Ext.refl w7).drew) ?hyp ?_
    case hyp => intro wz hSw; (try dsimp only at hSw); go_simp <;> with_reducible rfl
    simp only [List.setIfInBounds_toArray, List.set_cons_zero, List.set_cons_succ]
    refine take_D (i := 8) (v := ?_) rfl rfl rfl (by kernel_rfl) (by kernel_rfl) (by kernel_rfl) (by kernel_rfl) (by kernel_rfl) ((Ext.refl w7).drew) ?hyp ?_
    case hyp => intro wz hSw; (try dsimp only at hSw); go_simp <;> with_reducible rfl
    simp only [List.setIfInBounds_toArray, List.set_cons_zero, List.set_cons_succ]
    refine rest_D (n := 9) rfl rfl (fun j hj => by simp; omega) (by kernel_rfl) ?_
    refine appJ _ rfl _ _ rfl w.heap.size (.slice la3 l.d.length lc3) l.d rfl HA7.out (Nat.le_trans HX7.out.size (Nat.le_refl _)) (.slice ua ul uc) x.d rfl (HD7.out.ext ((Ext.refl w7).drew)) (by have := HTT2.out; omega) ?_
    intro v8 w8 R8 G8 at8
    obtain ⟨a8, n8, e8⟩ := (R8.dat (B' := 0)).len
    subst e8
    obtain ⟨s6, s6z⟩ := HST.out w8 G8
    have HR8 := Lib.hid (HFD.out w8 _ _ R8 G8 at8)
    have HX8 := Lib.hid ((((HX7.out.trans ((Ext.refl w7).drew)).grown G8 (fun q hq => (World.ownsRow.lt HA7.out q hq).1))).setCell (p := ⟨g, m * 7 + 6, none⟩) HBG.out (.slice a8 (l.d ++ x.d).length n8))
    have HE2 : Hid (merged 32 (L.take (k + 1)) = D ++ [{ l with n := D64 (l.n + x.n), d := l.d ++ x.d }]) := Lib.hid HE1.out
    clear R8 G8 at8 F6 FQ HFD HST HA7
    generalize (l.d ++ x.d).length = N8 at *
    go_wp2
    refine off_normal ?_
    go_wp2
    exact ⟨⟨k + 1, by omega, by go_num, by rw [HE2.out]; exact HR8.out, HX8.out⟩, by simp [intOf]; omega⟩
set_option maxRecDepth 100000 in
theorem eMerge64 {B : Nat} (v : Value) (L : List Ev) (w : World) (h : EvsV w B v L) (hBw : B ≤ w.heap.size) (hl : L.length ≤ 900000) (ht : tot L ≤ 900000) : Calls Try.prog 23 #[.int .i64 64, v] w (GivesM w (merged 64 L)) := by
  obtain ⟨a, cap, e, hm, f⟩ := h.get3
  subst e
  have HA := Lib.hid f
  have HT := Lib.hid (fun e (he : e ∈ L) => Nat.le_trans (tot_mem he) ht)
  have HG : Hid (∀ v w', RM w' w.heap.size v (merged 64 (L.take L.length)) → Ext w w' → GivesM w (merged 64 L) (.returned v) w') := Lib.hid (fun v w' h1 h2 => ⟨v, rfl, by rwa [List.take_length] at h1, h2⟩)
  have HS := Lib.hid (fun k hk => mrun_snoc 64 (L := L) (k := k) hk)
  have HSH := Lib.hid (mrun_shape 64 L)
  have HTT := Lib.hid (fun k => Nat.le_trans (merged_take_tot 64 L k) ht)
  have HLL := Lib.hid (fun k => Nat.le_trans (merged_take_len 64 L k) hl)
  generalize GivesM w (merged 64 L) = G at *
  clear h f ht
  go_enter Try.func23, Try.ntmps23
  go_wp2_with fail
  refine (wRight_yes _ _ (by decide)).mono ?_
  rintro e w' ⟨rfl, rfl⟩
  go_wp2
  go_loopw [5, 14] (fun v i wr => ∃ k : Nat, k ≤ L.length ∧ i = .int .i64 k ∧ RM wr w.heap.size v (merged 64 (L.take k)) ∧ Ext w wr) (fun _ i _ => L.length - (intOf i).toNat)
  case atStart => exact ⟨0, Nat.zero_le _, rfl, by rw [List.take_zero]; exact RM.nil _ _, Ext.refl _⟩
  case round =>
    obtain ⟨k, hk, rfl, hR, hx⟩ := hrel
    by_cases hlt : k < L.length
    case neg =>
      obtain rfl : k = L.length := by omega
      have HG2 := Lib.hid (HG.out _ wr hR hx)
      clear hR hx
      go_wp2
      exact HG2.out
    have hlt' : (k : Int) < (L.length : Int) := by omega
    obtain ⟨b, off, u, ea, A⟩ := HA.out wr hx k hlt
    subst ea
    have hdl := HT.out L[k] (List.getElem_mem hlt)
    have hs : merged 64 (L.take (k + 1)) = outM (mst 64 (mrun 64 (L.take k)) L[k]) := by unfold merged; rw [HS.out k hlt]
    obtain ⟨ua, uc, eu⟩ := A.d.len
    have htk := HTT.out (k + 1)
    generalize L[k] = x at *
    generalize hul : x.d.length = ul at eu
    subst eu
    have HUL := Lib.hid hul
    clear hul
    have HSN := Lib.hid hs
    have HR := Lib.hid hR
    have HX := Lib.hid hx
    have HAD := Lib.hid A.d
    have HDL := Lib.hid hdl
    have HTK := Lib.hid htk
    obtain ⟨c0, c1, c2, c3, c4, c5, c6, -⟩ := A
    clear hR hx hs hdl htk
    go_upto_region 7 with (fail)
    refine settle_wp ?_
    intro wA hbA
    have XA : Ext wr wA := Ext.trans (by repeat (first | with_reducible exact Ext.refl _ | with_reducible assumption | with_reducible refine Ext.alloc ?_ _ | with_reducible refine Ext.drew ?_ | with_reducible refine Ext.drewN ?_ _ | with_reducible refine Ext.setCell ?_ (by simp <;> omega) _ | with_reducible refine Ext.trans ?_ (by assumption))) hbA
    have qa_0 : wA.cell? ⟨wr.heap.size, 0, none⟩ = some (.int .i64 x.k) := hbA.cell (by simp [go_sem])
    have qa_1 : wA.cell? ⟨wr.heap.size, 1, none⟩ = some (.int .i64 x.t) := hbA.cell (by simp [go_sem])
    have qa_2 : wA.cell? ⟨wr.heap.size, 2, none⟩ = some (.int .i64 x.o) := hbA.cell (by simp [go_sem])
    have qa_3 : wA.cell? ⟨wr.heap.size, 3, none⟩ = some (.int .i64 x.n) := hbA.cell (by simp [go_sem])
    have qa_4 : wA.cell? ⟨wr.heap.size, 4, none⟩ = some (.int .u64 x.p) := hbA.cell (by simp [go_sem])
    have qa_5 : wA.cell? ⟨wr.heap.size, 5, none⟩ = some (.int .i64 x.c) := hbA.cell (by simp [go_sem])
    have qa_6 : wA.cell? ⟨wr.heap.size, 6, none⟩ = some (.slice ua ul uc) := hbA.cell (by simp [go_sem])
    have HBN : Hid (∀ q, q ≠ wr.heap.size → q = q) := Lib.hid (fun _ _ => rfl)
    have HXA := Lib.hid (HX.out.trans XA)
    have HRA := Lib.hid (HR.out.ext XA)
    have HDA := Lib.hid (HAD.out.ext XA)
    have hbx : wr.heap.size < wA.heap.size := World.block_lt_of_cell? wA ⟨wr.heap.size, 0, none⟩ qa_0
    have HBX : Hid (∀ g, TagE wr g 31 → g ≠ wr.heap.size) := Lib.hid (fun g tg e => by have := tg.lt; omega)
    have HRR := Lib.hid hbx
    clear hbA c0 c1 c2 c3 c4 c5 c6 HAD
    have hfl := HLL.out k
    by_cases hk0 : k = 0
    case pos =>
      subst hk0
      have e0 : merged 64 (L.take 0) = [] := by rw [List.take_zero]; rfl
      have e1 : merged 64 (L.take (0 + 1)) = [] ++ [x] := by rw [HSN.out, List.take_zero]; rfl
      rw [e0] at HRA HR
      have HE1 := Lib.hid e1
      obtain ⟨va, vc, ev⟩ := HRA.out.re.len
      have ev' : u5 = .slice va 0 vc := ev
      clear ev
      subst ev'
      clear HSN e0 e1
      go_wp2
      refine wp_region_later (by kernel_rfl) (by kernel_rfl) ?_
      repeat (go_big_quiet_step ((fail)))
      refine wpQuiet_nil ?_
      intro w6 hl6
      have X6 := laters_ext hl6
      have HX6 := Lib.hid (HXA.out.trans X6)
      have HR6 := Lib.hid (HRA.out.ext X6)
      have HD6 := Lib.hid (HDA.out.ext X6)
      replace qa_0 := X6.cell qa_0
      replace qa_1 := X6.cell qa_1
      replace qa_2 := X6.cell qa_2
      replace qa_3 := X6.cell qa_3
      replace qa_4 := X6.cell qa_4
      replace qa_5 := X6.cell qa_5
      replace qa_6 := X6.cell qa_6
      clear hl6 X6
      have CW := eWith x (.slice ua ul uc) (.slice ua ul uc) x.d w6 HD6.out (by have := HDL.out; omega)
      unfold evA at CW
      have HCW := Lib.hid CW
      clear CW
      go_wp2_with fail
      refine HCW.out.mono ?_
      rintro e w3 ⟨u3, rfl, R3, X3⟩
      unfold evA
      generalize hV : Value.slice va 0 vc = V at *
      clear hV
      obtain ⟨a3, n3, e3⟩ := (R3.dat (B' := w.heap.size)).len
      subst e3
      have HX3 := Lib.hid (HX6.out.trans X3)
      have HR3 := Lib.hid R3
      have HY3 := Lib.hid X3
      clear R3 X3 HCW
      have hB3 := HX6.out.size
      go_wp2_with (at_builtin; refine appM w6 _ rfl _ _ rfl w.heap.size _ _ rfl HR6.out hB3 (HY3.out.alloc _) w3.heap.size x (.slice a3 x.d.length n3) rfl (at_new (HR3.out.dat (B' := w.heap.size))) (HR3.out.ext ((Ext.refl w3).alloc _)) (by simp) ?_)
      intro v4 w4 R4 G4
      have HX4 := Lib.hid ((HX3.out.alloc _).grown G4 (fun q hq => (HR6.out.re.lt hq).1))
      have HR4 := Lib.hid R4
      clear R4 G4 hB3
      go_wp2
      exact ⟨⟨0 + 1, by omega, by go_num, by rw [HE1.out]; simpa using HR4.out, HX4.out⟩, by simp [intOf]; omega⟩
    obtain ⟨D, l, hsh⟩ := HSH.out k hk (by omega)
    have e0 : merged 64 (L.take k) = D ++ [l] := by unfold merged; rw [hsh]; rfl
    rw [hsh] at HSN
    rw [e0] at HRA HR hfl
    have hDl : D.length + 1 ≤ 900000 := by simpa using hfl
    obtain ⟨g, vcap, lu, ev, AL, zf, hlu, hBg, tg, -, fN, fD⟩ := HRA.out.last
    subst ev
    obtain ⟨la, lc, elu⟩ := AL.d.len
    have hgb : g ≠ wr.heap.size := HBX.out g (by
      obtain ⟨g2, vcap2, lu2, ev2, _, _, _, _, tg2, _, _, _⟩ := HR.out.last
      cases ev2
      exact tg2)
    obtain ⟨m, hm'⟩ : ∃ m, m = D.length := ⟨_, rfl⟩
    rw [← hm'] at AL fN fD
    rw [show D.length + 1 = m + 1 by omega] at *
    have HM := Lib.hid hm'
    have hm9 : m + 1 ≤ 900000 := by omega
    clear hm' hfl
    generalize hll : l.d.length = ll at elu
    subst elu
    have HLL2 := Lib.hid hll
    clear hll
    have HZF := Lib.hid zf
    have HLU := Lib.hid hlu
    have HBG := Lib.hid hBg
    have HTG := Lib.hid tg
    have hmI : (m : Int) < ((m + 1 : Nat) : Int) := by omega
    have hmI2 : (m : Int) < (m : Int) + 1 := by omega
    have hmI1 : ((m + 1 : Nat) : Int) - 1 = (m : Int) := by omega
    have hm0 : decide ((m : Int) < 0) = false := by simp
    have CG := Lib.hid (fun w' => eGoes64 l x (.slice la ll lc) (.slice ua ul uc) w')
    unfold evA at CG
    obtain ⟨d0, d1, d2, d3, d4, d5, d6, hdd⟩ := AL
    have HDD := Lib.hid hdd
    clear zf hlu hBg tg fN fD hdd
    by_cases hgo : goOn 64 l x = true
    case neg =>
      have hgo' : goOn 64 l x = false := by simpa using hgo
      rw [mst_no hgo] at HSN
      have HE1 : Hid (merged 64 (L.take (k + 1)) = D ++ [l] ++ [x]) := Lib.hid HSN.out
      rw [hgo'] at CG
      clear HSN hgo hgo'
      go_wp2
      refine wp_region_later (by kernel_rfl) (by kernel_rfl) ?_
      have l0 := fun (g : Later wA) => g.ok.cell qa_0
      have l1 := fun (g : Later wA) => g.ok.cell qa_1
      have l2 := fun (g : Later wA) => g.ok.cell qa_2
      have l3 := fun (g : Later wA) => g.ok.cell qa_3
      have l4 := fun (g : Later wA) => g.ok.cell qa_4
      have l5 := fun (g : Later wA) => g.ok.cell qa_5
      have l6 := fun (g : Later wA) => g.ok.cell qa_6
      have m0 := fun (g : Later wA) => g.ok.cell d0
      have m1 := fun (g : Later wA) => g.ok.cell d1
      have m2 := fun (g : Later wA) => g.ok.cell d2
      have m3 := fun (g : Later wA) => g.ok.cell d3
      have m4 := fun (g : Later wA) => g.ok.cell d4
      have m5 := fun (g : Later wA) => g.ok.cell d5
      have m6 := fun (g : Later wA) => g.ok.cell d6
      repeat (go_big_quiet_step ((fail)))
      go_big_quiet_step ((go_at_call 44; exact laterC (CG.out _)))
      repeat (go_big_quiet_step ((fail)))
      refine wpQuiet_nil ?_
      intro w6 hl6
      have X6 := laters_ext hl6
      have HX6 := Lib.hid (HXA.out.trans X6)
      have HR6 := Lib.hid (HRA.out.ext X6)
      have HD6 := Lib.hid (HDA.out.ext X6)
      replace qa_0 := X6.cell qa_0
      replace qa_1 := X6.cell qa_1
      replace qa_2 := X6.cell qa_2
      replace qa_3 := X6.cell qa_3
      replace qa_4 := X6.cell qa_4
      replace qa_5 := X6.cell qa_5
      replace qa_6 := X6.cell qa_6
      clear hl6 X6 l0 l1 l2 l3 l4 l5 l6 m0 m1 m2 m3 m4 m5 m6 d0 d1 d2 d3 d4 d5 d6
      have CW := eWith x (.slice ua ul uc) (.slice ua ul uc) x.d w6 HD6.out (by have := HDL.out; omega)
      unfold evA at CW
      have HCW := Lib.hid CW
      clear CW
      go_wp2_with fail
      refine HCW.out.mono ?_
      rintro e w3 ⟨u3, rfl, R3, X3⟩
      unfold evA
      generalize hV : Value.slice (some ⟨g, 0, none⟩) (m + 1) vcap = V at *
      clear hV
      obtain ⟨a3, n3, e3⟩ := (R3.dat (B' := w.heap.size)).len
      subst e3
      have HX3 := Lib.hid (HX6.out.trans X3)
      have HR3 := Lib.hid R3
      have HY3 := Lib.hid X3
      clear R3 X3 HCW
      have hB3 := HX6.out.size
      go_wp2_with (at_builtin; refine appM w6 _ rfl _ _ rfl w.heap.size _ _ rfl HR6.out hB3 (HY3.out.alloc _) w3.heap.size x (.slice a3 x.d.length n3) rfl (at_new (HR3.out.dat (B' := w.heap.size))) (HR3.out.ext ((Ext.refl w3).alloc _)) (by have := HM.out; simp; omega) ?_)
      intro v4 w4 R4 G4
      have HX4 := Lib.hid ((HX3.out.alloc _).grown G4 (fun q hq => (HR6.out.re.lt hq).1))
      have HR4 := Lib.hid R4
      clear R4 G4 hB3
      go_wp2
      exact ⟨⟨k + 1, by omega, by go_num, by rw [HE1.out]; simpa using HR4.out, HX4.out⟩, by simp [intOf]; omega⟩
    rw [mst_yes hgo] at HSN
    have HE1 : Hid (merged 64 (L.take (k + 1)) = D ++ [addE l x]) := Lib.hid HSN.out
    rw [hgo] at CG
    clear HSN hgo
    go_wp2
    refine wp_region_later (by kernel_rfl) (by kernel_rfl) ?_
    have l0 := fun (g : Later wA) => g.ok.cell qa_0
    have l1 := fun (g : Later wA) => g.ok.cell qa_1
    have l2 := fun (g : Later wA) => g.ok.cell qa_2
    have l3 := fun (g : Later wA) => g.ok.cell qa_3
    have l4 := fun (g : Later wA) => g.ok.cell qa_4
    have l5 := fun (g : Later wA) => g.ok.cell qa_5
    have l6 := fun (g : Later wA) => g.ok.cell qa_6
    have m0 := fun (g : Later wA) => g.ok.cell d0
    have m1 := fun (g : Later wA) => g.ok.cell d1
    have m2 := fun (g : Later wA) => g.ok.cell d2
    have m3 := fun (g : Later wA) => g.ok.cell d3
    have m4 := fun (g : Later wA) => g.ok.cell d4
    have m5 := fun (g : Later wA) => g.ok.cell d5
    have m6 := fun (g : Later wA) => g.ok.cell d6
    repeat (go_big_quiet_step ((fail)))
    go_big_quiet_step ((go_at_call 44; exact laterC (CG.out _)))
    repeat (go_big_quiet_step ((fail)))
    refine wpQuiet_nil ?_
    intro w6 hl6
    have X6 := laters_ext hl6
    have HX6 := Lib.hid (HXA.out.trans X6)
    have HR6 := Lib.hid (HRA.out.ext X6)
    have HD6 := Lib.hid (HDA.out.ext X6)
    have hb6 : wr.heap.size < w6.heap.size := Nat.lt_of_lt_of_le HRR.out X6.size
    replace qa_3 := X6.cell qa_3
    replace qa_6 := X6.cell qa_6
    replace d3 := X6.cell d3
    clear hl6 X6 l0 l1 l2 l3 l4 l5 l6 m0 m1 m2 m3 m4 m5 m6 d0 d1 d2 d4 d5 d6 qa_0 qa_1 qa_2 qa_4 qa_5 CG
    have F3 := fun w' (hx : Ext w6 w') => hx.cell d3
    have FQ := fun w' (hx : Ext w6 w') => hx.cell qa_3
    have X7 : Ext w6 w6.drew := (Ext.refl w6).drew
    have e3 : w6.drew.cell? ⟨g, m * 7 + 3, none⟩ = some (.int .i64 l.n) := X7.cell d3
    have y3 : w6.drew.frozen? ⟨g, m * 7 + 3, none⟩ = false := by
      obtain ⟨g2, vcap2, lu2, ev2, _, zf2, _⟩ := ((HR6.out.ext X7).lastM HM.out)
      cases ev2
      exact zf2 _
    have HQ6 := Lib.hid qa_6
    clear d3 qa_3 qa_6
    go_upto_region 10 with (fail)
    refine wp_region_D (fun i => decide (i ≤ 9)) (by kernel_rfl) ?_
    refine take_D (i := 0) (v := ?_) rfl rfl rfl (by kernel_rfl) (by kernel_rfl) (by kernel_rfl) (by kernel_rfl) (by kernel_rfl) ((Ext.refl w6).drew) ?hyp ?_
    case hyp => intro wz hSw; (try dsimp only at hSw); go_simp <;> with_reducible rfl
    simp only [List.setIfInBounds_toArray, List.set_cons_zero, List.set_cons_succ]
    refine take_D (i := 1) (v := ?_) rfl rfl rfl (by kernel_rfl) (by kernel_rfl) (by kernel_rfl) (by kernel_rfl) (by kernel_rfl) ((Ext.refl w6).drew) ?hyp ?_
    case hyp => intro wz hSw; (try dsimp only at hSw); go_simp <;> with_reducible rfl
    simp only [List.setIfInBounds_toArray, List.set_cons_zero, List.set_cons_succ]
    refine take_D (i := 2) (v := ?_) rfl rfl rfl (by kernel_rfl) (by kernel_rfl) (by kernel_rfl) (by kernel_rfl) (by kernel_rfl) ((Ext.refl w6).drew) ?hyp ?_
    case hyp => intro wz hSw; (try dsimp only at hSw); go_simp <;> with_reducible rfl
    simp only [List.setIfInBounds_toArray, List.set_cons_zero, List.set_cons_succ]
    refine take_D (i := 3) (v := ?_) rfl rfl rfl (by kernel_rfl) (by kernel_rfl) (by kernel_rfl) (by kernel_rfl) (by kernel_rfl) ((Ext.refl w6).drew) ?hyp ?_
    case hyp => intro wz hSw; (try dsimp only at hSw); go_simp <;> with_reducible rfl
    simp only [List.setIfInBounds_toArray, List.set_cons_zero, List.set_cons_succ]
    refine take_D (i := 4) (v := ?_) rfl rfl rfl (by kernel_rfl) (by kernel_rfl) (by kernel_rfl) (by kernel_rfl) (by kernel_rfl) ((Ext.refl w6).drew) ?hyp ?_
    case hyp => intro wz hSw; (try dsimp only at hSw); go_simp <;> with_reducible rfl
    simp only [List.setIfInBounds_toArray, List.set_cons_zero, List.set_cons_succ]
    refine take_D (i := 5) (v := ?_) rfl rfl rfl (by kernel_rfl) (by kernel_rfl) (by kernel_rfl) (by kernel_rfl) (by kernel_rfl) ((Ext.refl w6).drew) ?hyp ?_
    case hyp => intro wz hSw; (try dsimp only at hSw); go_simp <;> with_reducible rfl
    simp only [List.setIfInBounds_toArray, List.set_cons_zero, List.set_cons_succ]
    refine take_D (i := 6) (v := ?_) rfl rfl rfl (by kernel_rfl) (by kernel_rfl) (by kernel_rfl) (by kernel_rfl) (by kernel_rfl) ((Ext.refl w6).drew) ?hyp ?_
    case hyp => intro wz hSw; (try dsimp only at hSw); go_simp <;> with_reducible rfl
    simp only [List.setIfInBounds_toArray, List.set_cons_zero, List.set_cons_succ]
    refine take_D (i := 7) (v := ?_) rfl rfl rfl (by kernel_rfl) (by kernel_rfl) (by kernel_rfl) (by kernel_rfl) (by kernel_rfl) ((Ext.refl w6).drew) ?hyp ?_
    case hyp => intro wz hSw; (try dsimp only at hSw); go_simp <;> with_reducible rfl
    simp only [List.setIfInBounds_toArray, List.set_cons_zero, List.set_cons_succ]
    refine take_D (i := 8) (v := ?_) rfl rfl rfl (by kernel_rfl) (by kernel_rfl) (by kernel_rfl) (by kernel_rfl) (by kernel_rfl) ((Ext.refl w6).drew) ?hyp ?_
    case hyp => intro wz hSw; (try dsimp only at hSw); go_simp <;> with_reducible rfl
    simp only [List.setIfInBounds_toArray, List.set_cons_zero, List.set_cons_succ]
    refine take_D (i := 9) (v := ?_) rfl rfl rfl (by kernel_rfl) (by kernel_rfl) (by kernel_rfl) (by kernel_rfl) (by kernel_rfl) ((Ext.refl w6).drew) ?hyp ?_
    case hyp => intro wz hSw; (try dsimp only at hSw); go_simp <;> with_reducible rfl
    simp only [List.setIfInBounds_toArray, List.set_cons_zero, List.set_cons_succ]
    refine rest_D (n := 10) rfl rfl (fun j hj => by simp; omega) (by kernel_rfl) ?_
    go_wp2
    refine off_normal ?_
    rw [wrapI64]
    rw [show (w6.setCell ⟨g, m * 7 + 3, none⟩ (.int .i64 (D64 (l.n + x.n)))).drew = w6.drew.setCell ⟨g, m * 7 + 3, none⟩ (.int .i64 (D64 (l.n + x.n))) from rfl]
    obtain ⟨g2, vcap2, lu2, ev2, _, _, _, _, tg2, _, fN, _⟩ := ((HR6.out.ext X7).lastM HM.out)
    cases ev2
    have R7 := fN (D64 (l.n + x.n))
    have B7 := but_setCell w6.drew ⟨g, m * 7 + 3, none⟩ (.int .i64 (D64 (l.n + x.n)))
    have HX7 := Lib.hid ((HX6.out.trans X7).setCell (p := ⟨g, m * 7 + 3, none⟩) HBG.out (.int .i64 (D64 (l.n + x.n))))
    have HR7 := Lib.hid R7
    have HD7 := Lib.hid ((HD6.out.ext X7).but B7 (fun q hq _ => by simp at hq; subst hq; exact ⟨Nat.le_trans hBw HBG.out, tg2⟩))
    have HQ7 := Lib.hid (B7.cell (X7.cell HQ6.out) (by simpa using Ne.symm hgb))
    clear fN tg2 R7 B7 F3 FQ e3 y3 X7
    generalize w6.drew.setCell ⟨g, m * 7 + 3, none⟩ (.int .i64 (D64 (l.n + x.n))) = w7 at *
    obtain ⟨g2, vcap2, lu3, ev2, A7, _, lu7, _, _, st7, _, fD⟩ := ((HR7.out.ext ((Ext.refl w7).drew)).lastM HM.out)
    cases ev2
    obtain ⟨la3, lc3, elu3⟩ := A7.d.len
    have elu4 : lu3 = .slice la3 l.d.length lc3 := elu3
    clear elu3
    subst elu4
    have hbx7 : RM w7 w.heap.size (.slice (some ⟨g, 0, none⟩) (m + 1) vcap) (D ++ [{ l with n := D64 (l.n + x.n) }]) := HR7.out
    obtain ⟨g2, vcap2, lu8, ev2, A8, _, _, _, _, _, _, _⟩ := (hbx7.lastM HM.out)
    cases ev2
    have e6 := ((Ext.refl w7).drew).cell A8.c6
    rw [A7.c6] at e6
    cases e6
    have F6 := fun w' (hx : Ext w7 w') => hx.cell A8.c6
    have FQ := fun w' (hx : Ext w7 w') => hx.cell HQ7.out
    have HA7 := Lib.hid lu7
    have HFD := Lib.hid fD
    have HST := Lib.hid st7
    have HTT2 := Lib.hid (Nat.le_trans (by rw [HE1.out, tot_app, tot_one]; simp [addE] : l.d.length + x.d.length ≤ tot (merged 64 (L.take (k + 1)))) HTK.out)
    clear A7 A8 lu7 fD st7 hbx7
    go_upto_region 11 with (fail)
    refine wp_region_D (fun i => decide (2 ≤ i) && decide (i ≤ 8)) (by kernel_rfl) ?_
    refine pure_D (i := 0) (v := ?_) rfl rfl rfl (by kernel_rfl) (by kernel_rfl) (by kernel_rfl) rfl ?hyp ?_
    case hyp => intro wz; go_simp <;> with_reducible rfl
    simp only [List.setIfInBounds_toArray, List.set_cons_zero, List.set_cons_succ]
    refine pure_D (i := 1) (v := ?_) rfl rfl rfl (by kernel_rfl) (by kernel_rfl) (by kernel_rfl) rfl ?hyp ?_
    case hyp => intro wz; go_simp <;> with_reducible rfl
    simp only [List.setIfInBounds_toArray, List.set_cons_zero, List.set_cons_succ]
    refine take_D (i := 2) (v := ?_) rfl rfl rfl (by kernel_rfl) (by kernel_rfl) (by kernel_rfl) (by kernel_rfl) (by kernel_rfl) ((Ext.refl w7).drew) ?hyp ?_
    case hyp => intro wz hSw; (try dsimp only at hSw); go_simp <;> with_reducible rfl
    simp only [List.setIfInBounds_toArray, List.set_cons_zero, List.set_cons_succ]
    refine take_D (i := 3) (v := ?_) rfl rfl rfl (by kernel_rfl) (by kernel_rfl) (by kernel_rfl) (by kernel_rfl) (by kernel_rfl) ((Ext.refl w7).drew) ?hyp ?_
    case hyp => intro wz hSw; (try dsimp only at hSw); go_simp <;> with_reducible rfl
    simp only [List.setIfInBounds_toArray, List.set_cons_zero, List.set_cons_succ]
    refine take_D (i := 4) (v := ?_) rfl rfl rfl (by kernel_rfl) (by kernel_rfl) (by kernel_rfl) (by kernel_rfl) (by kernel_rfl) ((Ext.refl w7).drew) ?hyp ?_
    case hyp => intro wz hSw; (try dsimp only at hSw); go_simp <;> with_reducible rfl
    simp only [List.setIfInBounds_toArray, List.set_cons_zero, List.set_cons_succ]
    refine take_D (i := 5) (v := ?_) rfl rfl rfl (by kernel_rfl) (by kernel_rfl) (by kernel_rfl) (by kernel_rfl) (by kernel_rfl) ((Ext.refl w7).drew) ?hyp ?_
    case hyp => intro wz hSw; (try dsimp only at hSw); go_simp <;> with_reducible rfl
    simp only [List.setIfInBounds_toArray, List.set_cons_zero, List.set_cons_succ]
    refine take_D (i := 6) (v := ?_) rfl rfl rfl (by kernel_rfl) (by kernel_rfl) (by kernel_rfl) (by kernel_rfl) (by kernel_rfl) ((Ext.refl w7).drew) ?hyp ?_
    case hyp => intro wz hSw; (try dsimp only at hSw); go_simp <;> with_reducible rfl
    simp only [List.setIfInBounds_toArray, List.set_cons_zero, List.set_cons_succ]
    refine take_D (i := 7) (v := ?_) rfl rfl rfl (by kernel_rfl) (by kernel_rfl) (by kernel_rfl) (by kernel_rfl) (by kernel_rfl) ((Ext.refl w7).drew) ?hyp ?_
    case hyp => intro wz hSw; (try dsimp only at hSw); go_simp <;> with_reducible rfl
    simp only [List.setIfInBounds_toArray, List.set_cons_zero, List.set_cons_succ]
    refine take_D (i := 8) (v := ?_) rfl rfl rfl (by kernel_rfl) (by kernel_rfl) (by kernel_rfl) (by kernel_rfl) (by kernel_rfl) ((Ext.refl w7).drew) ?hyp ?_
    case hyp => intro wz hSw; (try dsimp only at hSw); go_simp <;> with_reducible rfl
    simp only [List.setIfInBounds_toArray, List.set_cons_zero, List.set_cons_succ]
    refine rest_D (n := 9) rfl rfl (fun j hj => by simp; omega) (by kernel_rfl) ?_
    refine appJ _ rfl _ _ rfl w.heap.size (.slice la3 l.d.length lc3) l.d rfl HA7.out (Nat.le_trans HX7.out.size (Nat.le_refl _)) (.slice ua ul uc) x.d rfl (HD7.out.ext ((Ext.refl w7).drew)) (by have := HTT2.out; omega) ?_
    intro v8 w8 R8 G8 at8
    obtain ⟨a8, n8, e8⟩ := (R8.dat (B' := 0)).len
    subst e8
    obtain ⟨s6, s6z⟩ := HST.out w8 G8
    have HR8 := Lib.hid (HFD.out w8 _ _ R8 G8 at8)
    have HX8 := Lib.hid ((((HX7.out.trans ((Ext.refl w7).drew)).grown G8 (fun q hq => (World.ownsRow.lt HA7.out q hq).1))).setCell (p := ⟨g, m * 7 + 6, none⟩) HBG.out (.slice a8 (l.d ++ x.d).length n8))
    have HE2 : Hid (merged 64 (L.take (k + 1)) = D ++ [{ l with n := D64 (l.n + x.n), d := l.d ++ x.d }]) := Lib.hid HE1.out
    clear R8 G8 at8 F6 FQ HFD HST HA7
    generalize (l.d ++ x.d).length = N8 at *
    go_wp2
    refine off_normal ?_
    go_wp2
    exact ⟨⟨k + 1, by omega, by go_num, by rw [HE2.out]; exact HR8.out, HX8.out⟩, by simp [intOf]; omega⟩
end Go.Proofs.Ytkbbneknblnbnaa

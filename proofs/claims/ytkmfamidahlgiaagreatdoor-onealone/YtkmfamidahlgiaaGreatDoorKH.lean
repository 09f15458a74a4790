import Derived.Scope
import Derived.ScopeJumps
import Derived.WalkMore
import Derived.Test.YtkmfamidahlgiaaGreatDoorKF
import Derived.Test.YtkmfamidahlgiaaGreatDoorKG
import Derived.Test.YtkmfamidahlgiaaGreatDoorKA
import Derived.Test.YtkmfamidahlgiaaGreatDoorCf3
/- A scope in which the run jumps on to labels, never back: what stands at a jump is walked on from its label. -/
namespace Go.Proofs.YtkmfamidahlgiaaGreatDoor
/-- as Q; by a goto: the rest behind its label, by no other goto -/
def fwdQ (P : Program) (c : Code) (Q : Exit → Act → World → Prop) : Exit → Act → World → Prop
  | .goto l, a, w => ∃ rest, findLabel c l = some rest ∧ rest.wp P (Exit.noGoto Q) a w
  | e, a, w => Q e a w
theorem fwd_normal {P : Program} {c : Code} {Q : Exit → Act → World → Prop} {a : Act} {w : World} : fwdQ P c Q .normal a w = Q .normal a w := rfl
theorem fwd_exit {P : Program} {c : Code} {Q : Exit → Act → World → Prop} {a : Act} {w : World} (id : Nat) : fwdQ P c Q (.exit id) a w = Q (.exit id) a w := rfl
theorem fwd_ret {P : Program} {c : Code} {Q : Exit → Act → World → Prop} {a : Act} {w : World} : fwdQ P c Q .ret a w = Q .ret a w := rfl
theorem fwd_goto {P : Program} {c rest : Code} {Q : Exit → Act → World → Prop} {a : Act} {w : World} (l : Nat) (h : findLabel c l = some rest) (hr : rest.wp P (Exit.noGoto Q) a w) : fwdQ P c Q (.goto l) a w := ⟨rest, h, hr⟩
theorem wp_scope_fwd {P : Program} {Q : Exit → Act → World → Prop} {a : Act} {w : World} {c : Code} (h : c.wp P (fwdQ P c Q) a w) : (Code.scope c).wp P Q a w := by
  intro b k cs
  obtain ⟨e, a₁, w₁, hq, harr⟩ := h b (.inScope c :: k) cs
  cases e with
  | normal => exact ⟨.normal, a₁, w₁, hq, .head step_scope (Steps.trans harr (.one step_inScope))⟩
  | exit id => exact ⟨.exit id, a₁, w₁, hq, fun k' hk => .head step_scope (harr k' (by simp [exitTo, hk]))⟩
  | goto l =>
    obtain ⟨rest, hf, hr⟩ := hq
    have hg : gotoIn l (.inScope c :: k) = some (.code rest :: .inScope c :: k) := by simp [gotoIn, hf]
    obtain ⟨e₂, a₂, w₂, hq₂, harr₂⟩ := hr b (.inScope c :: k) cs
    cases e₂ with
    | normal => exact ⟨.normal, a₂, w₂, hq₂, .of_steps (.head step_scope (harr _ hg)) (Steps.trans harr₂ (.one step_inScope))⟩
    | exit id => exact ⟨.exit id, a₂, w₂, hq₂, .of_steps (.head step_scope (harr _ hg)) (fun k' hk => harr₂ k' (by simp [exitTo, hk]))⟩
    | goto l => exact hq₂.elim
    | ret => exact ⟨_, a₂, w₂, hq₂, .of_steps (.head step_scope (harr _ hg)) harr₂⟩
    | panic ch => exact ⟨_, a₂, w₂, hq₂, .of_steps (.head step_scope (harr _ hg)) harr₂⟩
    | outgrown => exact ⟨_, a₂, w₂, hq₂, .of_steps (.head step_scope (harr _ hg)) harr₂⟩
  | ret => exact ⟨_, a₁, w₁, hq, .of_steps (.one step_scope) harr⟩
  | panic ch => exact ⟨_, a₁, w₁, hq, .of_steps (.one step_scope) harr⟩
  | outgrown => exact ⟨_, a₁, w₁, hq, .of_steps (.one step_scope) harr⟩
end Go.Proofs.YtkmfamidahlgiaaGreatDoor
/- A claim that is granted at once. -/
namespace Go.Proofs.YtkmfamidahlgiaaGreatDoor
open Go.RowKit
set_option linter.unusedVariables false
set_option linter.unusedSimpArgs false
set_option maxHeartbeats 4000000
attribute [local go_sem] later_cell later_frozen later_const fwd_normal fwd_exit fwd_ret
set_option maxRecDepth 100000 in
theorem soClaim32_now {W0 w : World} {b g sb lb : Nat} {y : LY} {f : Nat → Int} {lv : Value} {log : List Acc} {ups : List (List Int)} {su ev : Value} {xs : List Int} {N L : Int} {vL : Value} {EL : List Ev} {fb n t : Nat} {F : Nat → Fm} (K : BK y ups) (hV : y.V = 1) (E : Parts W0) (h : ST32 W0 w b g sb lb y f lv log ups su ev xs N L vL EL) (hF : FB32 W0 w b g sb lb lv vL fb n F) (ht : t * 11 + 11 ≤ n) (hx : Gts y.n xs) (hI : ScAt xs (F t).I) (hf : Rgs32 f) (hl : log.length ≤ 1000) (he : EL.length ≤ 800000) (h1 : 1 ≤ (F t).N) (h2 : (F t).N ≤ y.C) (hN : 0 ≤ N ∧ N < 4294967296) (hP : ¬ (F t).Pc = 1) (hfit : D32 (((N + (F t).N) % 4294967296) - L) ≤ y.C) :
    Calls Tryz.prog 36 #[.pointer (some ⟨sb, 0, none⟩), .int .i64 0, .pointer (some ⟨fb, t * 11, none⟩)] w (ClDoes32 W0 w lv vL b g sb lb y f log ups su ev xs N L EL fb n t F 0) := by
  have CM := soMay32 K hV h hF ht 0
  rw [show (decide ((0 : Int) = 0) && decide (1 ≤ (F t).N) && decide ((F t).N ≤ y.C)) = true by simp [h1, h2]] at CM
  have HCM := Lib.hid CM
  have HR := Lib.hid (Run32.start h hF)
  have CS := Lib.hid (fun w1 {F1 : Nat → Fm} (h1 : Run32 W0 w w1 lv vL b g sb lb y f lv log ups su ev xs N L vL EL fb n F1) (hI1 : ScAt xs (F1 t).I) => sScan32 K h1 ht E hx hI1 hf hl 0)
  have CN := Lib.hid (fun w1 {f2 lv2 log2 N2 L2 vL2 EL2} {F1 : Nat → Fm} (h1 : Run32 W0 w w1 lv vL b g sb lb y f2 lv2 log2 ups su ev xs N2 L2 vL2 EL2 fb n F1) hl2 h0 => soNote32 h1 ht 3 0 hl2 h0)
  have CE := Lib.hid (fun w1 {f2 lv2 log2 N2 L2 vL2 EL2} {F1 : Nat → Fm} (h1 : Run32 W0 w w1 lv vL b g sb lb y f2 lv2 log2 ups su ev xs N2 L2 vL2 EL2 fb n F1) (hl2 : EL2.length ≤ 900000) => eNoteB (B := 0) W0 w1 lb vL2 EL2 (evG 0) (.slice none 0 0) h1.T.G h1.T.X (dat_none _ _) hl2 (by simp [evG]))
  unfold evA evG at CE
  have HIS := Lib.hid hI
  have HHE := Lib.hid he
  have HNN := Lib.hid hN
  have HHT := Lib.hid ht
  obtain ⟨x, hx0⟩ : ∃ x, x = F t := ⟨_, rfl⟩
  have HX0 : Hid (F t = x) := Lib.hid hx0.symm
  rw [← hx0] at hP hfit h1 h2
  clear hx0
  have HFIN : Hid (∀ w' lv' vL' F1, F1 = updF F t { x with Fr := N } → Run32 W0 w w' lv vL b g sb lb y f lv' log ups su ev xs (((N + x.N) % 4294967296)) L vL' (EL ++ [evT 0 x.N N] ++ [evG 0]) fb n (updF F1 t { x with Fr := N, Pc := 0 }) → ClDoes32 W0 w lv vL b g sb lb y f log ups su ev xs N L EL fb n t F 0 (.returned (.bool true)) w') := Lib.hid (fun w' lv' vL' F1 hF1 hr => by
    rw [hF1, updF_two] at hr
    unfold ClDoes32
    rw [HX0.out]
    exact ⟨true, _, _, _, _, _, .inl ⟨hP, hfit, rfl, rfl, rfl, rfl, rfl, rfl⟩, rfl, lv', vL', hr⟩)
  have HP := Lib.hid hP
  have HFT := Lib.hid (decide_eq_true hfit)
  have d3 : (x.Pc == 1) = false := by simpa using hP
  clear hP hfit CS
  clear CM h hF E K hx hf hl he h1 h2 hN hI ht
  obtain ⟨o, ho⟩ : ∃ o, o = t * 11 := ⟨_, rfl⟩
  have HO := Lib.hid ho
  rw [← ho] at HCM ⊢
  clear ho
  go_enter Tryz.func36, Tryz.ntmps36
  go_wp2_with fail
  refine wp_scope_fwd ?_
  go_wp2_with fail
  refine HCM.out.mono ?_
  rintro e w1 ⟨rfl, X1⟩
  replace HR := Lib.hid (HR.out.ext X1)
  clear X1 HCM
  have c3 : w1.cell? ⟨fb, o + 3, none⟩ = some (.int .i64 x.Pc) := by rw [HO.out, ← HX0.out]; exact (HR.out.F.at_ HHT.out 3 (by decide)).1
  go_upto_region 4 with (fail)
  have s10 := HR.out.T.S.q10
  have c6 : w1.cell? ⟨fb, o + 6, none⟩ = some (.int .u32 (F t).Fr) := by rw [HO.out]; exact (HR.out.F.at_ HHT.out 6 (by decide)).1
  have z6 : w1.frozen? ⟨fb, o + 6, none⟩ = false := by rw [HO.out]; exact (HR.out.F.at_ HHT.out 6 (by decide)).2
  have HFF : Hid (F t = x) := HX0
  have HS6 : Hid (∀ wz {f2 lv2 log2 N2 L2 vL2 EL2}, Run32 W0 w wz lv vL b g sb lb y f2 lv2 log2 ups su ev xs N2 L2 vL2 EL2 fb n F → Run32 W0 w (wz.setCell ⟨fb, o + 6, none⟩ (.int .u32 N)) lv vL b g sb lb y f2 lv2 log2 ups su ev xs N2 L2 vL2 EL2 fb n (updF F t { x with Fr := N })) := Lib.hid (fun wz {_ _ _ _ _ _ _} hr => by rw [HO.out]; exact hr.setF HHT.out (j := 6) (by decide) rfl (by rw [HFF.out]; exact (fun i hi hne => by
    have h11 : i = 0 ∨ i = 1 ∨ i = 2 ∨ i = 3 ∨ i = 4 ∨ i = 5 ∨ i = 7 ∨ i = 8 ∨ i = 9 ∨ i = 10 := by omega
    rcases h11 with rfl | rfl | rfl | rfl | rfl | rfl | rfl | rfl | rfl | rfl <;> rfl)))
  replace HR := Lib.hid (HS6.out _ HR.out)
  clear HS6
  obtain ⟨F1, hF1⟩ : ∃ F1, F1 = updF F t { x with Fr := N } := ⟨_, rfl⟩
  have HFF1 : Hid (F1 t = { x with Fr := N }) := Lib.hid (by rw [hF1, updF_at])
  have HBF1 : Hid (F1 = updF F t { x with Fr := N }) := Lib.hid hF1
  rw [← hF1] at HR
  clear hF1
  go_upto_region 5 with (fail)
  first | refine name_wp ?_ | refine name_list ?_
  intro w2 e2
  rw [e2] at HR
  clear e2 c3 c6 z6 s10 d3
  have CF := soFits32 HR.out.T HR.out.F HHT.out
  rw [← HO.out, HFF1.out] at CF
  rw [show decide (D32 (((({ x with Fr := N } : Fm).Fr + ({ x with Fr := N } : Fm).N) % 4294967296) - L) ≤ y.C) = true from HFT.out] at CF
  go_wp2_with fail
  refine CF.mono ?_
  rintro e w3 ⟨rfl, X3⟩
  replace HR := Lib.hid (HR.out.ext X3)
  clear X3 CF HFF
  have HFR : Hid (0 ≤ N ∧ N < 4294967296) := HNN
  replace HFIN := Lib.hid (fun w' lv' vL' => HFIN.out w' lv' vL' F1 HBF1.out)
  go_wp2_with fail
  go_step3
  refine fwd_goto 1 rfl ?_
  have HS3 : Hid (∀ wz {f2 lv2 log2 N2 L2 vL2 EL2}, Run32 W0 w wz lv vL b g sb lb y f2 lv2 log2 ups su ev xs N2 L2 vL2 EL2 fb n F1 → Run32 W0 w (wz.setCell ⟨fb, o + 3, none⟩ (.int .i64 0)) lv vL b g sb lb y f2 lv2 log2 ups su ev xs N2 L2 vL2 EL2 fb n (updF F1 t { x with Fr := N, Pc := 0 })) := Lib.hid (fun wz {_ _ _ _ _ _ _} hr => by rw [HO.out]; exact hr.setF HHT.out (j := 3) (by decide) rfl (by rw [HFF1.out]; exact (fun i hi hne => by
    have h11 : i = 0 ∨ i = 1 ∨ i = 2 ∨ i = 4 ∨ i = 5 ∨ i = 6 ∨ i = 7 ∨ i = 8 ∨ i = 9 ∨ i = 10 := by omega
    rcases h11 with rfl | rfl | rfl | rfl | rfl | rfl | rfl | rfl | rfl | rfl <;> rfl)))
  go_upto_region 12 with (fail)
  refine settle_wp ?_
  intro wg Xg
  replace HR := Lib.hid (HR.out.ext Xg)
  clear Xg
  have c1 : wg.cell? ⟨fb, o + 1, none⟩ = some (.int .i64 x.N) := by rw [HO.out]; have := (HR.out.F.at_ HHT.out 1 (by decide)).1; rw [HFF1.out] at this; exact this
  have s10 := HR.out.T.S.q10
  have k1 := fun w' (hx : Ext wg w') => hx.cell c1
  have k2 := fun w' (hx : Ext wg w') => hx.cell s10
  refine wp_region_D (fun i => decide (1 ≤ i) && decide (i ≤ 8)) (by kernel_rfl) ?_
  refine pure_D (i := 0) (v := ?_) rfl rfl rfl (by kernel_rfl) (by kernel_rfl) (by kernel_rfl) rfl ?hyp ?_
  case hyp => intro wz; go_simp <;> with_reducible rfl
  simp only [List.setIfInBounds_toArray, List.set_cons_zero, List.set_cons_succ]
  refine take_D (i := 1) (v := ?_) rfl rfl rfl (by kernel_rfl) (by kernel_rfl) (by kernel_rfl) (by kernel_rfl) (by kernel_rfl) (((Ext.refl wg).drew)) ?hyp ?_
  case hyp => intro wz hSw; (try dsimp only at hSw); go_simp <;> with_reducible rfl
  simp only [List.setIfInBounds_toArray, List.set_cons_zero, List.set_cons_succ]
  refine take_D (i := 2) (v := ?_) rfl rfl rfl (by kernel_rfl) (by kernel_rfl) (by kernel_rfl) (by kernel_rfl) (by kernel_rfl) (((Ext.refl wg).drew)) ?hyp ?_
  case hyp => intro wz hSw; (try dsimp only at hSw); go_simp <;> with_reducible rfl
  simp only [List.setIfInBounds_toArray, List.set_cons_zero, List.set_cons_succ]
  refine take_D (i := 3) (v := ?_) rfl rfl rfl (by kernel_rfl) (by kernel_rfl) (by kernel_rfl) (by kernel_rfl) (by kernel_rfl) (((Ext.refl wg).drew)) ?hyp ?_
  case hyp => intro wz hSw; (try dsimp only at hSw); go_simp <;> with_reducible rfl
  simp only [List.setIfInBounds_toArray, List.set_cons_zero, List.set_cons_succ]
  refine take_D (i := 4) (v := ?_) rfl rfl rfl (by kernel_rfl) (by kernel_rfl) (by kernel_rfl) (by kernel_rfl) (by kernel_rfl) (((Ext.refl wg).drew)) ?hyp ?_
  case hyp => intro wz hSw; (try dsimp only at hSw); go_simp <;> with_reducible rfl
  simp only [List.setIfInBounds_toArray, List.set_cons_zero, List.set_cons_succ]
  refine take_D (i := 5) (v := ?_) rfl rfl rfl (by kernel_rfl) (by kernel_rfl) (by kernel_rfl) (by kernel_rfl) (by kernel_rfl) (((Ext.refl wg).drew)) ?hyp ?_
  case hyp => intro wz hSw; (try dsimp only at hSw); go_simp <;> with_reducible rfl
  simp only [List.setIfInBounds_toArray, List.set_cons_zero, List.set_cons_succ]
  refine take_D (i := 6) (v := ?_) rfl rfl rfl (by kernel_rfl) (by kernel_rfl) (by kernel_rfl) (by kernel_rfl) (by kernel_rfl) (((Ext.refl wg).drew)) ?hyp ?_
  case hyp => intro wz hSw; (try dsimp only at hSw); go_simp <;> with_reducible rfl
  simp only [List.setIfInBounds_toArray, List.set_cons_zero, List.set_cons_succ]
  refine take_D (i := 7) (v := ?_) rfl rfl rfl (by kernel_rfl) (by kernel_rfl) (by kernel_rfl) (by kernel_rfl) (by kernel_rfl) (((Ext.refl wg).drew)) ?hyp ?_
  case hyp => intro wz hSw; (try dsimp only at hSw); go_simp <;> with_reducible rfl
  simp only [List.setIfInBounds_toArray, List.set_cons_zero, List.set_cons_succ]
  refine take_D (i := 8) (v := ?_) rfl rfl rfl (by kernel_rfl) (by kernel_rfl) (by kernel_rfl) (by kernel_rfl) (by kernel_rfl) (((Ext.refl wg).drew)) ?hyp ?_
  case hyp => intro wz hSw; (try dsimp only at hSw); go_simp <;> with_reducible rfl
  simp only [List.setIfInBounds_toArray, List.set_cons_zero, List.set_cons_succ]
  refine rest_D (n := 9) rfl rfl (fun j hj => by simp; omega) (by kernel_rfl) ?_
  clear k1 k2 c1 s10
  have XD := Lib.hid ((Ext.refl wg).drew)
  replace HR := Lib.hid (HR.out.ext XD.out)
  clear XD
  generalize wg.drew = wh at *
  have s10 := HR.out.T.S.q10
  have z10 := HR.out.T.S.z10
  go_wp2_with fail
  refine (addU32 N x.N wh).mono ?_
  rintro e w' ⟨rfl, rfl⟩
  replace HR := Lib.hid (HR.out.setN (((N + x.N) % 4294967296)))
  go_wp2
  refine off_normal ?_
  go_upto_region 13 with (fail)
  first | refine name_wp ?_ | refine name_list ?_
  intro wi ei
  rw [ei] at HR
  clear ei s10 z10
  have c3 : wi.cell? ⟨fb, o + 3, none⟩ = some (fmc32 (F1 t) 3) := by rw [HO.out]; exact (HR.out.F.at_ HHT.out 3 (by decide)).1
  have z3 : wi.frozen? ⟨fb, o + 3, none⟩ = false := by rw [HO.out]; exact (HR.out.F.at_ HHT.out 3 (by decide)).2
  replace HR := Lib.hid (HS3.out _ HR.out)
  go_upto_region 14 with (fail)
  first | refine name_wp ?_ | refine name_list ?_
  intro wj ej
  rw [ej] at HR
  clear ej c3 z3
  have CN2 := CN.out _ HR.out (by have := HHE.out; omega) (by rw [updF_at]; exact HFR.out)
  rw [← HO.out, updF_at] at CN2
  go_wp2_with fail
  refine CN2.mono ?_
  rintro e wk ⟨rfl, vLk, Rk⟩
  clear CN2
  replace HR := Lib.hid Rk
  clear Rk
  have s1 := HR.out.T.S.q1
  go_wp2_with fail
  refine (CE.out _ HR.out (by have := HHE.out; simp; omega)).mono ?_
  rintro e wl hnote
  obtain ⟨he2, vLl, hG2, hN2, hL2⟩ := hnote
  subst he2
  replace HR := Lib.hid (HR.out.note hG2 hN2 hL2)
  clear hG2 hN2 hL2 s1
  go_wp2
  go_ret
  exact HFIN.out _ _ _ HR.out
set_option maxRecDepth 100000 in
theorem soClaim64_now {W0 w : World} {b g sb lb : Nat} {y : LY} {f : Nat → Int} {lv : Value} {log : List Acc} {ups : List (List Int)} {su ev : Value} {xs : List Int} {N L : Int} {vL : Value} {EL : List Ev} {fb n t : Nat} {F : Nat → Fm} (K : BK y ups) (hV : y.V = 1) (E : Parts W0) (h : ST64 W0 w b g sb lb y f lv log ups su ev xs N L vL EL) (hF : FB64 W0 w b g sb lb lv vL fb n F) (ht : t * 11 + 11 ≤ n) (hx : Gts y.n xs) (hI : ScAt xs (F t).I) (hf : Rgs64 f) (hl : log.length ≤ 1000) (he : EL.length ≤ 800000) (h1 : 1 ≤ (F t).N) (h2 : (F t).N ≤ y.C) (hN : 0 ≤ N ∧ N < 18446744073709551616) (hP : ¬ (F t).Pc = 1) (hfit : D64 ((U64 (N + (F t).N)) - L) ≤ y.C) :
    Calls Tryz.prog 44 #[.pointer (some ⟨sb, 0, none⟩), .int .i64 0, .pointer (some ⟨fb, t * 11, none⟩)] w (ClDoes64 W0 w lv vL b g sb lb y f log ups su ev xs N L EL fb n t F 0) := by
  have CM := soMay64 K hV h hF ht 0
  rw [show (decide ((0 : Int) = 0) && decide (1 ≤ (F t).N) && decide ((F t).N ≤ y.C)) = true by simp [h1, h2]] at CM
  have HCM := Lib.hid CM
  have HR := Lib.hid (Run64.start h hF)
  have CS := Lib.hid (fun w1 {F1 : Nat → Fm} (h1 : Run64 W0 w w1 lv vL b g sb lb y f lv log ups su ev xs N L vL EL fb n F1) (hI1 : ScAt xs (F1 t).I) => sScan64 K h1 ht E hx hI1 hf hl 0)
  have CN := Lib.hid (fun w1 {f2 lv2 log2 N2 L2 vL2 EL2} {F1 : Nat → Fm} (h1 : Run64 W0 w w1 lv vL b g sb lb y f2 lv2 log2 ups su ev xs N2 L2 vL2 EL2 fb n F1) hl2 h0 => soNote64 h1 ht 3 0 hl2 h0)
  have CE := Lib.hid (fun w1 {f2 lv2 log2 N2 L2 vL2 EL2} {F1 : Nat → Fm} (h1 : Run64 W0 w w1 lv vL b g sb lb y f2 lv2 log2 ups su ev xs N2 L2 vL2 EL2 fb n F1) (hl2 : EL2.length ≤ 900000) => eNoteB (B := 0) W0 w1 lb vL2 EL2 (evG 0) (.slice none 0 0) h1.T.G h1.T.X (dat_none _ _) hl2 (by simp [evG]))
  unfold evA evG at CE
  have HIS := Lib.hid hI
  have HHE := Lib.hid he
  have HNN := Lib.hid hN
  have HHT := Lib.hid ht
  obtain ⟨x, hx0⟩ : ∃ x, x = F t := ⟨_, rfl⟩
  have HX0 : Hid (F t = x) := Lib.hid hx0.symm
  rw [← hx0] at hP hfit h1 h2
  clear hx0
  have HFIN : Hid (∀ w' lv' vL' F1, F1 = updF F t { x with Fr := N } → Run64 W0 w w' lv vL b g sb lb y f lv' log ups su ev xs ((U64 (N + x.N))) L vL' (EL ++ [evT 0 x.N N] ++ [evG 0]) fb n (updF F1 t { x with Fr := N, Pc := 0 }) → ClDoes64 W0 w lv vL b g sb lb y f log ups su ev xs N L EL fb n t F 0 (.returned (.bool true)) w') := Lib.hid (fun w' lv' vL' F1 hF1 hr => by
    rw [hF1, updF_two] at hr
    unfold ClDoes64
    rw [HX0.out]
    exact ⟨true, _, _, _, _, _, .inl ⟨hP, hfit, rfl, rfl, rfl, rfl, rfl, rfl⟩, rfl, lv', vL', hr⟩)
  have HP := Lib.hid hP
  have HFT := Lib.hid (decide_eq_true hfit)
  have d3 : (x.Pc == 1) = false := by simpa using hP
  clear hP hfit CS
  clear CM h hF E K hx hf hl he h1 h2 hN hI ht
  obtain ⟨o, ho⟩ : ∃ o, o = t * 11 := ⟨_, rfl⟩
  have HO := Lib.hid ho
  rw [← ho] at HCM ⊢
  clear ho
  go_enter Tryz.func44, Tryz.ntmps44
  go_wp2_with fail
  refine wp_scope_fwd ?_
  go_wp2_with fail
  refine HCM.out.mono ?_
  rintro e w1 ⟨rfl, X1⟩
  replace HR := Lib.hid (HR.out.ext X1)
  clear X1 HCM
  have c3 : w1.cell? ⟨fb, o + 3, none⟩ = some (.int .i64 x.Pc) := by rw [HO.out, ← HX0.out]; exact (HR.out.F.at_ HHT.out 3 (by decide)).1
  go_upto_region 4 with (fail)
  have s10 := HR.out.T.S.q10
  have c6 : w1.cell? ⟨fb, o + 6, none⟩ = some (.int .u64 (F t).Fr) := by rw [HO.out]; exact (HR.out.F.at_ HHT.out 6 (by decide)).1
  have z6 : w1.frozen? ⟨fb, o + 6, none⟩ = false := by rw [HO.out]; exact (HR.out.F.at_ HHT.out 6 (by decide)).2
  have HFF : Hid (F t = x) := HX0
  have HS6 : Hid (∀ wz {f2 lv2 log2 N2 L2 vL2 EL2}, Run64 W0 w wz lv vL b g sb lb y f2 lv2 log2 ups su ev xs N2 L2 vL2 EL2 fb n F → Run64 W0 w (wz.setCell ⟨fb, o + 6, none⟩ (.int .u64 N)) lv vL b g sb lb y f2 lv2 log2 ups su ev xs N2 L2 vL2 EL2 fb n (updF F t { x with Fr := N })) := Lib.hid (fun wz {_ _ _ _ _ _ _} hr => by rw [HO.out]; exact hr.setF HHT.out (j := 6) (by decide) rfl (by rw [HFF.out]; exact (fun i hi hne => by
    have h11 : i = 0 ∨ i = 1 ∨ i = 2 ∨ i = 3 ∨ i = 4 ∨ i = 5 ∨ i = 7 ∨ i = 8 ∨ i = 9 ∨ i = 10 := by omega
    rcases h11 with rfl | rfl | rfl | rfl | rfl | rfl | rfl | rfl | rfl | rfl <;> rfl)))
  replace HR := Lib.hid (HS6.out _ HR.out)
  clear HS6
  obtain ⟨F1, hF1⟩ : ∃ F1, F1 = updF F t { x with Fr := N } := ⟨_, rfl⟩
  have HFF1 : Hid (F1 t = { x with Fr := N }) := Lib.hid (by rw [hF1, updF_at])
  have HBF1 : Hid (F1 = updF F t { x with Fr := N }) := Lib.hid hF1
  rw [← hF1] at HR
  clear hF1
  go_upto_region 5 with (fail)
  first | refine name_wp ?_ | refine name_list ?_
  intro w2 e2
  rw [e2] at HR
  clear e2 c3 c6 z6 s10 d3
  have CF := soFits64 HR.out.T HR.out.F HHT.out
  rw [← HO.out, HFF1.out] at CF
  rw [show decide (D64 ((U64 (({ x with Fr := N } : Fm).Fr + ({ x with Fr := N } : Fm).N)) - L) ≤ y.C) = true from HFT.out] at CF
  go_wp2_with fail
  refine CF.mono ?_
  rintro e w3 ⟨rfl, X3⟩
  replace HR := Lib.hid (HR.out.ext X3)
  clear X3 CF HFF
  have HFR : Hid (0 ≤ N ∧ N < 18446744073709551616) := HNN
  replace HFIN := Lib.hid (fun w' lv' vL' => HFIN.out w' lv' vL' F1 HBF1.out)
  go_wp2_with fail
  go_step3
  refine fwd_goto 1 rfl ?_
  have HS3 : Hid (∀ wz {f2 lv2 log2 N2 L2 vL2 EL2}, Run64 W0 w wz lv vL b g sb lb y f2 lv2 log2 ups su ev xs N2 L2 vL2 EL2 fb n F1 → Run64 W0 w (wz.setCell ⟨fb, o + 3, none⟩ (.int .i64 0)) lv vL b g sb lb y f2 lv2 log2 ups su ev xs N2 L2 vL2 EL2 fb n (updF F1 t { x with Fr := N, Pc := 0 })) := Lib.hid (fun wz {_ _ _ _ _ _ _} hr => by rw [HO.out]; exact hr.setF HHT.out (j := 3) (by decide) rfl (by rw [HFF1.out]; exact (fun i hi hne => by
    have h11 : i = 0 ∨ i = 1 ∨ i = 2 ∨ i = 4 ∨ i = 5 ∨ i = 6 ∨ i = 7 ∨ i = 8 ∨ i = 9 ∨ i = 10 := by omega
    rcases h11 with rfl | rfl | rfl | rfl | rfl | rfl | rfl | rfl | rfl | rfl <;> rfl)))
  go_upto_region 12 with (fail)
  refine settle_wp ?_
  intro wg Xg
  replace HR := Lib.hid (HR.out.ext Xg)
  clear Xg
  have c1 : wg.cell? ⟨fb, o + 1, none⟩ = some (.int .i64 x.N) := by rw [HO.out]; have := (HR.out.F.at_ HHT.out 1 (by decide)).1; rw [HFF1.out] at this; exact this
  have s10 := HR.out.T.S.q10
  have k1 := fun w' (hx : Ext wg w') => hx.cell c1
  have k2 := fun w' (hx : Ext wg w') => hx.cell s10
  refine wp_region_D (fun i => decide (1 ≤ i) && decide (i ≤ 8)) (by kernel_rfl) ?_
  refine pure_D (i := 0) (v := ?_) rfl rfl rfl (by kernel_rfl) (by kernel_rfl) (by kernel_rfl) rfl ?hyp ?_
  case hyp => intro wz; go_simp <;> with_reducible rfl
  simp only [List.setIfInBounds_toArray, List.set_cons_zero, List.set_cons_succ]
  refine take_D (i := 1) (v := ?_) rfl rfl rfl (by kernel_rfl) (by kernel_rfl) (by kernel_rfl) (by kernel_rfl) (by kernel_rfl) (((Ext.refl wg).drew)) ?hyp ?_
  case hyp => intro wz hSw; (try dsimp only at hSw); go_simp <;> with_reducible rfl
  simp only [List.setIfInBounds_toArray, List.set_cons_zero, List.set_cons_succ]
  refine take_D (i := 2) (v := ?_) rfl rfl rfl (by kernel_rfl) (by kernel_rfl) (by kernel_rfl) (by kernel_rfl) (by kernel_rfl) (((Ext.refl wg).drew)) ?hyp ?_
  case hyp => intro wz hSw; (try dsimp only at hSw); go_simp <;> with_reducible rfl
  simp only [List.setIfInBounds_toArray, List.set_cons_zero, List.set_cons_succ]
  refine take_D (i := 3) (v := ?_) rfl rfl rfl (by kernel_rfl) (by kernel_rfl) (by kernel_rfl) (by kernel_rfl) (by kernel_rfl) (((Ext.refl wg).drew)) ?hyp ?_
  case hyp => intro wz hSw; (try dsimp only at hSw); go_simp <;> with_reducible rfl
  simp only [List.setIfInBounds_toArray, List.set_cons_zero, List.set_cons_succ]
  refine take_D (i := 4) (v := ?_) rfl rfl rfl (by kernel_rfl) (by kernel_rfl) (by kernel_rfl) (by kernel_rfl) (by kernel_rfl) (((Ext.refl wg).drew)) ?hyp ?_
  case hyp => intro wz hSw; (try dsimp only at hSw); go_simp <;> with_reducible rfl
  simp only [List.setIfInBounds_toArray, List.set_cons_zero, List.set_cons_succ]
  refine take_D (i := 5) (v := ?_) rfl rfl rfl (by kernel_rfl) (by kernel_rfl) (by kernel_rfl) (by kernel_rfl) (by kernel_rfl) (((Ext.refl wg).drew)) ?hyp ?_
  case hyp => intro wz hSw; (try dsimp only at hSw); go_simp <;> with_reducible rfl
  simp only [List.setIfInBounds_toArray, List.set_cons_zero, List.set_cons_succ]
  refine take_D (i := 6) (v := ?_) rfl rfl rfl (by kernel_rfl) (by kernel_rfl) (by kernel_rfl) (by kernel_rfl) (by kernel_rfl) (((Ext.refl wg).drew)) ?hyp ?_
  case hyp => intro wz hSw; (try dsimp only at hSw); go_simp <;> with_reducible rfl
  simp only [List.setIfInBounds_toArray, List.set_cons_zero, List.set_cons_succ]
  refine take_D (i := 7) (v := ?_) rfl rfl rfl (by kernel_rfl) (by kernel_rfl) (by kernel_rfl) (by kernel_rfl) (by kernel_rfl) (((Ext.refl wg).drew)) ?hyp ?_
  case hyp => intro wz hSw; (try dsimp only at hSw); go_simp <;> with_reducible rfl
  simp only [List.setIfInBounds_toArray, List.set_cons_zero, List.set_cons_succ]
  refine take_D (i := 8) (v := ?_) rfl rfl rfl (by kernel_rfl) (by kernel_rfl) (by kernel_rfl) (by kernel_rfl) (by kernel_rfl) (((Ext.refl wg).drew)) ?hyp ?_
  case hyp => intro wz hSw; (try dsimp only at hSw); go_simp <;> with_reducible rfl
  simp only [List.setIfInBounds_toArray, List.set_cons_zero, List.set_cons_succ]
  refine rest_D (n := 9) rfl rfl (fun j hj => by simp; omega) (by kernel_rfl) ?_
  clear k1 k2 c1 s10
  have XD := Lib.hid ((Ext.refl wg).drew)
  replace HR := Lib.hid (HR.out.ext XD.out)
  clear XD
  generalize wg.drew = wh at *
  have s10 := HR.out.T.S.q10
  have z10 := HR.out.T.S.z10
  go_wp2_with fail
  refine (addU64 N x.N wh).mono ?_
  rintro e w' ⟨rfl, rfl⟩
  replace HR := Lib.hid (HR.out.setN ((U64 (N + x.N))))
  go_wp2
  refine off_normal ?_
  go_upto_region 13 with (fail)
  first | refine name_wp ?_ | refine name_list ?_
  intro wi ei
  rw [ei] at HR
  clear ei s10 z10
  have c3 : wi.cell? ⟨fb, o + 3, none⟩ = some (fmc64 (F1 t) 3) := by rw [HO.out]; exact (HR.out.F.at_ HHT.out 3 (by decide)).1
  have z3 : wi.frozen? ⟨fb, o + 3, none⟩ = false := by rw [HO.out]; exact (HR.out.F.at_ HHT.out 3 (by decide)).2
  replace HR := Lib.hid (HS3.out _ HR.out)
  go_upto_region 14 with (fail)
  first | refine name_wp ?_ | refine name_list ?_
  intro wj ej
  rw [ej] at HR
  clear ej c3 z3
  have CN2 := CN.out _ HR.out (by have := HHE.out; omega) (by rw [updF_at]; exact HFR.out)
  rw [← HO.out, updF_at] at CN2
  go_wp2_with fail
  refine CN2.mono ?_
  rintro e wk ⟨rfl, vLk, Rk⟩
  clear CN2
  replace HR := Lib.hid Rk
  clear Rk
  have s1 := HR.out.T.S.q1
  go_wp2_with fail
  refine (CE.out _ HR.out (by have := HHE.out; simp; omega)).mono ?_
  rintro e wl hnote
  obtain ⟨he2, vLl, hG2, hN2, hL2⟩ := hnote
  subst he2
  replace HR := Lib.hid (HR.out.note hG2 hN2 hL2)
  clear hG2 hN2 hL2 s1
  go_wp2
  go_ret
  exact HFIN.out _ _ _ HR.out
end Go.Proofs.YtkmfamidahlgiaaGreatDoor
/- The first step of a scan. -/
namespace Go.Proofs.YtkmfamidahlgiaaGreatDoor
open Go.RowKit
set_option linter.unusedVariables false
set_option linter.unusedSimpArgs false
set_option maxHeartbeats 4000000
attribute [local go_sem] later_cell later_frozen later_const fwd_normal fwd_exit fwd_ret
set_option maxRecDepth 100000 in
theorem soClaim32_first {W0 w : World} {b g sb lb : Nat} {y : LY} {f : Nat → Int} {lv : Value} {log : List Acc} {ups : List (List Int)} {su ev : Value} {xs : List Int} {N L : Int} {vL : Value} {EL : List Ev} {fb n t : Nat} {F : Nat → Fm} (K : BK y ups) (hV : y.V = 1) (E : Parts W0) (h : ST32 W0 w b g sb lb y f lv log ups su ev xs N L vL EL) (hF : FB32 W0 w b g sb lb lv vL fb n F) (ht : t * 11 + 11 ≤ n) (hx : Gts y.n xs) (hI : ScAt xs (F t).I) (hf : Rgs32 f) (hl : log.length ≤ 1000) (he : EL.length ≤ 800000) (h1 : 1 ≤ (F t).N) (h2 : (F t).N ≤ y.C) (hN : 0 ≤ N ∧ N < 4294967296) (hP : ¬ (F t).Pc = 1) (hfit : ¬ D32 (((N + (F t).N) % 4294967296) - L) ≤ y.C) :
    Calls Tryz.prog 36 #[.pointer (some ⟨sb, 0, none⟩), .int .i64 0, .pointer (some ⟨fb, t * 11, none⟩)] w (ClDoes32 W0 w lv vL b g sb lb y f log ups su ev xs N L EL fb n t F 0) := by
  have CM := soMay32 K hV h hF ht 0
  rw [show (decide ((0 : Int) = 0) && decide (1 ≤ (F t).N) && decide ((F t).N ≤ y.C)) = true by simp [h1, h2]] at CM
  have HCM := Lib.hid CM
  have HR := Lib.hid (Run32.start h hF)
  have CS := Lib.hid (fun w1 {F1 : Nat → Fm} (h1 : Run32 W0 w w1 lv vL b g sb lb y f lv log ups su ev xs N L vL EL fb n F1) (hI1 : ScAt xs (F1 t).I) => sScan32 K h1 ht E hx hI1 hf hl 0)
  have CN := Lib.hid (fun w1 {f2 lv2 log2 N2 L2 vL2 EL2} {F1 : Nat → Fm} (h1 : Run32 W0 w w1 lv vL b g sb lb y f2 lv2 log2 ups su ev xs N2 L2 vL2 EL2 fb n F1) hl2 h0 => soNote32 h1 ht 3 0 hl2 h0)
  have CE := Lib.hid (fun w1 {f2 lv2 log2 N2 L2 vL2 EL2} {F1 : Nat → Fm} (h1 : Run32 W0 w w1 lv vL b g sb lb y f2 lv2 log2 ups su ev xs N2 L2 vL2 EL2 fb n F1) (hl2 : EL2.length ≤ 900000) => eNoteB (B := 0) W0 w1 lb vL2 EL2 (evG 0) (.slice none 0 0) h1.T.G h1.T.X (dat_none _ _) hl2 (by simp [evG]))
  unfold evA evG at CE
  have HIS := Lib.hid hI
  have HHE := Lib.hid he
  have HNN := Lib.hid hN
  have HHT := Lib.hid ht
  obtain ⟨x, hx0⟩ : ∃ x, x = F t := ⟨_, rfl⟩
  have HX0 : Hid (F t = x) := Lib.hid hx0.symm
  rw [← hx0] at hP hfit h1 h2 hI
  clear hx0
  have HREL : Hid (ClFst32 y.C N L x { x with Fr := N, Pc := 1 }) := Lib.hid (.inr ⟨hP, hfit, rfl⟩)
  replace HIS := Lib.hid hI
  have HFT := Lib.hid (decide_eq_false hfit)
  have d3 : (x.Pc == 1) = false := by simpa using hP
  clear hP hfit
  clear CM h hF E K hx hf hl he h1 h2 hN hI ht
  obtain ⟨o, ho⟩ : ∃ o, o = t * 11 := ⟨_, rfl⟩
  have HO := Lib.hid ho
  rw [← ho] at HCM ⊢
  clear ho
  go_enter Tryz.func36, Tryz.ntmps36
  go_wp2_with fail
  refine wp_scope_fwd ?_
  go_wp2_with fail
  refine HCM.out.mono ?_
  rintro e w1 ⟨rfl, X1⟩
  replace HR := Lib.hid (HR.out.ext X1)
  clear X1 HCM
  have c3 : w1.cell? ⟨fb, o + 3, none⟩ = some (.int .i64 x.Pc) := by rw [HO.out, ← HX0.out]; exact (HR.out.F.at_ HHT.out 3 (by decide)).1
  go_upto_region 4 with (fail)
  have s10 := HR.out.T.S.q10
  have c6 : w1.cell? ⟨fb, o + 6, none⟩ = some (.int .u32 (F t).Fr) := by rw [HO.out]; exact (HR.out.F.at_ HHT.out 6 (by decide)).1
  have z6 : w1.frozen? ⟨fb, o + 6, none⟩ = false := by rw [HO.out]; exact (HR.out.F.at_ HHT.out 6 (by decide)).2
  have HFF : Hid (F t = x) := HX0
  have HS6 : Hid (∀ wz {f2 lv2 log2 N2 L2 vL2 EL2}, Run32 W0 w wz lv vL b g sb lb y f2 lv2 log2 ups su ev xs N2 L2 vL2 EL2 fb n F → Run32 W0 w (wz.setCell ⟨fb, o + 6, none⟩ (.int .u32 N)) lv vL b g sb lb y f2 lv2 log2 ups su ev xs N2 L2 vL2 EL2 fb n (updF F t { x with Fr := N })) := Lib.hid (fun wz {_ _ _ _ _ _ _} hr => by rw [HO.out]; exact hr.setF HHT.out (j := 6) (by decide) rfl (by rw [HFF.out]; exact (fun i hi hne => by
    have h11 : i = 0 ∨ i = 1 ∨ i = 2 ∨ i = 3 ∨ i = 4 ∨ i = 5 ∨ i = 7 ∨ i = 8 ∨ i = 9 ∨ i = 10 := by omega
    rcases h11 with rfl | rfl | rfl | rfl | rfl | rfl | rfl | rfl | rfl | rfl <;> rfl)))
  replace HR := Lib.hid (HS6.out _ HR.out)
  clear HS6
  obtain ⟨F1, hF1⟩ : ∃ F1, F1 = updF F t { x with Fr := N } := ⟨_, rfl⟩
  have HFF1 : Hid (F1 t = { x with Fr := N }) := Lib.hid (by rw [hF1, updF_at])
  have HBF1 : Hid (F1 = updF F t { x with Fr := N }) := Lib.hid hF1
  rw [← hF1] at HR
  clear hF1
  go_upto_region 5 with (fail)
  first | refine name_wp ?_ | refine name_list ?_
  intro w2 e2
  rw [e2] at HR
  clear e2 c3 c6 z6 s10 d3
  have CF := soFits32 HR.out.T HR.out.F HHT.out
  rw [← HO.out, HFF1.out] at CF
  rw [show decide (D32 (((({ x with Fr := N } : Fm).Fr + ({ x with Fr := N } : Fm).N) % 4294967296) - L) ≤ y.C) = false from HFT.out] at CF
  go_wp2_with fail
  refine CF.mono ?_
  rintro e w3 ⟨rfl, X3⟩
  replace HR := Lib.hid (HR.out.ext X3)
  clear X3 CF HFF
  have c3 : w3.cell? ⟨fb, o + 3, none⟩ = some (fmc32 (F1 t) 3) := by rw [HO.out]; exact (HR.out.F.at_ HHT.out 3 (by decide)).1
  have z3 : w3.frozen? ⟨fb, o + 3, none⟩ = false := by rw [HO.out]; exact (HR.out.F.at_ HHT.out 3 (by decide)).2
  have HS3 : Hid (∀ wz {f2 lv2 log2 N2 L2 vL2 EL2}, Run32 W0 w wz lv vL b g sb lb y f2 lv2 log2 ups su ev xs N2 L2 vL2 EL2 fb n F1 → Run32 W0 w (wz.setCell ⟨fb, o + 3, none⟩ (.int .i64 1)) lv vL b g sb lb y f2 lv2 log2 ups su ev xs N2 L2 vL2 EL2 fb n (updF F1 t { x with Fr := N, Pc := 1 })) := Lib.hid (fun wz {_ _ _ _ _ _ _} hr => by rw [HO.out]; exact hr.setF HHT.out (j := 3) (by decide) rfl (by rw [HFF1.out]; exact (fun i hi hne => by
    have h11 : i = 0 ∨ i = 1 ∨ i = 2 ∨ i = 4 ∨ i = 5 ∨ i = 6 ∨ i = 7 ∨ i = 8 ∨ i = 9 ∨ i = 10 := by omega
    rcases h11 with rfl | rfl | rfl | rfl | rfl | rfl | rfl | rfl | rfl | rfl <;> rfl)))
  replace HR := Lib.hid (HS3.out _ HR.out)
  clear HS3
  obtain ⟨FS, hFS⟩ : ∃ FS, FS = updF F1 t { x with Fr := N, Pc := 1 } := ⟨_, rfl⟩
  have HFFS : Hid (FS t = { x with Fr := N, Pc := 1 }) := Lib.hid (by rw [hFS, updF_at])
  have HBFS : Hid (FS = updF F t { x with Fr := N, Pc := 1 }) := Lib.hid (by rw [hFS, HBF1.out, updF_two])
  rw [← hFS] at HR
  clear hFS
  go_upto_region 7 with (fail)
  first | refine name_wp ?_ | refine name_list ?_
  intro w4 e4
  rw [e4] at HR
  clear e4 c3 z3
  go_step3
  have HFR : Hid (0 ≤ N ∧ N < 4294967296) := HNN
  go_upto_region 7 with (fail)
  refine settle_wp ?_
  intro wa Xa
  replace HR := Lib.hid (HR.out.ext Xa)
  clear Xa
  have s0 := HR.out.T.S.q0
  have s9 := HR.out.T.S.q9
  have k1 := fun w' (hx : Ext wa w') => hx.cell s0
  have k2 := fun w' (hx : Ext wa w') => hx.cell s9
  refine wp_region_D (fun i => decide (i ≤ 9)) (by kernel_rfl) ?_
  refine take_D (i := 0) (v := ?_) rfl rfl rfl (by kernel_rfl) (by kernel_rfl) (by kernel_rfl) (by kernel_rfl) (by kernel_rfl) (((Ext.refl wa).drew)) ?hyp ?_
  case hyp => intro wz hSw; (try dsimp only at hSw); go_simp <;> with_reducible rfl
  simp only [List.setIfInBounds_toArray, List.set_cons_zero, List.set_cons_succ]
  refine take_D (i := 1) (v := ?_) rfl rfl rfl (by kernel_rfl) (by kernel_rfl) (by kernel_rfl) (by kernel_rfl) (by kernel_rfl) (((Ext.refl wa).drew)) ?hyp ?_
  case hyp => intro wz hSw; (try dsimp only at hSw); go_simp <;> with_reducible rfl
  simp only [List.setIfInBounds_toArray, List.set_cons_zero, List.set_cons_succ]
  refine take_D (i := 2) (v := ?_) rfl rfl rfl (by kernel_rfl) (by kernel_rfl) (by kernel_rfl) (by kernel_rfl) (by kernel_rfl) (((Ext.refl wa).drew)) ?hyp ?_
  case hyp => intro wz hSw; (try dsimp only at hSw); go_simp <;> with_reducible rfl
  simp only [List.setIfInBounds_toArray, List.set_cons_zero, List.set_cons_succ]
  refine take_D (i := 3) (v := ?_) rfl rfl rfl (by kernel_rfl) (by kernel_rfl) (by kernel_rfl) (by kernel_rfl) (by kernel_rfl) (((Ext.refl wa).drew)) ?hyp ?_
  case hyp => intro wz hSw; (try dsimp only at hSw); go_simp <;> with_reducible rfl
  simp only [List.setIfInBounds_toArray, List.set_cons_zero, List.set_cons_succ]
  refine take_D (i := 4) (v := ?_) rfl rfl rfl (by kernel_rfl) (by kernel_rfl) (by kernel_rfl) (by kernel_rfl) (by kernel_rfl) (((Ext.refl wa).drew)) ?hyp ?_
  case hyp => intro wz hSw; (try dsimp only at hSw); go_simp <;> with_reducible rfl
  simp only [List.setIfInBounds_toArray, List.set_cons_zero, List.set_cons_succ]
  refine take_D (i := 5) (v := ?_) rfl rfl rfl (by kernel_rfl) (by kernel_rfl) (by kernel_rfl) (by kernel_rfl) (by kernel_rfl) (((Ext.refl wa).drew)) ?hyp ?_
  case hyp => intro wz hSw; (try dsimp only at hSw); go_simp <;> with_reducible rfl
  simp only [List.setIfInBounds_toArray, List.set_cons_zero, List.set_cons_succ]
  refine take_D (i := 6) (v := ?_) rfl rfl rfl (by kernel_rfl) (by kernel_rfl) (by kernel_rfl) (by kernel_rfl) (by kernel_rfl) (((Ext.refl wa).drew)) ?hyp ?_
  case hyp => intro wz hSw; (try dsimp only at hSw); go_simp <;> with_reducible rfl
  simp only [List.setIfInBounds_toArray, List.set_cons_zero, List.set_cons_succ]
  refine take_D (i := 7) (v := ?_) rfl rfl rfl (by kernel_rfl) (by kernel_rfl) (by kernel_rfl) (by kernel_rfl) (by kernel_rfl) (((Ext.refl wa).drew)) ?hyp ?_
  case hyp => intro wz hSw; (try dsimp only at hSw); go_simp <;> with_reducible rfl
  simp only [List.setIfInBounds_toArray, List.set_cons_zero, List.set_cons_succ]
  refine take_D (i := 8) (v := ?_) rfl rfl rfl (by kernel_rfl) (by kernel_rfl) (by kernel_rfl) (by kernel_rfl) (by kernel_rfl) (((Ext.refl wa).drew)) ?hyp ?_
  case hyp => intro wz hSw; (try dsimp only at hSw); go_simp <;> with_reducible rfl
  simp only [List.setIfInBounds_toArray, List.set_cons_zero, List.set_cons_succ]
  refine take_D (i := 9) (v := ?_) rfl rfl rfl (by kernel_rfl) (by kernel_rfl) (by kernel_rfl) (by kernel_rfl) (by kernel_rfl) (((Ext.refl wa).drew)) ?hyp ?_
  case hyp => intro wz hSw; (try dsimp only at hSw); go_simp <;> with_reducible rfl
  simp only [List.setIfInBounds_toArray, List.set_cons_zero, List.set_cons_succ]
  refine rest_D (n := 10) rfl rfl (fun j hj => by simp; omega) (by kernel_rfl) ?_
  clear k1 k2 s0 s9
  have XD := Lib.hid ((Ext.refl wa).drew)
  replace HR := Lib.hid (HR.out.ext XD.out)
  clear XD
  generalize wa.drew = wb at *
  have CS2 := CS.out _ HR.out (by rw [HFFS.out]; exact HIS.out)
  rw [← HO.out, HFFS.out] at CS2
  go_wp2_with fail
  refine CS2.mono ?_
  rintro e wc ⟨sd, I', M', log2, hsc, rfl, lvc, Rc⟩
  have HSC := Lib.hid hsc
  replace HR := Lib.hid Rc
  clear hsc Rc CS2
  obtain ⟨F2, hF2⟩ : ∃ F2, F2 = updF FS t { x with Fr := N, Pc := 1, I := I', Mn := M' } := ⟨_, rfl⟩
  have HFF2 : Hid (F2 t = { x with Fr := N, Pc := 1, I := I', Mn := M' }) := Lib.hid (by rw [hF2, updF_at])
  have HBF2 : Hid (F2 = updF FS t { x with Fr := N, Pc := 1, I := I', Mn := M' }) := Lib.hid hF2
  rw [← hF2] at HR
  clear hF2
  go_wp2
  refine off_normal ?_
  cases sd
  case false =>
    have HFIN2 : Hid (ClDoes32 W0 w lv vL b g sb lb y f log ups su ev xs N L EL fb n t F 0 (.returned (.bool false)) wc) := Lib.hid (by
      have hr := HR.out
      rw [HBF2.out, HBFS.out, updF_two] at hr
      unfold ClDoes32
      rw [HX0.out]
      exact ⟨false, _, _, _, _, _, .inr ⟨{ x with Fr := N, Pc := 1 }, false, I', M', HREL.out, HSC.out, .inl ⟨rfl, rfl, rfl, rfl, rfl, rfl⟩⟩, rfl, lvc, vL, hr⟩)
    go_wp2
    go_ret
    exact HFIN2.out
  case true =>
    go_upto_region 9 with (fail)
    have c7 : wc.cell? ⟨fb, o + 7, none⟩ = some (.int .u32 M') := by rw [HO.out]; have := (HR.out.F.at_ HHT.out 7 (by decide)).1; rw [HFF2.out] at this; exact this
    have s11 := HR.out.T.S.q11
    have z11 := HR.out.T.S.z11
    replace HR := Lib.hid (HR.out.setL M')
    go_upto_region 10 with (fail)
    first | refine name_wp ?_ | refine name_list ?_
    intro wd ed
    rw [ed] at HR
    clear ed c7 s11 z11
    have CF := soFits32 HR.out.T HR.out.F HHT.out
    rw [← HO.out, HFF2.out] at CF
    obtain ⟨fit, hfit⟩ : ∃ q, decide (D32 (((N + x.N) % 4294967296) - M') ≤ y.C) = q := ⟨_, rfl⟩
    have hfit2 := bool_of hfit
    have HFT2 := Lib.hid hfit2
    rw [show decide (D32 (((({ x with Fr := N, Pc := 1, I := I', Mn := M' } : Fm).Fr + ({ x with Fr := N, Pc := 1, I := I', Mn := M' } : Fm).N) % 4294967296) - M') ≤ y.C) = fit from hfit] at CF
    clear hfit hfit2
    go_wp2_with fail
    refine CF.mono ?_
    rintro e we ⟨rfl, Xe⟩
    replace HR := Lib.hid (HR.out.ext Xe)
    clear Xe CF
    cases fit
    case false =>
      have HFIN2 : Hid (ClDoes32 W0 w lv vL b g sb lb y f log ups su ev xs N L EL fb n t F 0 (.returned (.bool false)) we) := Lib.hid (by
        have hr := HR.out
        rw [HBF2.out, HBFS.out, updF_two] at hr
        unfold ClDoes32
        rw [HX0.out]
        exact ⟨false, _, _, _, _, _, .inr ⟨{ x with Fr := N, Pc := 1 }, true, I', M', HREL.out, HSC.out, .inr (.inl ⟨rfl, by have h := HFT2.out.2 rfl; show ¬ D32 (((N + x.N) % 4294967296) - M') ≤ y.C; omega, rfl, rfl, rfl, rfl, rfl⟩)⟩, rfl, lvc, vL, hr⟩)
      go_wp2
      go_ret
      exact HFIN2.out
    case true =>
      have HFIN : Hid (∀ w' lv' vL', Run32 W0 w w' lv vL b g sb lb y f lv' log2 ups su ev xs (((N + x.N) % 4294967296)) M' vL' (EL ++ [evT 0 x.N N] ++ [evG 0]) fb n (updF F2 t { x with Fr := N, Pc := 0, I := I', Mn := M' }) → ClDoes32 W0 w lv vL b g sb lb y f log ups su ev xs N L EL fb n t F 0 (.returned (.bool true)) w') := Lib.hid (fun w' lv' vL' hr => by
        rw [HBF2.out, HBFS.out, updF_two, updF_two] at hr
        unfold ClDoes32
        rw [HX0.out]
        exact ⟨true, _, _, _, _, _, .inr ⟨{ x with Fr := N, Pc := 1 }, true, I', M', HREL.out, HSC.out, .inr (.inr ⟨rfl, HFT2.out.1 rfl, rfl, rfl, rfl, rfl, rfl⟩)⟩, rfl, lv', vL', hr⟩)
      go_wp2_with fail
      go_step3
      have HS3 : Hid (∀ wz {f2 lv2 log2 N2 L2 vL2 EL2}, Run32 W0 w wz lv vL b g sb lb y f2 lv2 log2 ups su ev xs N2 L2 vL2 EL2 fb n F2 → Run32 W0 w (wz.setCell ⟨fb, o + 3, none⟩ (.int .i64 0)) lv vL b g sb lb y f2 lv2 log2 ups su ev xs N2 L2 vL2 EL2 fb n (updF F2 t { x with Fr := N, Pc := 0, I := I', Mn := M' })) := Lib.hid (fun wz {_ _ _ _ _ _ _} hr => by rw [HO.out]; exact hr.setF HHT.out (j := 3) (by decide) rfl (by rw [HFF2.out]; exact (fun i hi hne => by
        have h11 : i = 0 ∨ i = 1 ∨ i = 2 ∨ i = 4 ∨ i = 5 ∨ i = 6 ∨ i = 7 ∨ i = 8 ∨ i = 9 ∨ i = 10 := by omega
        rcases h11 with rfl | rfl | rfl | rfl | rfl | rfl | rfl | rfl | rfl | rfl <;> rfl)))
      go_upto_region 12 with (fail)
      refine settle_wp ?_
      intro wg Xg
      replace HR := Lib.hid (HR.out.ext Xg)
      clear Xg
      have c1 : wg.cell? ⟨fb, o + 1, none⟩ = some (.int .i64 x.N) := by rw [HO.out]; have := (HR.out.F.at_ HHT.out 1 (by decide)).1; rw [HFF2.out] at this; exact this
      have s10 := HR.out.T.S.q10
      have k1 := fun w' (hx : Ext wg w') => hx.cell c1
      have k2 := fun w' (hx : Ext wg w') => hx.cell s10
      refine wp_region_D (fun i => decide (1 ≤ i) && decide (i ≤ 8)) (by kernel_rfl) ?_
      refine pure_D (i := 0) (v := ?_) rfl rfl rfl (by kernel_rfl) (by kernel_rfl) (by kernel_rfl) rfl ?hyp ?_
      case hyp => intro wz; go_simp <;> with_reducible rfl
      simp only [List.setIfInBounds_toArray, List.set_cons_zero, List.set_cons_succ]
      refine take_D (i := 1) (v := ?_) rfl rfl rfl (by kernel_rfl) (by kernel_rfl) (by kernel_rfl) (by kernel_rfl) (by kernel_rfl) (((Ext.refl wg).drew)) ?hyp ?_
      case hyp => intro wz hSw; (try dsimp only at hSw); go_simp <;> with_reducible rfl
      simp only [List.setIfInBounds_toArray, List.set_cons_zero, List.set_cons_succ]
      refine take_D (i := 2) (v := ?_) rfl rfl rfl (by kernel_rfl) (by kernel_rfl) (by kernel_rfl) (by kernel_rfl) (by kernel_rfl) (((Ext.refl wg).drew)) ?hyp ?_
      case hyp => intro wz hSw; (try dsimp only at hSw); go_simp <;> with_reducible rfl
      simp only [List.setIfInBounds_toArray, List.set_cons_zero, List.set_cons_succ]
      refine take_D (i := 3) (v := ?_) rfl rfl rfl (by kernel_rfl) (by kernel_rfl) (by kernel_rfl) (by kernel_rfl) (by kernel_rfl) (((Ext.refl wg).drew)) ?hyp ?_
      case hyp => intro wz hSw; (try dsimp only at hSw); go_simp <;> with_reducible rfl
      simp only [List.setIfInBounds_toArray, List.set_cons_zero, List.set_cons_succ]
      refine take_D (i := 4) (v := ?_) rfl rfl rfl (by kernel_rfl) (by kernel_rfl) (by kernel_rfl) (by kernel_rfl) (by kernel_rfl) (((Ext.refl wg).drew)) ?hyp ?_
      case hyp => intro wz hSw; (try dsimp only at hSw); go_simp <;> with_reducible rfl
      simp only [List.setIfInBounds_toArray, List.set_cons_zero, List.set_cons_succ]
      refine take_D (i := 5) (v := ?_) rfl rfl rfl (by kernel_rfl) (by kernel_rfl) (by kernel_rfl) (by kernel_rfl) (by kernel_rfl) (((Ext.refl wg).drew)) ?hyp ?_
      case hyp => intro wz hSw; (try dsimp only at hSw); go_simp <;> with_reducible rfl
      simp only [List.setIfInBounds_toArray, List.set_cons_zero, List.set_cons_succ]
      refine take_D (i := 6) (v := ?_) rfl rfl rfl (by kernel_rfl) (by kernel_rfl) (by kernel_rfl) (by kernel_rfl) (by kernel_rfl) (((Ext.refl wg).drew)) ?hyp ?_
      case hyp => intro wz hSw; (try dsimp only at hSw); go_simp <;> with_reducible rfl
      simp only [List.setIfInBounds_toArray, List.set_cons_zero, List.set_cons_succ]
      refine take_D (i := 7) (v := ?_) rfl rfl rfl (by kernel_rfl) (by kernel_rfl) (by kernel_rfl) (by kernel_rfl) (by kernel_rfl) (((Ext.refl wg).drew)) ?hyp ?_
      case hyp => intro wz hSw; (try dsimp only at hSw); go_simp <;> with_reducible rfl
      simp only [List.setIfInBounds_toArray, List.set_cons_zero, List.set_cons_succ]
      refine take_D (i := 8) (v := ?_) rfl rfl rfl (by kernel_rfl) (by kernel_rfl) (by kernel_rfl) (by kernel_rfl) (by kernel_rfl) (((Ext.refl wg).drew)) ?hyp ?_
      case hyp => intro wz hSw; (try dsimp only at hSw); go_simp <;> with_reducible rfl
      simp only [List.setIfInBounds_toArray, List.set_cons_zero, List.set_cons_succ]
      refine rest_D (n := 9) rfl rfl (fun j hj => by simp; omega) (by kernel_rfl) ?_
      clear k1 k2 c1 s10
      have XD := Lib.hid ((Ext.refl wg).drew)
      replace HR := Lib.hid (HR.out.ext XD.out)
      clear XD
      generalize wg.drew = wh at *
      have s10 := HR.out.T.S.q10
      have z10 := HR.out.T.S.z10
      go_wp2_with fail
      refine (addU32 N x.N wh).mono ?_
      rintro e w' ⟨rfl, rfl⟩
      replace HR := Lib.hid (HR.out.setN (((N + x.N) % 4294967296)))
      go_wp2
      refine off_normal ?_
      go_upto_region 13 with (fail)
      first | refine name_wp ?_ | refine name_list ?_
      intro wi ei
      rw [ei] at HR
      clear ei s10 z10
      have c3 : wi.cell? ⟨fb, o + 3, none⟩ = some (fmc32 (F2 t) 3) := by rw [HO.out]; exact (HR.out.F.at_ HHT.out 3 (by decide)).1
      have z3 : wi.frozen? ⟨fb, o + 3, none⟩ = false := by rw [HO.out]; exact (HR.out.F.at_ HHT.out 3 (by decide)).2
      replace HR := Lib.hid (HS3.out _ HR.out)
      go_upto_region 14 with (fail)
      first | refine name_wp ?_ | refine name_list ?_
      intro wj ej
      rw [ej] at HR
      clear ej c3 z3
      have CN2 := CN.out _ HR.out (by have := HHE.out; omega) (by rw [updF_at]; exact HFR.out)
      rw [← HO.out, updF_at] at CN2
      go_wp2_with fail
      refine CN2.mono ?_
      rintro e wk ⟨rfl, vLk, Rk⟩
      clear CN2
      replace HR := Lib.hid Rk
      clear Rk
      have s1 := HR.out.T.S.q1
      go_wp2_with fail
      refine (CE.out _ HR.out (by have := HHE.out; simp; omega)).mono ?_
      rintro e wl hnote
      obtain ⟨he2, vLl, hG2, hN2, hL2⟩ := hnote
      subst he2
      replace HR := Lib.hid (HR.out.note hG2 hN2 hL2)
      clear hG2 hN2 hL2 s1
      go_wp2
      go_ret
      exact HFIN.out _ _ _ HR.out
set_option maxRecDepth 100000 in
theorem soClaim64_first {W0 w : World} {b g sb lb : Nat} {y : LY} {f : Nat → Int} {lv : Value} {log : List Acc} {ups : List (List Int)} {su ev : Value} {xs : List Int} {N L : Int} {vL : Value} {EL : List Ev} {fb n t : Nat} {F : Nat → Fm} (K : BK y ups) (hV : y.V = 1) (E : Parts W0) (h : ST64 W0 w b g sb lb y f lv log ups su ev xs N L vL EL) (hF : FB64 W0 w b g sb lb lv vL fb n F) (ht : t * 11 + 11 ≤ n) (hx : Gts y.n xs) (hI : ScAt xs (F t).I) (hf : Rgs64 f) (hl : log.length ≤ 1000) (he : EL.length ≤ 800000) (h1 : 1 ≤ (F t).N) (h2 : (F t).N ≤ y.C) (hN : 0 ≤ N ∧ N < 18446744073709551616) (hP : ¬ (F t).Pc = 1) (hfit : ¬ D64 ((U64 (N + (F t).N)) - L) ≤ y.C) :
    Calls Tryz.prog 44 #[.pointer (some ⟨sb, 0, none⟩), .int .i64 0, .pointer (some ⟨fb, t * 11, none⟩)] w (ClDoes64 W0 w lv vL b g sb lb y f log ups su ev xs N L EL fb n t F 0) := by
  have CM := soMay64 K hV h hF ht 0
  rw [show (decide ((0 : Int) = 0) && decide (1 ≤ (F t).N) && decide ((F t).N ≤ y.C)) = true by simp [h1, h2]] at CM
  have HCM := Lib.hid CM
  have HR := Lib.hid (Run64.start h hF)
  have CS := Lib.hid (fun w1 {F1 : Nat → Fm} (h1 : Run64 W0 w w1 lv vL b g sb lb y f lv log ups su ev xs N L vL EL fb n F1) (hI1 : ScAt xs (F1 t).I) => sScan64 K h1 ht E hx hI1 hf hl 0)
  have CN := Lib.hid (fun w1 {f2 lv2 log2 N2 L2 vL2 EL2} {F1 : Nat → Fm} (h1 : Run64 W0 w w1 lv vL b g sb lb y f2 lv2 log2 ups su ev xs N2 L2 vL2 EL2 fb n F1) hl2 h0 => soNote64 h1 ht 3 0 hl2 h0)
  have CE := Lib.hid (fun w1 {f2 lv2 log2 N2 L2 vL2 EL2} {F1 : Nat → Fm} (h1 : Run64 W0 w w1 lv vL b g sb lb y f2 lv2 log2 ups su ev xs N2 L2 vL2 EL2 fb n F1) (hl2 : EL2.length ≤ 900000) => eNoteB (B := 0) W0 w1 lb vL2 EL2 (evG 0) (.slice none 0 0) h1.T.G h1.T.X (dat_none _ _) hl2 (by simp [evG]))
  unfold evA evG at CE
  have HIS := Lib.hid hI
  have HHE := Lib.hid he
  have HNN := Lib.hid hN
  have HHT := Lib.hid ht
  obtain ⟨x, hx0⟩ : ∃ x, x = F t := ⟨_, rfl⟩
  have HX0 : Hid (F t = x) := Lib.hid hx0.symm
  rw [← hx0] at hP hfit h1 h2 hI
  clear hx0
  have HREL : Hid (ClFst64 y.C N L x { x with Fr := N, Pc := 1 }) := Lib.hid (.inr ⟨hP, hfit, rfl⟩)
  replace HIS := Lib.hid hI
  have HFT := Lib.hid (decide_eq_false hfit)
  have d3 : (x.Pc == 1) = false := by simpa using hP
  clear hP hfit
  clear CM h hF E K hx hf hl he h1 h2 hN hI ht
  obtain ⟨o, ho⟩ : ∃ o, o = t * 11 := ⟨_, rfl⟩
  have HO := Lib.hid ho
  rw [← ho] at HCM ⊢
  clear ho
  go_enter Tryz.func44, Tryz.ntmps44
  go_wp2_with fail
  refine wp_scope_fwd ?_
  go_wp2_with fail
  refine HCM.out.mono ?_
  rintro e w1 ⟨rfl, X1⟩
  replace HR := Lib.hid (HR.out.ext X1)
  clear X1 HCM
  have c3 : w1.cell? ⟨fb, o + 3, none⟩ = some (.int .i64 x.Pc) := by rw [HO.out, ← HX0.out]; exact (HR.out.F.at_ HHT.out 3 (by decide)).1
  go_upto_region 4 with (fail)
  have s10 := HR.out.T.S.q10
  have c6 : w1.cell? ⟨fb, o + 6, none⟩ = some (.int .u64 (F t).Fr) := by rw [HO.out]; exact (HR.out.F.at_ HHT.out 6 (by decide)).1
  have z6 : w1.frozen? ⟨fb, o + 6, none⟩ = false := by rw [HO.out]; exact (HR.out.F.at_ HHT.out 6 (by decide)).2
  have HFF : Hid (F t = x) := HX0
  have HS6 : Hid (∀ wz {f2 lv2 log2 N2 L2 vL2 EL2}, Run64 W0 w wz lv vL b g sb lb y f2 lv2 log2 ups su ev xs N2 L2 vL2 EL2 fb n F → Run64 W0 w (wz.setCell ⟨fb, o + 6, none⟩ (.int .u64 N)) lv vL b g sb lb y f2 lv2 log2 ups su ev xs N2 L2 vL2 EL2 fb n (updF F t { x with Fr := N })) := Lib.hid (fun wz {_ _ _ _ _ _ _} hr => by rw [HO.out]; exact hr.setF HHT.out (j := 6) (by decide) rfl (by rw [HFF.out]; exact (fun i hi hne => by
    have h11 : i = 0 ∨ i = 1 ∨ i = 2 ∨ i = 3 ∨ i = 4 ∨ i = 5 ∨ i = 7 ∨ i = 8 ∨ i = 9 ∨ i = 10 := by omega
    rcases h11 with rfl | rfl | rfl | rfl | rfl | rfl | rfl | rfl | rfl | rfl <;> rfl)))
  replace HR := Lib.hid (HS6.out _ HR.out)
  clear HS6
  obtain ⟨F1, hF1⟩ : ∃ F1, F1 = updF F t { x with Fr := N } := ⟨_, rfl⟩
  have HFF1 : Hid (F1 t = { x with Fr := N }) := Lib.hid (by rw [hF1, updF_at])
  have HBF1 : Hid (F1 = updF F t { x with Fr := N }) := Lib.hid hF1
  rw [← hF1] at HR
  clear hF1
  go_upto_region 5 with (fail)
  first | refine name_wp ?_ | refine name_list ?_
  intro w2 e2
  rw [e2] at HR
  clear e2 c3 c6 z6 s10 d3
  have CF := soFits64 HR.out.T HR.out.F HHT.out
  rw [← HO.out, HFF1.out] at CF
  rw [show decide (D64 ((U64 (({ x with Fr := N } : Fm).Fr + ({ x with Fr := N } : Fm).N)) - L) ≤ y.C) = false from HFT.out] at CF
  go_wp2_with fail
  refine CF.mono ?_
  rintro e w3 ⟨rfl, X3⟩
  replace HR := Lib.hid (HR.out.ext X3)
  clear X3 CF HFF
  have c3 : w3.cell? ⟨fb, o + 3, none⟩ = some (fmc64 (F1 t) 3) := by rw [HO.out]; exact (HR.out.F.at_ HHT.out 3 (by decide)).1
  have z3 : w3.frozen? ⟨fb, o + 3, none⟩ = false := by rw [HO.out]; exact (HR.out.F.at_ HHT.out 3 (by decide)).2
  have HS3 : Hid (∀ wz {f2 lv2 log2 N2 L2 vL2 EL2}, Run64 W0 w wz lv vL b g sb lb y f2 lv2 log2 ups su ev xs N2 L2 vL2 EL2 fb n F1 → Run64 W0 w (wz.setCell ⟨fb, o + 3, none⟩ (.int .i64 1)) lv vL b g sb lb y f2 lv2 log2 ups su ev xs N2 L2 vL2 EL2 fb n (updF F1 t { x with Fr := N, Pc := 1 })) := Lib.hid (fun wz {_ _ _ _ _ _ _} hr => by rw [HO.out]; exact hr.setF HHT.out (j := 3) (by decide) rfl (by rw [HFF1.out]; exact (fun i hi hne => by
    have h11 : i = 0 ∨ i = 1 ∨ i = 2 ∨ i = 4 ∨ i = 5 ∨ i = 6 ∨ i = 7 ∨ i = 8 ∨ i = 9 ∨ i = 10 := by omega
    rcases h11 with rfl | rfl | rfl | rfl | rfl | rfl | rfl | rfl | rfl | rfl <;> rfl)))
  replace HR := Lib.hid (HS3.out _ HR.out)
  clear HS3
  obtain ⟨FS, hFS⟩ : ∃ FS, FS = updF F1 t { x with Fr := N, Pc := 1 } := ⟨_, rfl⟩
  have HFFS : Hid (FS t = { x with Fr := N, Pc := 1 }) := Lib.hid (by rw [hFS, updF_at])
  have HBFS : Hid (FS = updF F t { x with Fr := N, Pc := 1 }) := Lib.hid (by rw [hFS, HBF1.out, updF_two])
  rw [← hFS] at HR
  clear hFS
  go_upto_region 7 with (fail)
  first | refine name_wp ?_ | refine name_list ?_
  intro w4 e4
  rw [e4] at HR
  clear e4 c3 z3
  go_step3
  have HFR : Hid (0 ≤ N ∧ N < 18446744073709551616) := HNN
  go_upto_region 7 with (fail)
  refine settle_wp ?_
  intro wa Xa
  replace HR := Lib.hid (HR.out.ext Xa)
  clear Xa
  have s0 := HR.out.T.S.q0
  have s9 := HR.out.T.S.q9
  have k1 := fun w' (hx : Ext wa w') => hx.cell s0
  have k2 := fun w' (hx : Ext wa w') => hx.cell s9
  refine wp_region_D (fun i => decide (i ≤ 9)) (by kernel_rfl) ?_
  refine take_D (i := 0) (v := ?_) rfl rfl rfl (by kernel_rfl) (by kernel_rfl) (by kernel_rfl) (by kernel_rfl) (by kernel_rfl) (((Ext.refl wa).drew)) ?hyp ?_
  case hyp => intro wz hSw; (try dsimp only at hSw); go_simp <;> with_reducible rfl
  simp only [List.setIfInBounds_toArray, List.set_cons_zero, List.set_cons_succ]
  refine take_D (i := 1) (v := ?_) rfl rfl rfl (by kernel_rfl) (by kernel_rfl) (by kernel_rfl) (by kernel_rfl) (by kernel_rfl) (((Ext.refl wa).drew)) ?hyp ?_
  case hyp => intro wz hSw; (try dsimp only at hSw); go_simp <;> with_reducible rfl
  simp only [List.setIfInBounds_toArray, List.set_cons_zero, List.set_cons_succ]
  refine take_D (i := 2) (v := ?_) rfl rfl rfl (by kernel_rfl) (by kernel_rfl) (by kernel_rfl) (by kernel_rfl) (by kernel_rfl) (((Ext.refl wa).drew)) ?hyp ?_
  case hyp => intro wz hSw; (try dsimp only at hSw); go_simp <;> with_reducible rfl
  simp only [List.setIfInBounds_toArray, List.set_cons_zero, List.set_cons_succ]
  refine take_D (i := 3) (v := ?_) rfl rfl rfl (by kernel_rfl) (by kernel_rfl) (by kernel_rfl) (by kernel_rfl) (by kernel_rfl) (((Ext.refl wa).drew)) ?hyp ?_
  case hyp => intro wz hSw; (try dsimp only at hSw); go_simp <;> with_reducible rfl
  simp only [List.setIfInBounds_toArray, List.set_cons_zero, List.set_cons_succ]
  refine take_D (i := 4) (v := ?_) rfl rfl rfl (by kernel_rfl) (by kernel_rfl) (by kernel_rfl) (by kernel_rfl) (by kernel_rfl) (((Ext.refl wa).drew)) ?hyp ?_
  case hyp => intro wz hSw; (try dsimp only at hSw); go_simp <;> with_reducible rfl
  simp only [List.setIfInBounds_toArray, List.set_cons_zero, List.set_cons_succ]
  refine take_D (i := 5) (v := ?_) rfl rfl rfl (by kernel_rfl) (by kernel_rfl) (by kernel_rfl) (by kernel_rfl) (by kernel_rfl) (((Ext.refl wa).drew)) ?hyp ?_
  case hyp => intro wz hSw; (try dsimp only at hSw); go_simp <;> with_reducible rfl
  simp only [List.setIfInBounds_toArray, List.set_cons_zero, List.set_cons_succ]
  refine take_D (i := 6) (v := ?_) rfl rfl rfl (by kernel_rfl) (by kernel_rfl) (by kernel_rfl) (by kernel_rfl) (by kernel_rfl) (((Ext.refl wa).drew)) ?hyp ?_
  case hyp => intro wz hSw; (try dsimp only at hSw); go_simp <;> with_reducible rfl
  simp only [List.setIfInBounds_toArray, List.set_cons_zero, List.set_cons_succ]
  refine take_D (i := 7) (v := ?_) rfl rfl rfl (by kernel_rfl) (by kernel_rfl) (by kernel_rfl) (by kernel_rfl) (by kernel_rfl) (((Ext.refl wa).drew)) ?hyp ?_
  case hyp => intro wz hSw; (try dsimp only at hSw); go_simp <;> with_reducible rfl
  simp only [List.setIfInBounds_toArray, List.set_cons_zero, List.set_cons_succ]
  refine take_D (i := 8) (v := ?_) rfl rfl rfl (by kernel_rfl) (by kernel_rfl) (by kernel_rfl) (by kernel_rfl) (by kernel_rfl) (((Ext.refl wa).drew)) ?hyp ?_
  case hyp => intro wz hSw; (try dsimp only at hSw); go_simp <;> with_reducible rfl
  simp only [List.setIfInBounds_toArray, List.set_cons_zero, List.set_cons_succ]
  refine take_D (i := 9) (v := ?_) rfl rfl rfl (by kernel_rfl) (by kernel_rfl) (by kernel_rfl) (by kernel_rfl) (by kernel_rfl) (((Ext.refl wa).drew)) ?hyp ?_
  case hyp => intro wz hSw; (try dsimp only at hSw); go_simp <;> with_reducible rfl
  simp only [List.setIfInBounds_toArray, List.set_cons_zero, List.set_cons_succ]
  refine rest_D (n := 10) rfl rfl (fun j hj => by simp; omega) (by kernel_rfl) ?_
  clear k1 k2 s0 s9
  have XD := Lib.hid ((Ext.refl wa).drew)
  replace HR := Lib.hid (HR.out.ext XD.out)
  clear XD
  generalize wa.drew = wb at *
  have CS2 := CS.out _ HR.out (by rw [HFFS.out]; exact HIS.out)
  rw [← HO.out, HFFS.out] at CS2
  go_wp2_with fail
  refine CS2.mono ?_
  rintro e wc ⟨sd, I', M', log2, hsc, rfl, lvc, Rc⟩
  have HSC := Lib.hid hsc
  replace HR := Lib.hid Rc
  clear hsc Rc CS2
  obtain ⟨F2, hF2⟩ : ∃ F2, F2 = updF FS t { x with Fr := N, Pc := 1, I := I', Mn := M' } := ⟨_, rfl⟩
  have HFF2 : Hid (F2 t = { x with Fr := N, Pc := 1, I := I', Mn := M' }) := Lib.hid (by rw [hF2, updF_at])
  have HBF2 : Hid (F2 = updF FS t { x with Fr := N, Pc := 1, I := I', Mn := M' }) := Lib.hid hF2
  rw [← hF2] at HR
  clear hF2
  go_wp2
  refine off_normal ?_
  cases sd
  case false =>
    have HFIN2 : Hid (ClDoes64 W0 w lv vL b g sb lb y f log ups su ev xs N L EL fb n t F 0 (.returned (.bool false)) wc) := Lib.hid (by
      have hr := HR.out
      rw [HBF2.out, HBFS.out, updF_two] at hr
      unfold ClDoes64
      rw [HX0.out]
      exact ⟨false, _, _, _, _, _, .inr ⟨{ x with Fr := N, Pc := 1 }, false, I', M', HREL.out, HSC.out, .inl ⟨rfl, rfl, rfl, rfl, rfl, rfl⟩⟩, rfl, lvc, vL, hr⟩)
    go_wp2
    go_ret
    exact HFIN2.out
  case true =>
    go_upto_region 9 with (fail)
    have c7 : wc.cell? ⟨fb, o + 7, none⟩ = some (.int .u64 M') := by rw [HO.out]; have := (HR.out.F.at_ HHT.out 7 (by decide)).1; rw [HFF2.out] at this; exact this
    have s11 := HR.out.T.S.q11
    have z11 := HR.out.T.S.z11
    replace HR := Lib.hid (HR.out.setL M')
    go_upto_region 10 with (fail)
    first | refine name_wp ?_ | refine name_list ?_
    intro wd ed
    rw [ed] at HR
    clear ed c7 s11 z11
    have CF := soFits64 HR.out.T HR.out.F HHT.out
    rw [← HO.out, HFF2.out] at CF
    obtain ⟨fit, hfit⟩ : ∃ q, decide (D64 ((U64 (N + x.N)) - M') ≤ y.C) = q := ⟨_, rfl⟩
    have hfit2 := bool_of hfit
    have HFT2 := Lib.hid hfit2
    rw [show decide (D64 ((U64 (({ x with Fr := N, Pc := 1, I := I', Mn := M' } : Fm).Fr + ({ x with Fr := N, Pc := 1, I := I', Mn := M' } : Fm).N)) - M') ≤ y.C) = fit from hfit] at CF
    clear hfit hfit2
    go_wp2_with fail
    refine CF.mono ?_
    rintro e we ⟨rfl, Xe⟩
    replace HR := Lib.hid (HR.out.ext Xe)
    clear Xe CF
    cases fit
    case false =>
      have HFIN2 : Hid (ClDoes64 W0 w lv vL b g sb lb y f log ups su ev xs N L EL fb n t F 0 (.returned (.bool false)) we) := Lib.hid (by
        have hr := HR.out
        rw [HBF2.out, HBFS.out, updF_two] at hr
        unfold ClDoes64
        rw [HX0.out]
        exact ⟨false, _, _, _, _, _, .inr ⟨{ x with Fr := N, Pc := 1 }, true, I', M', HREL.out, HSC.out, .inr (.inl ⟨rfl, by have h := HFT2.out.2 rfl; show ¬ D64 ((U64 (N + x.N)) - M') ≤ y.C; omega, rfl, rfl, rfl, rfl, rfl⟩)⟩, rfl, lvc, vL, hr⟩)
      go_wp2
      go_ret
      exact HFIN2.out
    case true =>
      have HFIN : Hid (∀ w' lv' vL', Run64 W0 w w' lv vL b g sb lb y f lv' log2 ups su ev xs ((U64 (N + x.N))) M' vL' (EL ++ [evT 0 x.N N] ++ [evG 0]) fb n (updF F2 t { x with Fr := N, Pc := 0, I := I', Mn := M' }) → ClDoes64 W0 w lv vL b g sb lb y f log ups su ev xs N L EL fb n t F 0 (.returned (.bool true)) w') := Lib.hid (fun w' lv' vL' hr => by
        rw [HBF2.out, HBFS.out, updF_two, updF_two] at hr
        unfold ClDoes64
        rw [HX0.out]
        exact ⟨true, _, _, _, _, _, .inr ⟨{ x with Fr := N, Pc := 1 }, true, I', M', HREL.out, HSC.out, .inr (.inr ⟨rfl, HFT2.out.1 rfl, rfl, rfl, rfl, rfl, rfl⟩)⟩, rfl, lv', vL', hr⟩)
      go_wp2_with fail
      go_step3
      have HS3 : Hid (∀ wz {f2 lv2 log2 N2 L2 vL2 EL2}, Run64 W0 w wz lv vL b g sb lb y f2 lv2 log2 ups su ev xs N2 L2 vL2 EL2 fb n F2 → Run64 W0 w (wz.setCell ⟨fb, o + 3, none⟩ (.int .i64 0)) lv vL b g sb lb y f2 lv2 log2 ups su ev xs N2 L2 vL2 EL2 fb n (updF F2 t { x with Fr := N, Pc := 0, I := I', Mn := M' })) := Lib.hid (fun wz {_ _ _ _ _ _ _} hr => by rw [HO.out]; exact hr.setF HHT.out (j := 3) (by decide) rfl (by rw [HFF2.out]; exact (fun i hi hne => by
        have h11 : i = 0 ∨ i = 1 ∨ i = 2 ∨ i = 4 ∨ i = 5 ∨ i = 6 ∨ i = 7 ∨ i = 8 ∨ i = 9 ∨ i = 10 := by omega
        rcases h11 with rfl | rfl | rfl | rfl | rfl | rfl | rfl | rfl | rfl | rfl <;> rfl)))
      go_upto_region 12 with (fail)
      refine settle_wp ?_
      intro wg Xg
      replace HR := Lib.hid (HR.out.ext Xg)
      clear Xg
      have c1 : wg.cell? ⟨fb, o + 1, none⟩ = some (.int .i64 x.N) := by rw [HO.out]; have := (HR.out.F.at_ HHT.out 1 (by decide)).1; rw [HFF2.out] at this; exact this
      have s10 := HR.out.T.S.q10
      have k1 := fun w' (hx : Ext wg w') => hx.cell c1
      have k2 := fun w' (hx : Ext wg w') => hx.cell s10
      refine wp_region_D (fun i => decide (1 ≤ i) && decide (i ≤ 8)) (by kernel_rfl) ?_
      refine pure_D (i := 0) (v := ?_) rfl rfl rfl (by kernel_rfl) (by kernel_rfl) (by kernel_rfl) rfl ?hyp ?_
      case hyp => intro wz; go_simp <;> with_reducible rfl
      simp only [List.setIfInBounds_toArray, List.set_cons_zero, List.set_cons_succ]
      refine take_D (i := 1) (v := ?_) rfl rfl rfl (by kernel_rfl) (by kernel_rfl) (by kernel_rfl) (by kernel_rfl) (by kernel_rfl) (((Ext.refl wg).drew)) ?hyp ?_
      case hyp => intro wz hSw; (try dsimp only at hSw); go_simp <;> with_reducible rfl
      simp only [List.setIfInBounds_toArray, List.set_cons_zero, List.set_cons_succ]
      refine take_D (i := 2) (v := ?_) rfl rfl rfl (by kernel_rfl) (by kernel_rfl) (by kernel_rfl) (by kernel_rfl) (by kernel_rfl) (((Ext.refl wg).drew)) ?hyp ?_
      case hyp => intro wz hSw; (try dsimp only at hSw); go_simp <;> with_reducible rfl
      simp only [List.setIfInBounds_toArray, List.set_cons_zero, List.set_cons_succ]
      refine take_D (i := 3) (v := ?_) rfl rfl rfl (by kernel_rfl) (by kernel_rfl) (by kernel_rfl) (by kernel_rfl) (by kernel_rfl) (((Ext.refl wg).drew)) ?hyp ?_
      case hyp => intro wz hSw; (try dsimp only at hSw); go_simp <;> with_reducible rfl
      simp only [List.setIfInBounds_toArray, List.set_cons_zero, List.set_cons_succ]
      refine take_D (i := 4) (v := ?_) rfl rfl rfl (by kernel_rfl) (by kernel_rfl) (by kernel_rfl) (by kernel_rfl) (by kernel_rfl) (((Ext.refl wg).drew)) ?hyp ?_
      case hyp => intro wz hSw; (try dsimp only at hSw); go_simp <;> with_reducible rfl
      simp only [List.setIfInBounds_toArray, List.set_cons_zero, List.set_cons_succ]
      refine take_D (i := 5) (v := ?_) rfl rfl rfl (by kernel_rfl) (by kernel_rfl) (by kernel_rfl) (by kernel_rfl) (by kernel_rfl) (((Ext.refl wg).drew)) ?hyp ?_
      case hyp => intro wz hSw; (try dsimp only at hSw); go_simp <;> with_reducible rfl
      simp only [List.setIfInBounds_toArray, List.set_cons_zero, List.set_cons_succ]
      refine take_D (i := 6) (v := ?_) rfl rfl rfl (by kernel_rfl) (by kernel_rfl) (by kernel_rfl) (by kernel_rfl) (by kernel_rfl) (((Ext.refl wg).drew)) ?hyp ?_
      case hyp => intro wz hSw; (try dsimp only at hSw); go_simp <;> with_reducible rfl
      simp only [List.setIfInBounds_toArray, List.set_cons_zero, List.set_cons_succ]
      refine take_D (i := 7) (v := ?_) rfl rfl rfl (by kernel_rfl) (by kernel_rfl) (by kernel_rfl) (by kernel_rfl) (by kernel_rfl) (((Ext.refl wg).drew)) ?hyp ?_
      case hyp => intro wz hSw; (try dsimp only at hSw); go_simp <;> with_reducible rfl
      simp only [List.setIfInBounds_toArray, List.set_cons_zero, List.set_cons_succ]
      refine take_D (i := 8) (v := ?_) rfl rfl rfl (by kernel_rfl) (by kernel_rfl) (by kernel_rfl) (by kernel_rfl) (by kernel_rfl) (((Ext.refl wg).drew)) ?hyp ?_
      case hyp => intro wz hSw; (try dsimp only at hSw); go_simp <;> with_reducible rfl
      simp only [List.setIfInBounds_toArray, List.set_cons_zero, List.set_cons_succ]
      refine rest_D (n := 9) rfl rfl (fun j hj => by simp; omega) (by kernel_rfl) ?_
      clear k1 k2 c1 s10
      have XD := Lib.hid ((Ext.refl wg).drew)
      replace HR := Lib.hid (HR.out.ext XD.out)
      clear XD
      generalize wg.drew = wh at *
      have s10 := HR.out.T.S.q10
      have z10 := HR.out.T.S.z10
      go_wp2_with fail
      refine (addU64 N x.N wh).mono ?_
      rintro e w' ⟨rfl, rfl⟩
      replace HR := Lib.hid (HR.out.setN ((U64 (N + x.N))))
      go_wp2
      refine off_normal ?_
      go_upto_region 13 with (fail)
      first | refine name_wp ?_ | refine name_list ?_
      intro wi ei
      rw [ei] at HR
      clear ei s10 z10
      have c3 : wi.cell? ⟨fb, o + 3, none⟩ = some (fmc64 (F2 t) 3) := by rw [HO.out]; exact (HR.out.F.at_ HHT.out 3 (by decide)).1
      have z3 : wi.frozen? ⟨fb, o + 3, none⟩ = false := by rw [HO.out]; exact (HR.out.F.at_ HHT.out 3 (by decide)).2
      replace HR := Lib.hid (HS3.out _ HR.out)
      go_upto_region 14 with (fail)
      first | refine name_wp ?_ | refine name_list ?_
      intro wj ej
      rw [ej] at HR
      clear ej c3 z3
      have CN2 := CN.out _ HR.out (by have := HHE.out; omega) (by rw [updF_at]; exact HFR.out)
      rw [← HO.out, updF_at] at CN2
      go_wp2_with fail
      refine CN2.mono ?_
      rintro e wk ⟨rfl, vLk, Rk⟩
      clear CN2
      replace HR := Lib.hid Rk
      clear Rk
      have s1 := HR.out.T.S.q1
      go_wp2_with fail
      refine (CE.out _ HR.out (by have := HHE.out; simp; omega)).mono ?_
      rintro e wl hnote
      obtain ⟨he2, vLl, hG2, hN2, hL2⟩ := hnote
      subst he2
      replace HR := Lib.hid (HR.out.note hG2 hN2 hL2)
      clear hG2 hN2 hL2 s1
      go_wp2
      go_ret
      exact HFIN.out _ _ _ HR.out
end Go.Proofs.YtkmfamidahlgiaaGreatDoor
/- A later step of a scan. -/
namespace Go.Proofs.YtkmfamidahlgiaaGreatDoor
open Go.RowKit
set_option linter.unusedVariables false
set_option linter.unusedSimpArgs false
set_option maxHeartbeats 4000000
attribute [local go_sem] later_cell later_frozen later_const fwd_normal fwd_exit fwd_ret
set_option maxRecDepth 100000 in
theorem soClaim32_later {W0 w : World} {b g sb lb : Nat} {y : LY} {f : Nat → Int} {lv : Value} {log : List Acc} {ups : List (List Int)} {su ev : Value} {xs : List Int} {N L : Int} {vL : Value} {EL : List Ev} {fb n t : Nat} {F : Nat → Fm} (K : BK y ups) (hV : y.V = 1) (E : Parts W0) (h : ST32 W0 w b g sb lb y f lv log ups su ev xs N L vL EL) (hF : FB32 W0 w b g sb lb lv vL fb n F) (ht : t * 11 + 11 ≤ n) (hx : Gts y.n xs) (hI : ScAt xs (F t).I) (hf : Rgs32 f) (hl : log.length ≤ 1000) (he : EL.length ≤ 800000) (h1 : 1 ≤ (F t).N) (h2 : (F t).N ≤ y.C) (hN : 0 ≤ N ∧ N < 4294967296) (hP : (F t).Pc = 1) (hFr : 0 ≤ (F t).Fr ∧ (F t).Fr < 4294967296) :
    Calls Tryz.prog 36 #[.pointer (some ⟨sb, 0, none⟩), .int .i64 0, .pointer (some ⟨fb, t * 11, none⟩)] w (ClDoes32 W0 w lv vL b g sb lb y f log ups su ev xs N L EL fb n t F 0) := by
  have CM := soMay32 K hV h hF ht 0
  rw [show (decide ((0 : Int) = 0) && decide (1 ≤ (F t).N) && decide ((F t).N ≤ y.C)) = true by simp [h1, h2]] at CM
  have HCM := Lib.hid CM
  have HR := Lib.hid (Run32.start h hF)
  have CS := Lib.hid (fun w1 {F1 : Nat → Fm} (h1 : Run32 W0 w w1 lv vL b g sb lb y f lv log ups su ev xs N L vL EL fb n F1) (hI1 : ScAt xs (F1 t).I) => sScan32 K h1 ht E hx hI1 hf hl 0)
  have CN := Lib.hid (fun w1 {f2 lv2 log2 N2 L2 vL2 EL2} {F1 : Nat → Fm} (h1 : Run32 W0 w w1 lv vL b g sb lb y f2 lv2 log2 ups su ev xs N2 L2 vL2 EL2 fb n F1) hl2 h0 => soNote32 h1 ht 3 0 hl2 h0)
  have CE := Lib.hid (fun w1 {f2 lv2 log2 N2 L2 vL2 EL2} {F1 : Nat → Fm} (h1 : Run32 W0 w w1 lv vL b g sb lb y f2 lv2 log2 ups su ev xs N2 L2 vL2 EL2 fb n F1) (hl2 : EL2.length ≤ 900000) => eNoteB (B := 0) W0 w1 lb vL2 EL2 (evG 0) (.slice none 0 0) h1.T.G h1.T.X (dat_none _ _) hl2 (by simp [evG]))
  unfold evA evG at CE
  have HIS := Lib.hid hI
  have HHE := Lib.hid he
  have HNN := Lib.hid hN
  have HHT := Lib.hid ht
  obtain ⟨x, hx0⟩ : ∃ x, x = F t := ⟨_, rfl⟩
  have HX0 : Hid (F t = x) := Lib.hid hx0.symm
  rw [← hx0] at hP h1 h2 hI hFr
  clear hx0
  have HREL : Hid (ClFst32 y.C N L x x) := Lib.hid (.inl ⟨hP, rfl⟩)
  replace HIS := Lib.hid hI
  have HFR := Lib.hid hFr
  have d3 : (x.Pc == 1) = true := by simpa using hP
  clear hP hFr
  clear CM h hF E K hx hf hl he h1 h2 hN hI ht
  obtain ⟨o, ho⟩ : ∃ o, o = t * 11 := ⟨_, rfl⟩
  have HO := Lib.hid ho
  rw [← ho] at HCM ⊢
  clear ho
  go_enter Tryz.func36, Tryz.ntmps36
  go_wp2_with fail
  refine wp_scope_fwd ?_
  go_wp2_with fail
  refine HCM.out.mono ?_
  rintro e w1 ⟨rfl, X1⟩
  replace HR := Lib.hid (HR.out.ext X1)
  clear X1 HCM
  have c3 : w1.cell? ⟨fb, o + 3, none⟩ = some (.int .i64 x.Pc) := by rw [HO.out, ← HX0.out]; exact (HR.out.F.at_ HHT.out 3 (by decide)).1
  have HFF : Hid (F t = x) := HX0
  have HBF : Hid (F = updF F t x) := Lib.hid (by rw [← HX0.out, updF_self])
  go_wp2_with fail
  go_step3
  refine fwd_goto 0 rfl ?_
  go_upto_region 7 with (fail)
  refine settle_wp ?_
  intro wa Xa
  replace HR := Lib.hid (HR.out.ext Xa)
  clear Xa
  have s0 := HR.out.T.S.q0
  have s9 := HR.out.T.S.q9
  have k1 := fun w' (hx : Ext wa w') => hx.cell s0
  have k2 := fun w' (hx : Ext wa w') => hx.cell s9
  refine wp_region_D (fun i => decide (i ≤ 9)) (by kernel_rfl) ?_
  refine take_D (i := 0) (v := ?_) rfl rfl rfl (by kernel_rfl) (by kernel_rfl) (by kernel_rfl) (by kernel_rfl) (by kernel_rfl) (((Ext.refl wa).drew)) ?hyp ?_
  case hyp => intro wz hSw; (try dsimp only at hSw); go_simp <;> with_reducible rfl
  simp only [List.setIfInBounds_toArray, List.set_cons_zero, List.set_cons_succ]
  refine take_D (i := 1) (v := ?_) rfl rfl rfl (by kernel_rfl) (by kernel_rfl) (by kernel_rfl) (by kernel_rfl) (by kernel_rfl) (((Ext.refl wa).drew)) ?hyp ?_
  case hyp => intro wz hSw; (try dsimp only at hSw); go_simp <;> with_reducible rfl
  simp only [List.setIfInBounds_toArray, List.set_cons_zero, List.set_cons_succ]
  refine take_D (i := 2) (v := ?_) rfl rfl rfl (by kernel_rfl) (by kernel_rfl) (by kernel_rfl) (by kernel_rfl) (by kernel_rfl) (((Ext.refl wa).drew)) ?hyp ?_
  case hyp => intro wz hSw; (try dsimp only at hSw); go_simp <;> with_reducible rfl
  simp only [List.setIfInBounds_toArray, List.set_cons_zero, List.set_cons_succ]
  refine take_D (i := 3) (v := ?_) rfl rfl rfl (by kernel_rfl) (by kernel_rfl) (by kernel_rfl) (by kernel_rfl) (by kernel_rfl) (((Ext.refl wa).drew)) ?hyp ?_
  case hyp => intro wz hSw; (try dsimp only at hSw); go_simp <;> with_reducible rfl
  simp only [List.setIfInBounds_toArray, List.set_cons_zero, List.set_cons_succ]
  refine take_D (i := 4) (v := ?_) rfl rfl rfl (by kernel_rfl) (by kernel_rfl) (by kernel_rfl) (by kernel_rfl) (by kernel_rfl) (((Ext.refl wa).drew)) ?hyp ?_
  case hyp => intro wz hSw; (try dsimp only at hSw); go_simp <;> with_reducible rfl
  simp only [List.setIfInBounds_toArray, List.set_cons_zero, List.set_cons_succ]
  refine take_D (i := 5) (v := ?_) rfl rfl rfl (by kernel_rfl) (by kernel_rfl) (by kernel_rfl) (by kernel_rfl) (by kernel_rfl) (((Ext.refl wa).drew)) ?hyp ?_
  case hyp => intro wz hSw; (try dsimp only at hSw); go_simp <;> with_reducible rfl
  simp only [List.setIfInBounds_toArray, List.set_cons_zero, List.set_cons_succ]
  refine take_D (i := 6) (v := ?_) rfl rfl rfl (by kernel_rfl) (by kernel_rfl) (by kernel_rfl) (by kernel_rfl) (by kernel_rfl) (((Ext.refl wa).drew)) ?hyp ?_
  case hyp => intro wz hSw; (try dsimp only at hSw); go_simp <;> with_reducible rfl
  simp only [List.setIfInBounds_toArray, List.set_cons_zero, List.set_cons_succ]
  refine take_D (i := 7) (v := ?_) rfl rfl rfl (by kernel_rfl) (by kernel_rfl) (by kernel_rfl) (by kernel_rfl) (by kernel_rfl) (((Ext.refl wa).drew)) ?hyp ?_
  case hyp => intro wz hSw; (try dsimp only at hSw); go_simp <;> with_reducible rfl
  simp only [List.setIfInBounds_toArray, List.set_cons_zero, List.set_cons_succ]
  refine take_D (i := 8) (v := ?_) rfl rfl rfl (by kernel_rfl) (by kernel_rfl) (by kernel_rfl) (by kernel_rfl) (by kernel_rfl) (((Ext.refl wa).drew)) ?hyp ?_
  case hyp => intro wz hSw; (try dsimp only at hSw); go_simp <;> with_reducible rfl
  simp only [List.setIfInBounds_toArray, List.set_cons_zero, List.set_cons_succ]
  refine take_D (i := 9) (v := ?_) rfl rfl rfl (by kernel_rfl) (by kernel_rfl) (by kernel_rfl) (by kernel_rfl) (by kernel_rfl) (((Ext.refl wa).drew)) ?hyp ?_
  case hyp => intro wz hSw; (try dsimp only at hSw); go_simp <;> with_reducible rfl
  simp only [List.setIfInBounds_toArray, List.set_cons_zero, List.set_cons_succ]
  refine rest_D (n := 10) rfl rfl (fun j hj => by simp; omega) (by kernel_rfl) ?_
  clear k1 k2 s0 s9
  have XD := Lib.hid ((Ext.refl wa).drew)
  replace HR := Lib.hid (HR.out.ext XD.out)
  clear XD
  generalize wa.drew = wb at *
  have CS2 := CS.out _ HR.out (by rw [HFF.out]; exact HIS.out)
  rw [← HO.out, HFF.out] at CS2
  go_wp2_with fail
  refine CS2.mono ?_
  rintro e wc ⟨sd, I', M', log2, hsc, rfl, lvc, Rc⟩
  have HSC := Lib.hid hsc
  replace HR := Lib.hid Rc
  clear hsc Rc CS2
  obtain ⟨F2, hF2⟩ : ∃ F2, F2 = updF F t { x with I := I', Mn := M' } := ⟨_, rfl⟩
  have HFF2 : Hid (F2 t = { x with I := I', Mn := M' }) := Lib.hid (by rw [hF2, updF_at])
  have HBF2 : Hid (F2 = updF F t { x with I := I', Mn := M' }) := Lib.hid hF2
  rw [← hF2] at HR
  clear hF2
  go_wp2
  refine off_normal ?_
  cases sd
  case false =>
    have HFIN2 : Hid (ClDoes32 W0 w lv vL b g sb lb y f log ups su ev xs N L EL fb n t F 0 (.returned (.bool false)) wc) := Lib.hid (by
      have hr := HR.out
      rw [HBF2.out, HBF.out, updF_two] at hr
      unfold ClDoes32
      rw [HX0.out]
      exact ⟨false, _, _, _, _, _, .inr ⟨x, false, I', M', HREL.out, HSC.out, .inl ⟨rfl, rfl, rfl, rfl, rfl, rfl⟩⟩, rfl, lvc, vL, hr⟩)
    go_wp2
    go_ret
    exact HFIN2.out
  case true =>
    go_upto_region 9 with (fail)
    have c7 : wc.cell? ⟨fb, o + 7, none⟩ = some (.int .u32 M') := by rw [HO.out]; have := (HR.out.F.at_ HHT.out 7 (by decide)).1; rw [HFF2.out] at this; exact this
    have s11 := HR.out.T.S.q11
    have z11 := HR.out.T.S.z11
    replace HR := Lib.hid (HR.out.setL M')
    go_upto_region 10 with (fail)
    first | refine name_wp ?_ | refine name_list ?_
    intro wd ed
    rw [ed] at HR
    clear ed c7 s11 z11
    have CF := soFits32 HR.out.T HR.out.F HHT.out
    rw [← HO.out, HFF2.out] at CF
    obtain ⟨fit, hfit⟩ : ∃ q, decide (D32 (((x.Fr + x.N) % 4294967296) - M') ≤ y.C) = q := ⟨_, rfl⟩
    have hfit2 := bool_of hfit
    have HFT2 := Lib.hid hfit2
    rw [show decide (D32 (((({ x with I := I', Mn := M' } : Fm).Fr + ({ x with I := I', Mn := M' } : Fm).N) % 4294967296) - M') ≤ y.C) = fit from hfit] at CF
    clear hfit hfit2
    go_wp2_with fail
    refine CF.mono ?_
    rintro e we ⟨rfl, Xe⟩
    replace HR := Lib.hid (HR.out.ext Xe)
    clear Xe CF
    cases fit
    case false =>
      have HFIN2 : Hid (ClDoes32 W0 w lv vL b g sb lb y f log ups su ev xs N L EL fb n t F 0 (.returned (.bool false)) we) := Lib.hid (by
        have hr := HR.out
        rw [HBF2.out, HBF.out, updF_two] at hr
        unfold ClDoes32
        rw [HX0.out]
        exact ⟨false, _, _, _, _, _, .inr ⟨x, true, I', M', HREL.out, HSC.out, .inr (.inl ⟨rfl, by have h := HFT2.out.2 rfl; show ¬ D32 (((x.Fr + x.N) % 4294967296) - M') ≤ y.C; omega, rfl, rfl, rfl, rfl, rfl⟩)⟩, rfl, lvc, vL, hr⟩)
      go_wp2
      go_ret
      exact HFIN2.out
    case true =>
      have HFIN : Hid (∀ w' lv' vL', Run32 W0 w w' lv vL b g sb lb y f lv' log2 ups su ev xs (((N + x.N) % 4294967296)) M' vL' (EL ++ [evT 0 x.N x.Fr] ++ [evG 0]) fb n (updF F2 t { x with I := I', Mn := M', Pc := 0 }) → ClDoes32 W0 w lv vL b g sb lb y f log ups su ev xs N L EL fb n t F 0 (.returned (.bool true)) w') := Lib.hid (fun w' lv' vL' hr => by
        rw [HBF2.out, HBF.out, updF_two, updF_two] at hr
        unfold ClDoes32
        rw [HX0.out]
        exact ⟨true, _, _, _, _, _, .inr ⟨x, true, I', M', HREL.out, HSC.out, .inr (.inr ⟨rfl, HFT2.out.1 rfl, rfl, rfl, rfl, rfl, rfl⟩)⟩, rfl, lv', vL', hr⟩)
      go_wp2_with fail
      go_step3
      have HS3 : Hid (∀ wz {f2 lv2 log2 N2 L2 vL2 EL2}, Run32 W0 w wz lv vL b g sb lb y f2 lv2 log2 ups su ev xs N2 L2 vL2 EL2 fb n F2 → Run32 W0 w (wz.setCell ⟨fb, o + 3, none⟩ (.int .i64 0)) lv vL b g sb lb y f2 lv2 log2 ups su ev xs N2 L2 vL2 EL2 fb n (updF F2 t { x with I := I', Mn := M', Pc := 0 })) := Lib.hid (fun wz {_ _ _ _ _ _ _} hr => by rw [HO.out]; exact hr.setF HHT.out (j := 3) (by decide) rfl (by rw [HFF2.out]; exact (fun i hi hne => by
        have h11 : i = 0 ∨ i = 1 ∨ i = 2 ∨ i = 4 ∨ i = 5 ∨ i = 6 ∨ i = 7 ∨ i = 8 ∨ i = 9 ∨ i = 10 := by omega
        rcases h11 with rfl | rfl | rfl | rfl | rfl | rfl | rfl | rfl | rfl | rfl <;> rfl)))
      go_upto_region 12 with (fail)
      refine settle_wp ?_
      intro wg Xg
      replace HR := Lib.hid (HR.out.ext Xg)
      clear Xg
      have c1 : wg.cell? ⟨fb, o + 1, none⟩ = some (.int .i64 x.N) := by rw [HO.out]; have := (HR.out.F.at_ HHT.out 1 (by decide)).1; rw [HFF2.out] at this; exact this
      have s10 := HR.out.T.S.q10
      have k1 := fun w' (hx : Ext wg w') => hx.cell c1
      have k2 := fun w' (hx : Ext wg w') => hx.cell s10
      refine wp_region_D (fun i => decide (1 ≤ i) && decide (i ≤ 8)) (by kernel_rfl) ?_
      refine pure_D (i := 0) (v := ?_) rfl rfl rfl (by kernel_rfl) (by kernel_rfl) (by kernel_rfl) rfl ?hyp ?_
      case hyp => intro wz; go_simp <;> with_reducible rfl
      simp only [List.setIfInBounds_toArray, List.set_cons_zero, List.set_cons_succ]
      refine take_D (i := 1) (v := ?_) rfl rfl rfl (by kernel_rfl) (by kernel_rfl) (by kernel_rfl) (by kernel_rfl) (by kernel_rfl) (((Ext.refl wg).drew)) ?hyp ?_
      case hyp => intro wz hSw; (try dsimp only at hSw); go_simp <;> with_reducible rfl
      simp only [List.setIfInBounds_toArray, List.set_cons_zero, List.set_cons_succ]
      refine take_D (i := 2) (v := ?_) rfl rfl rfl (by kernel_rfl) (by kernel_rfl) (by kernel_rfl) (by kernel_rfl) (by kernel_rfl) (((Ext.refl wg).drew)) ?hyp ?_
      case hyp => intro wz hSw; (try dsimp only at hSw); go_simp <;> with_reducible rfl
      simp only [List.setIfInBounds_toArray, List.set_cons_zero, List.set_cons_succ]
      refine take_D (i := 3) (v := ?_) rfl rfl rfl (by kernel_rfl) (by kernel_rfl) (by kernel_rfl) (by kernel_rfl) (by kernel_rfl) (((Ext.refl wg).drew)) ?hyp ?_
      case hyp => intro wz hSw; (try dsimp only at hSw); go_simp <;> with_reducible rfl
      simp only [List.setIfInBounds_toArray, List.set_cons_zero, List.set_cons_succ]
      refine take_D (i := 4) (v := ?_) rfl rfl rfl (by kernel_rfl) (by kernel_rfl) (by kernel_rfl) (by kernel_rfl) (by kernel_rfl) (((Ext.refl wg).drew)) ?hyp ?_
      case hyp => intro wz hSw; (try dsimp only at hSw); go_simp <;> with_reducible rfl
      simp only [List.setIfInBounds_toArray, List.set_cons_zero, List.set_cons_succ]
      refine take_D (i := 5) (v := ?_) rfl rfl rfl (by kernel_rfl) (by kernel_rfl) (by kernel_rfl) (by kernel_rfl) (by kernel_rfl) (((Ext.refl wg).drew)) ?hyp ?_
      case hyp => intro wz hSw; (try dsimp only at hSw); go_simp <;> with_reducible rfl
      simp only [List.setIfInBounds_toArray, List.set_cons_zero, List.set_cons_succ]
      refine take_D (i := 6) (v := ?_) rfl rfl rfl (by kernel_rfl) (by kernel_rfl) (by kernel_rfl) (by kernel_rfl) (by kernel_rfl) (((Ext.refl wg).drew)) ?hyp ?_
      case hyp => intro wz hSw; (try dsimp only at hSw); go_simp <;> with_reducible rfl
      simp only [List.setIfInBounds_toArray, List.set_cons_zero, List.set_cons_succ]
      refine take_D (i := 7) (v := ?_) rfl rfl rfl (by kernel_rfl) (by kernel_rfl) (by kernel_rfl) (by kernel_rfl) (by kernel_rfl) (((Ext.refl wg).drew)) ?hyp ?_
      case hyp => intro wz hSw; (try dsimp only at hSw); go_simp <;> with_reducible rfl
      simp only [List.setIfInBounds_toArray, List.set_cons_zero, List.set_cons_succ]
      refine take_D (i := 8) (v := ?_) rfl rfl rfl (by kernel_rfl) (by kernel_rfl) (by kernel_rfl) (by kernel_rfl) (by kernel_rfl) (((Ext.refl wg).drew)) ?hyp ?_
      case hyp => intro wz hSw; (try dsimp only at hSw); go_simp <;> with_reducible rfl
      simp only [List.setIfInBounds_toArray, List.set_cons_zero, List.set_cons_succ]
      refine rest_D (n := 9) rfl rfl (fun j hj => by simp; omega) (by kernel_rfl) ?_
      clear k1 k2 c1 s10
      have XD := Lib.hid ((Ext.refl wg).drew)
      replace HR := Lib.hid (HR.out.ext XD.out)
      clear XD
      generalize wg.drew = wh at *
      have s10 := HR.out.T.S.q10
      have z10 := HR.out.T.S.z10
      go_wp2_with fail
      refine (addU32 N x.N wh).mono ?_
      rintro e w' ⟨rfl, rfl⟩
      replace HR := Lib.hid (HR.out.setN (((N + x.N) % 4294967296)))
      go_wp2
      refine off_normal ?_
      go_upto_region 13 with (fail)
      first | refine name_wp ?_ | refine name_list ?_
      intro wi ei
      rw [ei] at HR
      clear ei s10 z10
      have c3 : wi.cell? ⟨fb, o + 3, none⟩ = some (fmc32 (F2 t) 3) := by rw [HO.out]; exact (HR.out.F.at_ HHT.out 3 (by decide)).1
      have z3 : wi.frozen? ⟨fb, o + 3, none⟩ = false := by rw [HO.out]; exact (HR.out.F.at_ HHT.out 3 (by decide)).2
      replace HR := Lib.hid (HS3.out _ HR.out)
      go_upto_region 14 with (fail)
      first | refine name_wp ?_ | refine name_list ?_
      intro wj ej
      rw [ej] at HR
      clear ej c3 z3
      have CN2 := CN.out _ HR.out (by have := HHE.out; omega) (by rw [updF_at]; exact HFR.out)
      rw [← HO.out, updF_at] at CN2
      go_wp2_with fail
      refine CN2.mono ?_
      rintro e wk ⟨rfl, vLk, Rk⟩
      clear CN2
      replace HR := Lib.hid Rk
      clear Rk
      have s1 := HR.out.T.S.q1
      go_wp2_with fail
      refine (CE.out _ HR.out (by have := HHE.out; simp; omega)).mono ?_
      rintro e wl hnote
      obtain ⟨he2, vLl, hG2, hN2, hL2⟩ := hnote
      subst he2
      replace HR := Lib.hid (HR.out.note hG2 hN2 hL2)
      clear hG2 hN2 hL2 s1
      go_wp2
      go_ret
      exact HFIN.out _ _ _ HR.out
set_option maxRecDepth 100000 in
theorem soClaim64_later {W0 w : World} {b g sb lb : Nat} {y : LY} {f : Nat → Int} {lv : Value} {log : List Acc} {ups : List (List Int)} {su ev : Value} {xs : List Int} {N L : Int} {vL : Value} {EL : List Ev} {fb n t : Nat} {F : Nat → Fm} (K : BK y ups) (hV : y.V = 1) (E : Parts W0) (h : ST64 W0 w b g sb lb y f lv log ups su ev xs N L vL EL) (hF : FB64 W0 w b g sb lb lv vL fb n F) (ht : t * 11 + 11 ≤ n) (hx : Gts y.n xs) (hI : ScAt xs (F t).I) (hf : Rgs64 f) (hl : log.length ≤ 1000) (he : EL.length ≤ 800000) (h1 : 1 ≤ (F t).N) (h2 : (F t).N ≤ y.C) (hN : 0 ≤ N ∧ N < 18446744073709551616) (hP : (F t).Pc = 1) (hFr : 0 ≤ (F t).Fr ∧ (F t).Fr < 18446744073709551616) :
    Calls Tryz.prog 44 #[.pointer (some ⟨sb, 0, none⟩), .int .i64 0, .pointer (some ⟨fb, t * 11, none⟩)] w (ClDoes64 W0 w lv vL b g sb lb y f log ups su ev xs N L EL fb n t F 0) := by
  have CM := soMay64 K hV h hF ht 0
  rw [show (decide ((0 : Int) = 0) && decide (1 ≤ (F t).N) && decide ((F t).N ≤ y.C)) = true by simp [h1, h2]] at CM
  have HCM := Lib.hid CM
  have HR := Lib.hid (Run64.start h hF)
  have CS := Lib.hid (fun w1 {F1 : Nat → Fm} (h1 : Run64 W0 w w1 lv vL b g sb lb y f lv log ups su ev xs N L vL EL fb n F1) (hI1 : ScAt xs (F1 t).I) => sScan64 K h1 ht E hx hI1 hf hl 0)
  have CN := Lib.hid (fun w1 {f2 lv2 log2 N2 L2 vL2 EL2} {F1 : Nat → Fm} (h1 : Run64 W0 w w1 lv vL b g sb lb y f2 lv2 log2 ups su ev xs N2 L2 vL2 EL2 fb n F1) hl2 h0 => soNote64 h1 ht 3 0 hl2 h0)
  have CE := Lib.hid (fun w1 {f2 lv2 log2 N2 L2 vL2 EL2} {F1 : Nat → Fm} (h1 : Run64 W0 w w1 lv vL b g sb lb y f2 lv2 log2 ups su ev xs N2 L2 vL2 EL2 fb n F1) (hl2 : EL2.length ≤ 900000) => eNoteB (B := 0) W0 w1 lb vL2 EL2 (evG 0) (.slice none 0 0) h1.T.G h1.T.X (dat_none _ _) hl2 (by simp [evG]))
  unfold evA evG at CE
  have HIS := Lib.hid hI
  have HHE := Lib.hid he
  have HNN := Lib.hid hN
  have HHT := Lib.hid ht
  obtain ⟨x, hx0⟩ : ∃ x, x = F t := ⟨_, rfl⟩
  have HX0 : Hid (F t = x) := Lib.hid hx0.symm
  rw [← hx0] at hP h1 h2 hI hFr
  clear hx0
  have HREL : Hid (ClFst64 y.C N L x x) := Lib.hid (.inl ⟨hP, rfl⟩)
  replace HIS := Lib.hid hI
  have HFR := Lib.hid hFr
  have d3 : (x.Pc == 1) = true := by simpa using hP
  clear hP hFr
  clear CM h hF E K hx hf hl he h1 h2 hN hI ht
  obtain ⟨o, ho⟩ : ∃ o, o = t * 11 := ⟨_, rfl⟩
  have HO := Lib.hid ho
  rw [← ho] at HCM ⊢
  clear ho
  go_enter Tryz.func44, Tryz.ntmps44
  go_wp2_with fail
  refine wp_scope_fwd ?_
  go_wp2_with fail
  refine HCM.out.mono ?_
  rintro e w1 ⟨rfl, X1⟩
  replace HR := Lib.hid (HR.out.ext X1)
  clear X1 HCM
  have c3 : w1.cell? ⟨fb, o + 3, none⟩ = some (.int .i64 x.Pc) := by rw [HO.out, ← HX0.out]; exact (HR.out.F.at_ HHT.out 3 (by decide)).1
  have HFF : Hid (F t = x) := HX0
  have HBF : Hid (F = updF F t x) := Lib.hid (by rw [← HX0.out, updF_self])
  go_wp2_with fail
  go_step3
  refine fwd_goto 0 rfl ?_
  go_upto_region 7 with (fail)
  refine settle_wp ?_
  intro wa Xa
  replace HR := Lib.hid (HR.out.ext Xa)
  clear Xa
  have s0 := HR.out.T.S.q0
  have s9 := HR.out.T.S.q9
  have k1 := fun w' (hx : Ext wa w') => hx.cell s0
  have k2 := fun w' (hx : Ext wa w') => hx.cell s9
  refine wp_region_D (fun i => decide (i ≤ 9)) (by kernel_rfl) ?_
  refine take_D (i := 0) (v := ?_) rfl rfl rfl (by kernel_rfl) (by kernel_rfl) (by kernel_rfl) (by kernel_rfl) (by kernel_rfl) (((Ext.refl wa).drew)) ?hyp ?_
  case hyp => intro wz hSw; (try dsimp only at hSw); go_simp <;> with_reducible rfl
  simp only [List.setIfInBounds_toArray, List.set_cons_zero, List.set_cons_succ]
  refine take_D (i := 1) (v := ?_) rfl rfl rfl (by kernel_rfl) (by kernel_rfl) (by kernel_rfl) (by kernel_rfl) (by kernel_rfl) (((Ext.refl wa).drew)) ?hyp ?_
  case hyp => intro wz hSw; (try dsimp only at hSw); go_simp <;> with_reducible rfl
  simp only [List.setIfInBounds_toArray, List.set_cons_zero, List.set_cons_succ]
  refine take_D (i := 2) (v := ?_) rfl rfl rfl (by kernel_rfl) (by kernel_rfl) (by kernel_rfl) (by kernel_rfl) (by kernel_rfl) (((Ext.refl wa).drew)) ?hyp ?_
  case hyp => intro wz hSw; (try dsimp only at hSw); go_simp <;> with_reducible rfl
  simp only [List.setIfInBounds_toArray, List.set_cons_zero, List.set_cons_succ]
  refine take_D (i := 3) (v := ?_) rfl rfl rfl (by kernel_rfl) (by kernel_rfl) (by kernel_rfl) (by kernel_rfl) (by kernel_rfl) (((Ext.refl wa).drew)) ?hyp ?_
  case hyp => intro wz hSw; (try dsimp only at hSw); go_simp <;> with_reducible rfl
  simp only [List.setIfInBounds_toArray, List.set_cons_zero, List.set_cons_succ]
  refine take_D (i := 4) (v := ?_) rfl rfl rfl (by kernel_rfl) (by kernel_rfl) (by kernel_rfl) (by kernel_rfl) (by kernel_rfl) (((Ext.refl wa).drew)) ?hyp ?_
  case hyp => intro wz hSw; (try dsimp only at hSw); go_simp <;> with_reducible rfl
  simp only [List.setIfInBounds_toArray, List.set_cons_zero, List.set_cons_succ]
  refine take_D (i := 5) (v := ?_) rfl rfl rfl (by kernel_rfl) (by kernel_rfl) (by kernel_rfl) (by kernel_rfl) (by kernel_rfl) (((Ext.refl wa).drew)) ?hyp ?_
  case hyp => intro wz hSw; (try dsimp only at hSw); go_simp <;> with_reducible rfl
  simp only [List.setIfInBounds_toArray, List.set_cons_zero, List.set_cons_succ]
  refine take_D (i := 6) (v := ?_) rfl rfl rfl (by kernel_rfl) (by kernel_rfl) (by kernel_rfl) (by kernel_rfl) (by kernel_rfl) (((Ext.refl wa).drew)) ?hyp ?_
  case hyp => intro wz hSw; (try dsimp only at hSw); go_simp <;> with_reducible rfl
  simp only [List.setIfInBounds_toArray, List.set_cons_zero, List.set_cons_succ]
  refine take_D (i := 7) (v := ?_) rfl rfl rfl (by kernel_rfl) (by kernel_rfl) (by kernel_rfl) (by kernel_rfl) (by kernel_rfl) (((Ext.refl wa).drew)) ?hyp ?_
  case hyp => intro wz hSw; (try dsimp only at hSw); go_simp <;> with_reducible rfl
  simp only [List.setIfInBounds_toArray, List.set_cons_zero, List.set_cons_succ]
  refine take_D (i := 8) (v := ?_) rfl rfl rfl (by kernel_rfl) (by kernel_rfl) (by kernel_rfl) (by kernel_rfl) (by kernel_rfl) (((Ext.refl wa).drew)) ?hyp ?_
  case hyp => intro wz hSw; (try dsimp only at hSw); go_simp <;> with_reducible rfl
  simp only [List.setIfInBounds_toArray, List.set_cons_zero, List.set_cons_succ]
  refine take_D (i := 9) (v := ?_) rfl rfl rfl (by kernel_rfl) (by kernel_rfl) (by kernel_rfl) (by kernel_rfl) (by kernel_rfl) (((Ext.refl wa).drew)) ?hyp ?_
  case hyp => intro wz hSw; (try dsimp only at hSw); go_simp <;> with_reducible rfl
  simp only [List.setIfInBounds_toArray, List.set_cons_zero, List.set_cons_succ]
  refine rest_D (n := 10) rfl rfl (fun j hj => by simp; omega) (by kernel_rfl) ?_
  clear k1 k2 s0 s9
  have XD := Lib.hid ((Ext.refl wa).drew)
  replace HR := Lib.hid (HR.out.ext XD.out)
  clear XD
  generalize wa.drew = wb at *
  have CS2 := CS.out _ HR.out (by rw [HFF.out]; exact HIS.out)
  rw [← HO.out, HFF.out] at CS2
  go_wp2_with fail
  refine CS2.mono ?_
  rintro e wc ⟨sd, I', M', log2, hsc, rfl, lvc, Rc⟩
  have HSC := Lib.hid hsc
  replace HR := Lib.hid Rc
  clear hsc Rc CS2
  obtain ⟨F2, hF2⟩ : ∃ F2, F2 = updF F t { x with I := I', Mn := M' } := ⟨_, rfl⟩
  have HFF2 : Hid (F2 t = { x with I := I', Mn := M' }) := Lib.hid (by rw [hF2, updF_at])
  have HBF2 : Hid (F2 = updF F t { x with I := I', Mn := M' }) := Lib.hid hF2
  rw [← hF2] at HR
  clear hF2
  go_wp2
  refine off_normal ?_
  cases sd
  case false =>
    have HFIN2 : Hid (ClDoes64 W0 w lv vL b g sb lb y f log ups su ev xs N L EL fb n t F 0 (.returned (.bool false)) wc) := Lib.hid (by
      have hr := HR.out
      rw [HBF2.out, HBF.out, updF_two] at hr
      unfold ClDoes64
      rw [HX0.out]
      exact ⟨false, _, _, _, _, _, .inr ⟨x, false, I', M', HREL.out, HSC.out, .inl ⟨rfl, rfl, rfl, rfl, rfl, rfl⟩⟩, rfl, lvc, vL, hr⟩)
    go_wp2
    go_ret
    exact HFIN2.out
  case true =>
    go_upto_region 9 with (fail)
    have c7 : wc.cell? ⟨fb, o + 7, none⟩ = some (.int .u64 M') := by rw [HO.out]; have := (HR.out.F.at_ HHT.out 7 (by decide)).1; rw [HFF2.out] at this; exact this
    have s11 := HR.out.T.S.q11
    have z11 := HR.out.T.S.z11
    replace HR := Lib.hid (HR.out.setL M')
    go_upto_region 10 with (fail)
    first | refine name_wp ?_ | refine name_list ?_
    intro wd ed
    rw [ed] at HR
    clear ed c7 s11 z11
    have CF := soFits64 HR.out.T HR.out.F HHT.out
    rw [← HO.out, HFF2.out] at CF
    obtain ⟨fit, hfit⟩ : ∃ q, decide (D64 ((U64 (x.Fr + x.N)) - M') ≤ y.C) = q := ⟨_, rfl⟩
    have hfit2 := bool_of hfit
    have HFT2 := Lib.hid hfit2
    rw [show decide (D64 ((U64 (({ x with I := I', Mn := M' } : Fm).Fr + ({ x with I := I', Mn := M' } : Fm).N)) - M') ≤ y.C) = fit from hfit] at CF
    clear hfit hfit2
    go_wp2_with fail
    refine CF.mono ?_
    rintro e we ⟨rfl, Xe⟩
    replace HR := Lib.hid (HR.out.ext Xe)
    clear Xe CF
    cases fit
    case false =>
      have HFIN2 : Hid (ClDoes64 W0 w lv vL b g sb lb y f log ups su ev xs N L EL fb n t F 0 (.returned (.bool false)) we) := Lib.hid (by
        have hr := HR.out
        rw [HBF2.out, HBF.out, updF_two] at hr
        unfold ClDoes64
        rw [HX0.out]
        exact ⟨false, _, _, _, _, _, .inr ⟨x, true, I', M', HREL.out, HSC.out, .inr (.inl ⟨rfl, by have h := HFT2.out.2 rfl; show ¬ D64 ((U64 (x.Fr + x.N)) - M') ≤ y.C; omega, rfl, rfl, rfl, rfl, rfl⟩)⟩, rfl, lvc, vL, hr⟩)
      go_wp2
      go_ret
      exact HFIN2.out
    case true =>
      have HFIN : Hid (∀ w' lv' vL', Run64 W0 w w' lv vL b g sb lb y f lv' log2 ups su ev xs ((U64 (N + x.N))) M' vL' (EL ++ [evT 0 x.N x.Fr] ++ [evG 0]) fb n (updF F2 t { x with I := I', Mn := M', Pc := 0 }) → ClDoes64 W0 w lv vL b g sb lb y f log ups su ev xs N L EL fb n t F 0 (.returned (.bool true)) w') := Lib.hid (fun w' lv' vL' hr => by
        rw [HBF2.out, HBF.out, updF_two, updF_two] at hr
        unfold ClDoes64
        rw [HX0.out]
        exact ⟨true, _, _, _, _, _, .inr ⟨x, true, I', M', HREL.out, HSC.out, .inr (.inr ⟨rfl, HFT2.out.1 rfl, rfl, rfl, rfl, rfl, rfl⟩)⟩, rfl, lv', vL', hr⟩)
      go_wp2_with fail
      go_step3
      have HS3 : Hid (∀ wz {f2 lv2 log2 N2 L2 vL2 EL2}, Run64 W0 w wz lv vL b g sb lb y f2 lv2 log2 ups su ev xs N2 L2 vL2 EL2 fb n F2 → Run64 W0 w (wz.setCell ⟨fb, o + 3, none⟩ (.int .i64 0)) lv vL b g sb lb y f2 lv2 log2 ups su ev xs N2 L2 vL2 EL2 fb n (updF F2 t { x with I := I', Mn := M', Pc := 0 })) := Lib.hid (fun wz {_ _ _ _ _ _ _} hr => by rw [HO.out]; exact hr.setF HHT.out (j := 3) (by decide) rfl (by rw [HFF2.out]; exact (fun i hi hne => by
        have h11 : i = 0 ∨ i = 1 ∨ i = 2 ∨ i = 4 ∨ i = 5 ∨ i = 6 ∨ i = 7 ∨ i = 8 ∨ i = 9 ∨ i = 10 := by omega
        rcases h11 with rfl | rfl | rfl | rfl | rfl | rfl | rfl | rfl | rfl | rfl <;> rfl)))
      go_upto_region 12 with (fail)
      refine settle_wp ?_
      intro wg Xg
      replace HR := Lib.hid (HR.out.ext Xg)
      clear Xg
      have c1 : wg.cell? ⟨fb, o + 1, none⟩ = some (.int .i64 x.N) := by rw [HO.out]; have := (HR.out.F.at_ HHT.out 1 (by decide)).1; rw [HFF2.out] at this; exact this
      have s10 := HR.out.T.S.q10
      have k1 := fun w' (hx : Ext wg w') => hx.cell c1
      have k2 := fun w' (hx : Ext wg w') => hx.cell s10
      refine wp_region_D (fun i => decide (1 ≤ i) && decide (i ≤ 8)) (by kernel_rfl) ?_
      refine pure_D (i := 0) (v := ?_) rfl rfl rfl (by kernel_rfl) (by kernel_rfl) (by kernel_rfl) rfl ?hyp ?_
      case hyp => intro wz; go_simp <;> with_reducible rfl
      simp only [List.setIfInBounds_toArray, List.set_cons_zero, List.set_cons_succ]
      refine take_D (i := 1) (v := ?_) rfl rfl rfl (by kernel_rfl) (by kernel_rfl) (by kernel_rfl) (by kernel_rfl) (by kernel_rfl) (((Ext.refl wg).drew)) ?hyp ?_
      case hyp => intro wz hSw; (try dsimp only at hSw); go_simp <;> with_reducible rfl
      simp only [List.setIfInBounds_toArray, List.set_cons_zero, List.set_cons_succ]
      refine take_D (i := 2) (v := ?_) rfl rfl rfl (by kernel_rfl) (by kernel_rfl) (by kernel_rfl) (by kernel_rfl) (by kernel_rfl) (((Ext.refl wg).drew)) ?hyp ?_
      case hyp => intro wz hSw; (try dsimp only at hSw); go_simp <;> with_reducible rfl
      simp only [List.setIfInBounds_toArray, List.set_cons_zero, List.set_cons_succ]
      refine take_D (i := 3) (v := ?_) rfl rfl rfl (by kernel_rfl) (by kernel_rfl) (by kernel_rfl) (by kernel_rfl) (by kernel_rfl) (((Ext.refl wg).drew)) ?hyp ?_
      case hyp => intro wz hSw; (try dsimp only at hSw); go_simp <;> with_reducible rfl
      simp only [List.setIfInBounds_toArray, List.set_cons_zero, List.set_cons_succ]
      refine take_D (i := 4) (v := ?_) rfl rfl rfl (by kernel_rfl) (by kernel_rfl) (by kernel_rfl) (by kernel_rfl) (by kernel_rfl) (((Ext.refl wg).drew)) ?hyp ?_
      case hyp => intro wz hSw; (try dsimp only at hSw); go_simp <;> with_reducible rfl
      simp only [List.setIfInBounds_toArray, List.set_cons_zero, List.set_cons_succ]
      refine take_D (i := 5) (v := ?_) rfl rfl rfl (by kernel_rfl) (by kernel_rfl) (by kernel_rfl) (by kernel_rfl) (by kernel_rfl) (((Ext.refl wg).drew)) ?hyp ?_
      case hyp => intro wz hSw; (try dsimp only at hSw); go_simp <;> with_reducible rfl
      simp only [List.setIfInBounds_toArray, List.set_cons_zero, List.set_cons_succ]
      refine take_D (i := 6) (v := ?_) rfl rfl rfl (by kernel_rfl) (by kernel_rfl) (by kernel_rfl) (by kernel_rfl) (by kernel_rfl) (((Ext.refl wg).drew)) ?hyp ?_
      case hyp => intro wz hSw; (try dsimp only at hSw); go_simp <;> with_reducible rfl
      simp only [List.setIfInBounds_toArray, List.set_cons_zero, List.set_cons_succ]
      refine take_D (i := 7) (v := ?_) rfl rfl rfl (by kernel_rfl) (by kernel_rfl) (by kernel_rfl) (by kernel_rfl) (by kernel_rfl) (((Ext.refl wg).drew)) ?hyp ?_
      case hyp => intro wz hSw; (try dsimp only at hSw); go_simp <;> with_reducible rfl
      simp only [List.setIfInBounds_toArray, List.set_cons_zero, List.set_cons_succ]
      refine take_D (i := 8) (v := ?_) rfl rfl rfl (by kernel_rfl) (by kernel_rfl) (by kernel_rfl) (by kernel_rfl) (by kernel_rfl) (((Ext.refl wg).drew)) ?hyp ?_
      case hyp => intro wz hSw; (try dsimp only at hSw); go_simp <;> with_reducible rfl
      simp only [List.setIfInBounds_toArray, List.set_cons_zero, List.set_cons_succ]
      refine rest_D (n := 9) rfl rfl (fun j hj => by simp; omega) (by kernel_rfl) ?_
      clear k1 k2 c1 s10
      have XD := Lib.hid ((Ext.refl wg).drew)
      replace HR := Lib.hid (HR.out.ext XD.out)
      clear XD
      generalize wg.drew = wh at *
      have s10 := HR.out.T.S.q10
      have z10 := HR.out.T.S.z10
      go_wp2_with fail
      refine (addU64 N x.N wh).mono ?_
      rintro e w' ⟨rfl, rfl⟩
      replace HR := Lib.hid (HR.out.setN ((U64 (N + x.N))))
      go_wp2
      refine off_normal ?_
      go_upto_region 13 with (fail)
      first | refine name_wp ?_ | refine name_list ?_
      intro wi ei
      rw [ei] at HR
      clear ei s10 z10
      have c3 : wi.cell? ⟨fb, o + 3, none⟩ = some (fmc64 (F2 t) 3) := by rw [HO.out]; exact (HR.out.F.at_ HHT.out 3 (by decide)).1
      have z3 : wi.frozen? ⟨fb, o + 3, none⟩ = false := by rw [HO.out]; exact (HR.out.F.at_ HHT.out 3 (by decide)).2
      replace HR := Lib.hid (HS3.out _ HR.out)
      go_upto_region 14 with (fail)
      first | refine name_wp ?_ | refine name_list ?_
      intro wj ej
      rw [ej] at HR
      clear ej c3 z3
      have CN2 := CN.out _ HR.out (by have := HHE.out; omega) (by rw [updF_at]; exact HFR.out)
      rw [← HO.out, updF_at] at CN2
      go_wp2_with fail
      refine CN2.mono ?_
      rintro e wk ⟨rfl, vLk, Rk⟩
      clear CN2
      replace HR := Lib.hid Rk
      clear Rk
      have s1 := HR.out.T.S.q1
      go_wp2_with fail
      refine (CE.out _ HR.out (by have := HHE.out; simp; omega)).mono ?_
      rintro e wl hnote
      obtain ⟨he2, vLl, hG2, hN2, hL2⟩ := hnote
      subst he2
      replace HR := Lib.hid (HR.out.note hG2 hN2 hL2)
      clear hG2 hN2 hL2 s1
      go_wp2
      go_ret
      exact HFIN.out _ _ _ HR.out
end Go.Proofs.YtkmfamidahlgiaaGreatDoor
/- A step of Claim. -/
namespace Go.Proofs.YtkmfamidahlgiaaGreatDoor
open Go.RowKit
set_option linter.unusedVariables false
set_option linter.unusedSimpArgs false
set_option maxHeartbeats 4000000
attribute [local go_sem] later_cell later_frozen later_const
theorem soClaim32 {W0 w : World} {b g sb lb : Nat} {y : LY} {f : Nat → Int} {lv : Value} {log : List Acc} {ups : List (List Int)} {su ev : Value} {xs : List Int} {N L : Int} {vL : Value} {EL : List Ev} {fb n t : Nat} {F : Nat → Fm} (K : BK y ups) (hV : y.V = 1) (E : Parts W0) (h : ST32 W0 w b g sb lb y f lv log ups su ev xs N L vL EL) (hF : FB32 W0 w b g sb lb lv vL fb n F) (ht : t * 11 + 11 ≤ n) (hx : Gts y.n xs) (hI : ScAt xs (F t).I) (hf : Rgs32 f) (hl : log.length ≤ 1000) (he : EL.length ≤ 800000) (h1 : 1 ≤ (F t).N) (h2 : (F t).N ≤ y.C) (hN : 0 ≤ N ∧ N < 4294967296) (hFr : 0 ≤ (F t).Fr ∧ (F t).Fr < 4294967296) :
    Calls Tryz.prog 36 #[.pointer (some ⟨sb, 0, none⟩), .int .i64 0, .pointer (some ⟨fb, t * 11, none⟩)] w (ClDoes32 W0 w lv vL b g sb lb y f log ups su ev xs N L EL fb n t F 0) := by
  by_cases hP : (F t).Pc = 1
  · exact soClaim32_later K hV E h hF ht hx hI hf hl he h1 h2 hN hP hFr
  · by_cases hfit : D32 (((N + (F t).N) % 4294967296) - L) ≤ y.C
    · exact soClaim32_now K hV E h hF ht hx hI hf hl he h1 h2 hN hP hfit
    · exact soClaim32_first K hV E h hF ht hx hI hf hl he h1 h2 hN hP hfit
theorem soClaim64 {W0 w : World} {b g sb lb : Nat} {y : LY} {f : Nat → Int} {lv : Value} {log : List Acc} {ups : List (List Int)} {su ev : Value} {xs : List Int} {N L : Int} {vL : Value} {EL : List Ev} {fb n t : Nat} {F : Nat → Fm} (K : BK y ups) (hV : y.V = 1) (E : Parts W0) (h : ST64 W0 w b g sb lb y f lv log ups su ev xs N L vL EL) (hF : FB64 W0 w b g sb lb lv vL fb n F) (ht : t * 11 + 11 ≤ n) (hx : Gts y.n xs) (hI : ScAt xs (F t).I) (hf : Rgs64 f) (hl : log.length ≤ 1000) (he : EL.length ≤ 800000) (h1 : 1 ≤ (F t).N) (h2 : (F t).N ≤ y.C) (hN : 0 ≤ N ∧ N < 18446744073709551616) (hFr : 0 ≤ (F t).Fr ∧ (F t).Fr < 18446744073709551616) :
    Calls Tryz.prog 44 #[.pointer (some ⟨sb, 0, none⟩), .int .i64 0, .pointer (some ⟨fb, t * 11, none⟩)] w (ClDoes64 W0 w lv vL b g sb lb y f log ups su ev xs N L EL fb n t F 0) := by
  by_cases hP : (F t).Pc = 1
  · exact soClaim64_later K hV E h hF ht hx hI hf hl he h1 h2 hN hP hFr
  · by_cases hfit : D64 ((U64 (N + (F t).N)) - L) ≤ y.C
    · exact soClaim64_now K hV E h hF ht hx hI hf hl he h1 h2 hN hP hfit
    · exact soClaim64_first K hV E h hF ht hx hI hf hl he h1 h2 hN hP hfit
end Go.Proofs.YtkmfamidahlgiaaGreatDoor
/- The ends' gates, of a board's layout. -/
namespace Go.Proofs.YtkmfamidahlgiaaGreatDoor
open Go.RowKit
set_option linter.unusedVariables false
set_option linter.unusedSimpArgs false
theorem endsG_len (ups : List (List Int)) : (endsG ups).length ≤ ups.length := by
  unfold endsG
  split
  · exact sel_len _ _
  · simp
theorem gtEnds_y (y : LY) (ups : List (List Int)) (w : World) (K : BK y ups) (O : ListsV w (.slice y.a y.n y.cap) ups) (T : Tab w) :
    Calls Tryz.prog 12 #[(.agg #[.int .i64 (y.V), .int .i64 (y.W), .int .i64 (y.C), .int .i64 (y.P), .int .u64 (y.S), .slice y.a y.n y.cap, .int .i64 (y.Cu), .int .i64 (y.Cl), .int .i64 (y.Ti), .int .i64 (y.Se), .int .i64 (y.Ne), .int .i64 (y.Ma), .int .i64 (y.Sl), .int .i64 (y.m)])] w (GivesI w ((endsG ups).map (plc 0 ups.length))) := by
  obtain ⟨V, W, C, P, S, a, n, cap, Cu, Cl, Ti, Se, Ne, Ma, Sl, m⟩ := y
  have hn := K.n
  have h6 := K.num.n6
  have hl := endsG_len ups
  dsimp only at hn h6 O ⊢
  subst hn
  exact gtEnds0 V W C P S a cap ups Cu Cl Ti Se Ne Ma Sl m w O K.ll (by omega) T (by omega)
end Go.Proofs.YtkmfamidahlgiaaGreatDoor
/- A new sequencer; the configuration of a case. -/
namespace Go.Proofs.YtkmfamidahlgiaaGreatDoor
open Go.RowKit
set_option linter.unusedVariables false
set_option linter.unusedSimpArgs false
set_option maxHeartbeats 4000000
attribute [local go_sem] later_cell later_frozen later_const
theorem plc_id' {n : Nat} {xs : List Int} (h : ∀ x ∈ xs, 0 ≤ x ∧ x < (n : Int)) : xs.map (plc 0 n) = xs := by
  have : ∀ x ∈ xs, plc 0 n x = x := fun x hx => by
    have := h x hx
    unfold plc
    rw [if_neg (by omega)]
    omega
  exact (List.map_congr_left this).trans (List.map_id _)
theorem endsG_in' (ups : List (List Int)) : ∀ x ∈ endsG ups, 0 ≤ x ∧ x < (ups.length : Int) := fun x hx => by
  unfold endsG at hx
  split at hx
  · obtain ⟨i, hi, -, e⟩ := mem_sel.1 hx
    omega
  · simp at hx
theorem ends_gts {y : LY} {ups : List (List Int)} (K : BK y ups) : Gts y.n (endsG ups) :=
  ⟨fun i hi => by
    have hm : (endsG ups).getD i 0 ∈ endsG ups := by
      rw [List.getD_eq_getElem?_getD, List.getElem?_eq_getElem hi]
      exact List.getElem_mem hi
    have := endsG_in' ups _ hm
    have hn := K.n
    exact ⟨((endsG ups).getD i 0).toNat, by omega, by omega⟩, by have := endsG_len ups; have := K.num.n6; have := K.n; omega⟩
theorem ofV32 (a : Int) (w : World) (h : 0 ≤ a ∧ a < 4294967296) : Calls Tryz.prog 22 #[.int .u64 a] w fun e w' => e = .returned (.int .u32 a) ∧ w = w' := by
  first
    | exact ofU32 a w h.1 h.2
    | (have h1 := ofU32 a w
       rwa [Int.emod_eq_of_lt h.1 h.2] at h1)
set_option maxRecDepth 100000 in
/-- none of another variant's board -/
theorem soNew32_no (b g : Nat) (y : LY) (f : Nat → Int) (lv : Value) (log : List Acc) (ups : List (List Int)) (pl : Value) (w : World) (K : BK y ups) (h : BW w 121 b g y f lv log ups) (hV : ¬ y.V = 1) :
    Calls Tryz.prog 33 #[.pointer (some ⟨b, 0, none⟩), pl] w fun e w' => e = .returned (.pointer none) ∧ Ext w w' := by
  have CL := Lib.hid (LayoutO32 b g y f lv log ups w h.B h.O.lists K.ll K.hn K.ck K.lay)
  have d0 : (y.V != 1) = true := by simpa using hV
  clear K h hV
  go_enter Tryz.func33, Tryz.ntmps33
  go_wp2_with fail
  refine CL.out.mono ?_
  rintro e wo ⟨u, rfl, O, Xo⟩
  obtain ⟨bo, fo, cuo, eu, -⟩ := id O
  subst eu
  have HX := Lib.hid (Xo.alloc (.cells #[.int .i64 0] 0))
  have HXo := Lib.hid Xo
  clear O Xo CL HX
  go_upto_region 2 with (fail)
  refine settle_wp ?_
  intro w1 hb1
  have q0 : w1.cell? ⟨wo.heap.size, 0, none⟩ = some (.int .i64 y.V) := hb1.cell (by simp [go_sem])
  have HX1 := Lib.hid (HXo.out.trans (Ext.trans ((Ext.refl wo).alloc _) hb1))
  clear hb1
  go_wp2
  go_ret
  exact ⟨rfl, HX1.out⟩
set_option maxRecDepth 100000 in
/-- a board's sequencer -/
theorem soNew32_yes (W0 : World) (b g lb : Nat) (y : LY) (f : Nat → Int) (lv vL : Value) (log : List Acc) (EL : List Ev) (ups : List (List Int)) (w : World) (K : BK y ups) (hW : y.W = 32) (h : BW w 121 b g y f lv log ups) (hV : y.V = 1) (G : LG W0 w lb vL EL) (X : Ext W0 w) (hob : ∀ k, Own b g lv k → W0.heap.size ≤ k) (T : Tab w) (hS0 : 0 ≤ y.S) (hS1 : y.S < 18446744073709551616) :
    Calls Tryz.prog 33 #[.pointer (some ⟨b, 0, none⟩), .pointer (some ⟨lb, 0, none⟩)] w fun e w' => ∃ sb su ev, e = .returned (.pointer (some ⟨sb, 0, none⟩)) ∧ ST32 W0 w' b g sb lb y f lv log ups su ev (endsG ups) (cutS 32 y.S) (cutS 32 y.S) vL EL ∧ Ext w w' ∧ w.heap.size ≤ sb := by
  have CL := Lib.hid (LayoutO32 b g y f lv log ups w h.B h.O.lists K.ll K.hn K.ck K.lay)
  have d0 : (y.V != 1) = false := by simpa using hV
  have hN : 0 ≤ cutS 32 y.S ∧ cutS 32 y.S < 4294967296 := by
    unfold cutS
    first
      | (rw [if_pos rfl]; omega)
      | (rw [if_neg (by decide)]; omega)
  have CST := Lib.hid (fun w' u (O : OwnL w' u ups) => cStart_ok y.V y.W y.C y.P y.S u ups w' O.lists K.ll K.hn K.ck hS0 hS1)
  rw [hW] at CST
  have CE0 := fun w' u (a : Option Addr) (n cap : Nat) (e : u = .slice a n cap) (hn : n = ups.length) (O : OwnL w' u ups) (hx : Ext w w') => gtEnds0 y.V y.W y.C y.P y.S a cap ups y.Cu y.Cl y.Ti y.Se y.Ne y.Ma y.Sl y.m w' (by rw [← hn, ← e]; exact O.lists) K.ll (by have := K.num.n6; have := K.n; omega) (T.ext hx) (by have := endsG_len ups; have := K.num.n6; have := K.n; omega)
  rw [plc_id' (endsG_in' ups), hW] at CE0
  have CE := Lib.hid CE0
  have HFIN : Hid (∀ (w4 w5 : World) (su ev : Value), Ext w w4 → OwnL w4 su ups → RI w4 0 ev (endsG ups) → Ext (w4.alloc (.cells #[.pointer (some ⟨b, 0, none⟩), .pointer (some ⟨lb, 0, none⟩), .int .i64 y.V, .int .i64 32, .int .i64 y.C, .int .i64 y.P, .int .u64 y.S, su, .int .i64 y.Cu, ev, .int .u32 (cutS 32 y.S), .int .u32 (cutS 32 y.S)] 146)) w5 → ∃ sb su ev, Ending.returned (.pointer (some ⟨w4.heap.size, 0, none⟩)) = .returned (.pointer (some ⟨sb, 0, none⟩)) ∧ ST32 W0 w5 b g sb lb y f lv log ups su ev (endsG ups) (cutS 32 y.S) (cutS 32 y.S) vL EL ∧ Ext w w5 ∧ w.heap.size ≤ sb) := Lib.hid (fun w4 w5 su ev hx hO hI h5 => by
    have X5 : Ext w4 w5 := Ext.trans ((Ext.refl w4).alloc _) h5
    have tg : Tag w5 w4.heap.size 146 := (Tag.new w4 _ _).ext h5
    refine ⟨w4.heap.size, su, ev, rfl, ⟨h.ext (hx.trans X5), ⟨?_, ?_, ?_, ?_, ?_, ?_, ?_, ?_, ?_, ?_, ?_, ?_, ?_, ?_, tg⟩, G.ext (hx.trans X5), X.trans (hx.trans X5), hob, Nat.le_trans X.size hx.size, hI.ext X5, hO.ext X5⟩, hx.trans X5, hx.size⟩
    · exact h5.cell (by simp [go_sem])
    · exact h5.cell (by simp [go_sem])
    · exact h5.cell (by simp [go_sem])
    · rw [hW]; exact h5.cell (by simp [go_sem])
    · exact h5.cell (by simp [go_sem])
    · exact h5.cell (by simp [go_sem])
    · exact h5.cell (by simp [go_sem])
    · exact h5.cell (by simp [go_sem])
    · exact h5.cell (by simp [go_sem])
    · exact h5.cell (by simp [go_sem])
    · exact h5.cell (by simp [go_sem])
    · exact h5.cell (by simp [go_sem])
    · exact h5.frozen (v := .int .u32 (cutS 32 y.S)) (by simp [go_sem]) (by simp [go_sem])
    · exact h5.frozen (v := .int .u32 (cutS 32 y.S)) (by simp [go_sem]) (by simp [go_sem]))
  have HWW := Lib.hid hW
  clear K h hV G X hob T hS0 hS1 CE0 hW
  go_enter Tryz.func33, Tryz.ntmps33
  go_wp2_with fail
  refine CL.out.mono ?_
  rintro e wo ⟨u, rfl, O, Xo⟩
  rw [HWW.out]
  obtain ⟨bo, fo, cuo, eu, -⟩ := id O
  have HEU := Lib.hid eu
  subst eu
  have HOo := Lib.hid O
  have HXo := Lib.hid Xo
  clear O Xo CL
  obtain ⟨un, hun⟩ : ∃ un, un = ups.length := ⟨_, rfl⟩
  have HUN := Lib.hid hun
  rw [← hun] at HOo ⊢
  clear hun
  go_upto_region 2 with (fail)
  refine settle_wp ?_
  intro w1 hb1
  have ql_0 : w1.cell? ⟨wo.heap.size, 0, none⟩ = some (.int .i64 y.V) := hb1.cell (by simp [go_sem])
  have ql_1 : w1.cell? ⟨wo.heap.size, 1, none⟩ = some (.int .i64 32) := hb1.cell (by simp [go_sem])
  have ql_2 : w1.cell? ⟨wo.heap.size, 2, none⟩ = some (.int .i64 y.C) := hb1.cell (by simp [go_sem])
  have ql_3 : w1.cell? ⟨wo.heap.size, 3, none⟩ = some (.int .i64 y.P) := hb1.cell (by simp [go_sem])
  have ql_4 : w1.cell? ⟨wo.heap.size, 4, none⟩ = some (.int .u64 y.S) := hb1.cell (by simp [go_sem])
  have ql_5 : w1.cell? ⟨wo.heap.size, 5, none⟩ = some (.slice (some ⟨bo, 0, none⟩) un un) := hb1.cell (by simp [go_sem])
  have ql_6 : w1.cell? ⟨wo.heap.size, 6, none⟩ = some (.int .i64 y.Cu) := hb1.cell (by simp [go_sem])
  have ql_7 : w1.cell? ⟨wo.heap.size, 7, none⟩ = some (.int .i64 y.Cl) := hb1.cell (by simp [go_sem])
  have ql_8 : w1.cell? ⟨wo.heap.size, 8, none⟩ = some (.int .i64 y.Ti) := hb1.cell (by simp [go_sem])
  have ql_9 : w1.cell? ⟨wo.heap.size, 9, none⟩ = some (.int .i64 y.Se) := hb1.cell (by simp [go_sem])
  have ql_10 : w1.cell? ⟨wo.heap.size, 10, none⟩ = some (.int .i64 y.Ne) := hb1.cell (by simp [go_sem])
  have ql_11 : w1.cell? ⟨wo.heap.size, 11, none⟩ = some (.int .i64 y.Ma) := hb1.cell (by simp [go_sem])
  have ql_12 : w1.cell? ⟨wo.heap.size, 12, none⟩ = some (.int .i64 y.Sl) := hb1.cell (by simp [go_sem])
  have ql_13 : w1.cell? ⟨wo.heap.size, 13, none⟩ = some (.int .i64 y.m) := hb1.cell (by simp [go_sem])
  have X1 : Ext wo w1 := Ext.trans ((Ext.refl wo).alloc _) hb1
  have HX1 := Lib.hid (HXo.out.trans X1)
  have HO1 := Lib.hid (HOo.out.ext X1)
  clear hb1 X1 HXo HOo
  go_wp2_with fail
  refine (CST.out _ _ HO1.out).mono ?_
  rintro e w2 ⟨rfl, X2⟩
  replace ql_0 := X2.cell ql_0
  replace ql_1 := X2.cell ql_1
  replace ql_2 := X2.cell ql_2
  replace ql_3 := X2.cell ql_3
  replace ql_4 := X2.cell ql_4
  replace ql_5 := X2.cell ql_5
  replace ql_6 := X2.cell ql_6
  replace ql_7 := X2.cell ql_7
  replace ql_8 := X2.cell ql_8
  replace ql_9 := X2.cell ql_9
  replace ql_10 := X2.cell ql_10
  replace ql_11 := X2.cell ql_11
  replace ql_12 := X2.cell ql_12
  replace ql_13 := X2.cell ql_13
  have HX2 := Lib.hid (HX1.out.trans X2)
  have HO2 := Lib.hid (HO1.out.ext X2)
  clear X2 HX1 HO1 CST
  go_wp2_with fail
  refine (ofV32 (cutS 32 y.S) _ hN).mono ?_
  rintro e w' ⟨rfl, rfl⟩
  go_upto_region 5 with (fail)
  have F0 := fun w' (hz : Ext w2 w') => hz.cell ql_0
  have F1 := fun w' (hz : Ext w2 w') => hz.cell ql_1
  have F2 := fun w' (hz : Ext w2 w') => hz.cell ql_2
  have F3 := fun w' (hz : Ext w2 w') => hz.cell ql_3
  have F4 := fun w' (hz : Ext w2 w') => hz.cell ql_4
  have F5 := fun w' (hz : Ext w2 w') => hz.cell ql_5
  have F6 := fun w' (hz : Ext w2 w') => hz.cell ql_6
  have F7 := fun w' (hz : Ext w2 w') => hz.cell ql_7
  have F8 := fun w' (hz : Ext w2 w') => hz.cell ql_8
  have F9 := fun w' (hz : Ext w2 w') => hz.cell ql_9
  have F10 := fun w' (hz : Ext w2 w') => hz.cell ql_10
  have F11 := fun w' (hz : Ext w2 w') => hz.cell ql_11
  have F12 := fun w' (hz : Ext w2 w') => hz.cell ql_12
  have F13 := fun w' (hz : Ext w2 w') => hz.cell ql_13
  refine wp_region_D (fun i => decide (i ≤ 10)) (by kernel_rfl) ?_
  refine take_D (i := 0) (v := ?_) rfl rfl rfl (by kernel_rfl) (by kernel_rfl) (by kernel_rfl) (by kernel_rfl) (by kernel_rfl) (((Ext.refl w2).drew)) ?hyp ?_
  case hyp => intro wz hSw; (try dsimp only at hSw); go_simp <;> with_reducible rfl
  simp only [List.setIfInBounds_toArray, List.set_cons_zero, List.set_cons_succ]
  refine take_D (i := 1) (v := ?_) rfl rfl rfl (by kernel_rfl) (by kernel_rfl) (by kernel_rfl) (by kernel_rfl) (by kernel_rfl) (((Ext.refl w2).drew)) ?hyp ?_
  case hyp => intro wz hSw; (try dsimp only at hSw); go_simp <;> with_reducible rfl
  simp only [List.setIfInBounds_toArray, List.set_cons_zero, List.set_cons_succ]
  refine take_D (i := 2) (v := ?_) rfl rfl rfl (by kernel_rfl) (by kernel_rfl) (by kernel_rfl) (by kernel_rfl) (by kernel_rfl) (((Ext.refl w2).drew)) ?hyp ?_
  case hyp => intro wz hSw; (try dsimp only at hSw); go_simp <;> with_reducible rfl
  simp only [List.setIfInBounds_toArray, List.set_cons_zero, List.set_cons_succ]
  refine take_D (i := 3) (v := ?_) rfl rfl rfl (by kernel_rfl) (by kernel_rfl) (by kernel_rfl) (by kernel_rfl) (by kernel_rfl) (((Ext.refl w2).drew)) ?hyp ?_
  case hyp => intro wz hSw; (try dsimp only at hSw); go_simp <;> with_reducible rfl
  simp only [List.setIfInBounds_toArray, List.set_cons_zero, List.set_cons_succ]
  refine take_D (i := 4) (v := ?_) rfl rfl rfl (by kernel_rfl) (by kernel_rfl) (by kernel_rfl) (by kernel_rfl) (by kernel_rfl) (((Ext.refl w2).drew)) ?hyp ?_
  case hyp => intro wz hSw; (try dsimp only at hSw); go_simp <;> with_reducible rfl
  simp only [List.setIfInBounds_toArray, List.set_cons_zero, List.set_cons_succ]
  refine take_D (i := 5) (v := ?_) rfl rfl rfl (by kernel_rfl) (by kernel_rfl) (by kernel_rfl) (by kernel_rfl) (by kernel_rfl) (((Ext.refl w2).drew)) ?hyp ?_
  case hyp => intro wz hSw; (try dsimp only at hSw); go_simp <;> with_reducible rfl
  simp only [List.setIfInBounds_toArray, List.set_cons_zero, List.set_cons_succ]
  refine take_D (i := 6) (v := ?_) rfl rfl rfl (by kernel_rfl) (by kernel_rfl) (by kernel_rfl) (by kernel_rfl) (by kernel_rfl) (((Ext.refl w2).drew)) ?hyp ?_
  case hyp => intro wz hSw; (try dsimp only at hSw); go_simp <;> with_reducible rfl
  simp only [List.setIfInBounds_toArray, List.set_cons_zero, List.set_cons_succ]
  refine take_D (i := 8) (v := ?_) rfl rfl rfl (by kernel_rfl) (by kernel_rfl) (by kernel_rfl) (by kernel_rfl) (by kernel_rfl) (((Ext.refl w2).drew)) ?hyp ?_
  case hyp => intro wz hSw; (try dsimp only at hSw); go_simp <;> with_reducible rfl
  simp only [List.setIfInBounds_toArray, List.set_cons_zero, List.set_cons_succ]
  refine take_D (i := 9) (v := ?_) rfl rfl rfl (by kernel_rfl) (by kernel_rfl) (by kernel_rfl) (by kernel_rfl) (by kernel_rfl) (((Ext.refl w2).drew)) ?hyp ?_
  case hyp => intro wz hSw; (try dsimp only at hSw); go_simp <;> with_reducible rfl
  simp only [List.setIfInBounds_toArray, List.set_cons_zero, List.set_cons_succ]
  clear F0 F1 F2 F3 F4 F5 F6 F7 F8 F9 F10 F11 F12 F13 ql_0 ql_1 ql_2 ql_3 ql_4 ql_5 ql_6 ql_7 ql_8 ql_9 ql_10 ql_11 ql_12 ql_13
  refine step_D (i := 7) rfl (by kernel_rfl) ?_
  have CE5 := CE.out _ _ (some ⟨bo, 0, none⟩) un un rfl HUN.out (HO2.out.ext (Ext.refl w2).drew) (HX2.out.trans (Ext.refl w2).drew)
  rw [← HUN.out] at CE5
  go_wp2_with fail
  refine CE5.mono ?_
  rintro e w4 ⟨ev, rfl, R4, X4⟩
  obtain ⟨ea, ec, eev, -⟩ := R4.ints.form
  subst eev
  have Y4 := (Ext.refl w2).drew.trans X4
  have HX4 := Lib.hid (HX2.out.trans Y4)
  have HO4 := Lib.hid (HO2.out.ext Y4)
  have HR4 := Lib.hid (R4.lower (Nat.zero_le _))
  go_wp2
  refine ⟨Y4, ?_⟩
  try simp only [List.setIfInBounds_toArray, List.set_cons_zero, List.set_cons_succ]
  refine take_D (i := 10) (v := ?_) rfl rfl rfl (by kernel_rfl) (by kernel_rfl) (by kernel_rfl) (by kernel_rfl) (by kernel_rfl) (Y4) ?hyp ?_
  case hyp => intro wz hSw; (try dsimp only at hSw); go_simp <;> with_reducible rfl
  simp only [List.setIfInBounds_toArray, List.set_cons_zero, List.set_cons_succ]
  refine rest_D (n := 11) rfl rfl (fun j hj => by simp; omega) (by kernel_rfl) ?_
  have HF := Lib.hid (fun w5 h5 => HFIN.out w4 w5 _ _ HX4.out HO4.out HR4.out h5)
  clear R4 X4 Y4 HX2 HO2 CE CE5 HFIN HX4 HO4 HR4
  go_wp2
  refine off_normal ?_
  go_wp2
  first
    | exact HF.out _ (Ext.refl _)
    | (go_ret; exact HF.out _ (Ext.refl _))
theorem ofV64 (a : Int) (w : World) (h : 0 ≤ a ∧ a < 18446744073709551616) : Calls Tryz.prog 64 #[.int .u64 a] w fun e w' => e = .returned (.int .u64 a) ∧ w = w' := by
  first
    | exact ofU64 a w h.1 h.2
    | (have h1 := ofU64 a w
       rwa [Int.emod_eq_of_lt h.1 h.2] at h1)
set_option maxRecDepth 100000 in
/-- none of another variant's board -/
theorem soNew64_no (b g : Nat) (y : LY) (f : Nat → Int) (lv : Value) (log : List Acc) (ups : List (List Int)) (pl : Value) (w : World) (K : BK y ups) (h : BW w 152 b g y f lv log ups) (hV : ¬ y.V = 1) :
    Calls Tryz.prog 43 #[.pointer (some ⟨b, 0, none⟩), pl] w fun e w' => e = .returned (.pointer none) ∧ Ext w w' := by
  have CL := Lib.hid (LayoutO64 b g y f lv log ups w h.B h.O.lists K.ll K.hn K.ck K.lay)
  have d0 : (y.V != 1) = true := by simpa using hV
  clear K h hV
  go_enter Tryz.func43, Tryz.ntmps43
  go_wp2_with fail
  refine CL.out.mono ?_
  rintro e wo ⟨u, rfl, O, Xo⟩
  obtain ⟨bo, fo, cuo, eu, -⟩ := id O
  subst eu
  have HX := Lib.hid (Xo.alloc (.cells #[.int .i64 0] 0))
  have HXo := Lib.hid Xo
  clear O Xo CL HX
  go_upto_region 2 with (fail)
  refine settle_wp ?_
  intro w1 hb1
  have q0 : w1.cell? ⟨wo.heap.size, 0, none⟩ = some (.int .i64 y.V) := hb1.cell (by simp [go_sem])
  have HX1 := Lib.hid (HXo.out.trans (Ext.trans ((Ext.refl wo).alloc _) hb1))
  clear hb1
  go_wp2
  go_ret
  exact ⟨rfl, HX1.out⟩
set_option maxRecDepth 100000 in
/-- a board's sequencer -/
theorem soNew64_yes (W0 : World) (b g lb : Nat) (y : LY) (f : Nat → Int) (lv vL : Value) (log : List Acc) (EL : List Ev) (ups : List (List Int)) (w : World) (K : BK y ups) (hW : y.W = 64) (h : BW w 152 b g y f lv log ups) (hV : y.V = 1) (G : LG W0 w lb vL EL) (X : Ext W0 w) (hob : ∀ k, Own b g lv k → W0.heap.size ≤ k) (T : Tab w) (hS0 : 0 ≤ y.S) (hS1 : y.S < 18446744073709551616) :
    Calls Tryz.prog 43 #[.pointer (some ⟨b, 0, none⟩), .pointer (some ⟨lb, 0, none⟩)] w fun e w' => ∃ sb su ev, e = .returned (.pointer (some ⟨sb, 0, none⟩)) ∧ ST64 W0 w' b g sb lb y f lv log ups su ev (endsG ups) (cutS 64 y.S) (cutS 64 y.S) vL EL ∧ Ext w w' ∧ w.heap.size ≤ sb := by
  have CL := Lib.hid (LayoutO64 b g y f lv log ups w h.B h.O.lists K.ll K.hn K.ck K.lay)
  have d0 : (y.V != 1) = false := by simpa using hV
  have hN : 0 ≤ cutS 64 y.S ∧ cutS 64 y.S < 18446744073709551616 := by
    unfold cutS
    first
      | (rw [if_pos rfl]; omega)
      | (rw [if_neg (by decide)]; omega)
  have CST := Lib.hid (fun w' u (O : OwnL w' u ups) => cStart_ok y.V y.W y.C y.P y.S u ups w' O.lists K.ll K.hn K.ck hS0 hS1)
  rw [hW] at CST
  have CE0 := fun w' u (a : Option Addr) (n cap : Nat) (e : u = .slice a n cap) (hn : n = ups.length) (O : OwnL w' u ups) (hx : Ext w w') => gtEnds0 y.V y.W y.C y.P y.S a cap ups y.Cu y.Cl y.Ti y.Se y.Ne y.Ma y.Sl y.m w' (by rw [← hn, ← e]; exact O.lists) K.ll (by have := K.num.n6; have := K.n; omega) (T.ext hx) (by have := endsG_len ups; have := K.num.n6; have := K.n; omega)
  rw [plc_id' (endsG_in' ups), hW] at CE0
  have CE := Lib.hid CE0
  have HFIN : Hid (∀ (w4 w5 : World) (su ev : Value), Ext w w4 → OwnL w4 su ups → RI w4 0 ev (endsG ups) → Ext (w4.alloc (.cells #[.pointer (some ⟨b, 0, none⟩), .pointer (some ⟨lb, 0, none⟩), .int .i64 y.V, .int .i64 64, .int .i64 y.C, .int .i64 y.P, .int .u64 y.S, su, .int .i64 y.Cu, ev, .int .u64 (cutS 64 y.S), .int .u64 (cutS 64 y.S)] 154)) w5 → ∃ sb su ev, Ending.returned (.pointer (some ⟨w4.heap.size, 0, none⟩)) = .returned (.pointer (some ⟨sb, 0, none⟩)) ∧ ST64 W0 w5 b g sb lb y f lv log ups su ev (endsG ups) (cutS 64 y.S) (cutS 64 y.S) vL EL ∧ Ext w w5 ∧ w.heap.size ≤ sb) := Lib.hid (fun w4 w5 su ev hx hO hI h5 => by
    have X5 : Ext w4 w5 := Ext.trans ((Ext.refl w4).alloc _) h5
    have tg : Tag w5 w4.heap.size 154 := (Tag.new w4 _ _).ext h5
    refine ⟨w4.heap.size, su, ev, rfl, ⟨h.ext (hx.trans X5), ⟨?_, ?_, ?_, ?_, ?_, ?_, ?_, ?_, ?_, ?_, ?_, ?_, ?_, ?_, tg⟩, G.ext (hx.trans X5), X.trans (hx.trans X5), hob, Nat.le_trans X.size hx.size, hI.ext X5, hO.ext X5⟩, hx.trans X5, hx.size⟩
    · exact h5.cell (by simp [go_sem])
    · exact h5.cell (by simp [go_sem])
    · exact h5.cell (by simp [go_sem])
    · rw [hW]; exact h5.cell (by simp [go_sem])
    · exact h5.cell (by simp [go_sem])
    · exact h5.cell (by simp [go_sem])
    · exact h5.cell (by simp [go_sem])
    · exact h5.cell (by simp [go_sem])
    · exact h5.cell (by simp [go_sem])
    · exact h5.cell (by simp [go_sem])
    · exact h5.cell (by simp [go_sem])
    · exact h5.cell (by simp [go_sem])
    · exact h5.frozen (v := .int .u64 (cutS 64 y.S)) (by simp [go_sem]) (by simp [go_sem])
    · exact h5.frozen (v := .int .u64 (cutS 64 y.S)) (by simp [go_sem]) (by simp [go_sem]))
  have HWW := Lib.hid hW
  clear K h hV G X hob T hS0 hS1 CE0 hW
  go_enter Tryz.func43, Tryz.ntmps43
  go_wp2_with fail
  refine CL.out.mono ?_
  rintro e wo ⟨u, rfl, O, Xo⟩
  rw [HWW.out]
  obtain ⟨bo, fo, cuo, eu, -⟩ := id O
  have HEU := Lib.hid eu
  subst eu
  have HOo := Lib.hid O
  have HXo := Lib.hid Xo
  clear O Xo CL
  obtain ⟨un, hun⟩ : ∃ un, un = ups.length := ⟨_, rfl⟩
  have HUN := Lib.hid hun
  rw [← hun] at HOo ⊢
  clear hun
  go_upto_region 2 with (fail)
  refine settle_wp ?_
  intro w1 hb1
  have ql_0 : w1.cell? ⟨wo.heap.size, 0, none⟩ = some (.int .i64 y.V) := hb1.cell (by simp [go_sem])
  have ql_1 : w1.cell? ⟨wo.heap.size, 1, none⟩ = some (.int .i64 64) := hb1.cell (by simp [go_sem])
  have ql_2 : w1.cell? ⟨wo.heap.size, 2, none⟩ = some (.int .i64 y.C) := hb1.cell (by simp [go_sem])
  have ql_3 : w1.cell? ⟨wo.heap.size, 3, none⟩ = some (.int .i64 y.P) := hb1.cell (by simp [go_sem])
  have ql_4 : w1.cell? ⟨wo.heap.size, 4, none⟩ = some (.int .u64 y.S) := hb1.cell (by simp [go_sem])
  have ql_5 : w1.cell? ⟨wo.heap.size, 5, none⟩ = some (.slice (some ⟨bo, 0, none⟩) un un) := hb1.cell (by simp [go_sem])
  have ql_6 : w1.cell? ⟨wo.heap.size, 6, none⟩ = some (.int .i64 y.Cu) := hb1.cell (by simp [go_sem])
  have ql_7 : w1.cell? ⟨wo.heap.size, 7, none⟩ = some (.int .i64 y.Cl) := hb1.cell (by simp [go_sem])
  have ql_8 : w1.cell? ⟨wo.heap.size, 8, none⟩ = some (.int .i64 y.Ti) := hb1.cell (by simp [go_sem])
  have ql_9 : w1.cell? ⟨wo.heap.size, 9, none⟩ = some (.int .i64 y.Se) := hb1.cell (by simp [go_sem])
  have ql_10 : w1.cell? ⟨wo.heap.size, 10, none⟩ = some (.int .i64 y.Ne) := hb1.cell (by simp [go_sem])
  have ql_11 : w1.cell? ⟨wo.heap.size, 11, none⟩ = some (.int .i64 y.Ma) := hb1.cell (by simp [go_sem])
  have ql_12 : w1.cell? ⟨wo.heap.size, 12, none⟩ = some (.int .i64 y.Sl) := hb1.cell (by simp [go_sem])
  have ql_13 : w1.cell? ⟨wo.heap.size, 13, none⟩ = some (.int .i64 y.m) := hb1.cell (by simp [go_sem])
  have X1 : Ext wo w1 := Ext.trans ((Ext.refl wo).alloc _) hb1
  have HX1 := Lib.hid (HXo.out.trans X1)
  have HO1 := Lib.hid (HOo.out.ext X1)
  clear hb1 X1 HXo HOo
  go_wp2_with fail
  refine (CST.out _ _ HO1.out).mono ?_
  rintro e w2 ⟨rfl, X2⟩
  replace ql_0 := X2.cell ql_0
  replace ql_1 := X2.cell ql_1
  replace ql_2 := X2.cell ql_2
  replace ql_3 := X2.cell ql_3
  replace ql_4 := X2.cell ql_4
  replace ql_5 := X2.cell ql_5
  replace ql_6 := X2.cell ql_6
  replace ql_7 := X2.cell ql_7
  replace ql_8 := X2.cell ql_8
  replace ql_9 := X2.cell ql_9
  replace ql_10 := X2.cell ql_10
  replace ql_11 := X2.cell ql_11
  replace ql_12 := X2.cell ql_12
  replace ql_13 := X2.cell ql_13
  have HX2 := Lib.hid (HX1.out.trans X2)
  have HO2 := Lib.hid (HO1.out.ext X2)
  clear X2 HX1 HO1 CST
  go_wp2_with fail
  refine (ofV64 (cutS 64 y.S) _ hN).mono ?_
  rintro e w' ⟨rfl, rfl⟩
  go_upto_region 5 with (fail)
  have F0 := fun w' (hz : Ext w2 w') => hz.cell ql_0
  have F1 := fun w' (hz : Ext w2 w') => hz.cell ql_1
  have F2 := fun w' (hz : Ext w2 w') => hz.cell ql_2
  have F3 := fun w' (hz : Ext w2 w') => hz.cell ql_3
  have F4 := fun w' (hz : Ext w2 w') => hz.cell ql_4
  have F5 := fun w' (hz : Ext w2 w') => hz.cell ql_5
  have F6 := fun w' (hz : Ext w2 w') => hz.cell ql_6
  have F7 := fun w' (hz : Ext w2 w') => hz.cell ql_7
  have F8 := fun w' (hz : Ext w2 w') => hz.cell ql_8
  have F9 := fun w' (hz : Ext w2 w') => hz.cell ql_9
  have F10 := fun w' (hz : Ext w2 w') => hz.cell ql_10
  have F11 := fun w' (hz : Ext w2 w') => hz.cell ql_11
  have F12 := fun w' (hz : Ext w2 w') => hz.cell ql_12
  have F13 := fun w' (hz : Ext w2 w') => hz.cell ql_13
  refine wp_region_D (fun i => decide (i ≤ 10)) (by kernel_rfl) ?_
  refine take_D (i := 0) (v := ?_) rfl rfl rfl (by kernel_rfl) (by kernel_rfl) (by kernel_rfl) (by kernel_rfl) (by kernel_rfl) (((Ext.refl w2).drew)) ?hyp ?_
  case hyp => intro wz hSw; (try dsimp only at hSw); go_simp <;> with_reducible rfl
  simp only [List.setIfInBounds_toArray, List.set_cons_zero, List.set_cons_succ]
  refine take_D (i := 1) (v := ?_) rfl rfl rfl (by kernel_rfl) (by kernel_rfl) (by kernel_rfl) (by kernel_rfl) (by kernel_rfl) (((Ext.refl w2).drew)) ?hyp ?_
  case hyp => intro wz hSw; (try dsimp only at hSw); go_simp <;> with_reducible rfl
  simp only [List.setIfInBounds_toArray, List.set_cons_zero, List.set_cons_succ]
  refine take_D (i := 2) (v := ?_) rfl rfl rfl (by kernel_rfl) (by kernel_rfl) (by kernel_rfl) (by kernel_rfl) (by kernel_rfl) (((Ext.refl w2).drew)) ?hyp ?_
  case hyp => intro wz hSw; (try dsimp only at hSw); go_simp <;> with_reducible rfl
  simp only [List.setIfInBounds_toArray, List.set_cons_zero, List.set_cons_succ]
  refine take_D (i := 3) (v := ?_) rfl rfl rfl (by kernel_rfl) (by kernel_rfl) (by kernel_rfl) (by kernel_rfl) (by kernel_rfl) (((Ext.refl w2).drew)) ?hyp ?_
  case hyp => intro wz hSw; (try dsimp only at hSw); go_simp <;> with_reducible rfl
  simp only [List.setIfInBounds_toArray, List.set_cons_zero, List.set_cons_succ]
  refine take_D (i := 4) (v := ?_) rfl rfl rfl (by kernel_rfl) (by kernel_rfl) (by kernel_rfl) (by kernel_rfl) (by kernel_rfl) (((Ext.refl w2).drew)) ?hyp ?_
  case hyp => intro wz hSw; (try dsimp only at hSw); go_simp <;> with_reducible rfl
  simp only [List.setIfInBounds_toArray, List.set_cons_zero, List.set_cons_succ]
  refine take_D (i := 5) (v := ?_) rfl rfl rfl (by kernel_rfl) (by kernel_rfl) (by kernel_rfl) (by kernel_rfl) (by kernel_rfl) (((Ext.refl w2).drew)) ?hyp ?_
  case hyp => intro wz hSw; (try dsimp only at hSw); go_simp <;> with_reducible rfl
  simp only [List.setIfInBounds_toArray, List.set_cons_zero, List.set_cons_succ]
  refine take_D (i := 6) (v := ?_) rfl rfl rfl (by kernel_rfl) (by kernel_rfl) (by kernel_rfl) (by kernel_rfl) (by kernel_rfl) (((Ext.refl w2).drew)) ?hyp ?_
  case hyp => intro wz hSw; (try dsimp only at hSw); go_simp <;> with_reducible rfl
  simp only [List.setIfInBounds_toArray, List.set_cons_zero, List.set_cons_succ]
  refine take_D (i := 8) (v := ?_) rfl rfl rfl (by kernel_rfl) (by kernel_rfl) (by kernel_rfl) (by kernel_rfl) (by kernel_rfl) (((Ext.refl w2).drew)) ?hyp ?_
  case hyp => intro wz hSw; (try dsimp only at hSw); go_simp <;> with_reducible rfl
  simp only [List.setIfInBounds_toArray, List.set_cons_zero, List.set_cons_succ]
  refine take_D (i := 9) (v := ?_) rfl rfl rfl (by kernel_rfl) (by kernel_rfl) (by kernel_rfl) (by kernel_rfl) (by kernel_rfl) (((Ext.refl w2).drew)) ?hyp ?_
  case hyp => intro wz hSw; (try dsimp only at hSw); go_simp <;> with_reducible rfl
  simp only [List.setIfInBounds_toArray, List.set_cons_zero, List.set_cons_succ]
  clear F0 F1 F2 F3 F4 F5 F6 F7 F8 F9 F10 F11 F12 F13 ql_0 ql_1 ql_2 ql_3 ql_4 ql_5 ql_6 ql_7 ql_8 ql_9 ql_10 ql_11 ql_12 ql_13
  refine step_D (i := 7) rfl (by kernel_rfl) ?_
  have CE5 := CE.out _ _ (some ⟨bo, 0, none⟩) un un rfl HUN.out (HO2.out.ext (Ext.refl w2).drew) (HX2.out.trans (Ext.refl w2).drew)
  rw [← HUN.out] at CE5
  go_wp2_with fail
  refine CE5.mono ?_
  rintro e w4 ⟨ev, rfl, R4, X4⟩
  obtain ⟨ea, ec, eev, -⟩ := R4.ints.form
  subst eev
  have Y4 := (Ext.refl w2).drew.trans X4
  have HX4 := Lib.hid (HX2.out.trans Y4)
  have HO4 := Lib.hid (HO2.out.ext Y4)
  have HR4 := Lib.hid (R4.lower (Nat.zero_le _))
  go_wp2
  refine ⟨Y4, ?_⟩
  try simp only [List.setIfInBounds_toArray, List.set_cons_zero, List.set_cons_succ]
  refine take_D (i := 10) (v := ?_) rfl rfl rfl (by kernel_rfl) (by kernel_rfl) (by kernel_rfl) (by kernel_rfl) (by kernel_rfl) (Y4) ?hyp ?_
  case hyp => intro wz hSw; (try dsimp only at hSw); go_simp <;> with_reducible rfl
  simp only [List.setIfInBounds_toArray, List.set_cons_zero, List.set_cons_succ]
  refine rest_D (n := 11) rfl rfl (fun j hj => by simp; omega) (by kernel_rfl) ?_
  have HF := Lib.hid (fun w5 h5 => HFIN.out w4 w5 _ _ HX4.out HO4.out HR4.out h5)
  clear R4 X4 Y4 HX2 HO2 CE CE5 HFIN HX4 HO4 HR4
  go_wp2
  refine off_normal ?_
  go_wp2
  first
    | exact HF.out _ (Ext.refl _)
    | (go_ret; exact HF.out _ (Ext.refl _))
end Go.Proofs.YtkmfamidahlgiaaGreatDoor

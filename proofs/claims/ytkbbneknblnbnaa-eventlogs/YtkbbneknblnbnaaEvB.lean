/- Log.Fill. -/
import Derived.Test.YtkbbneknblnbnaaEvO
namespace Go.Proofs.Ytkbbneknblnbnaa
open Go.RowKit
set_option linter.unusedVariables false
set_option linter.unusedSimpArgs false
set_option maxHeartbeats 4000000
attribute [local go_sem] later_cell later_frozen later_const
/-- seven cells written -/
def w7 (w : World) (g o : Nat) (q0 q1 q2 q3 q4 q5 q6 : Value) : World := ((((((w.setCell ⟨g, o, none⟩ q0).setCell ⟨g, o + 1, none⟩ q1).setCell ⟨g, o + 2, none⟩ q2).setCell ⟨g, o + 3, none⟩ q3).setCell ⟨g, o + 4, none⟩ q4).setCell ⟨g, o + 5, none⟩ q5).setCell ⟨g, o + 6, none⟩ q6
theorem w7_but (w : World) (g o : Nat) (q0 q1 q2 q3 q4 q5 q6 : Value) : But (· = g) w (w7 w g o q0 q1 q2 q3 q4 q5 q6) :=
  ((((((but_setCell w ⟨g, o, none⟩ q0).trans (but_setCell _ ⟨g, o + 1, none⟩ q1)).trans (but_setCell _ ⟨g, o + 2, none⟩ q2)).trans (but_setCell _ ⟨g, o + 3, none⟩ q3)).trans (but_setCell _ ⟨g, o + 4, none⟩ q4)).trans (but_setCell _ ⟨g, o + 5, none⟩ q5)).trans (but_setCell _ ⟨g, o + 6, none⟩ q6)
theorem rowE_set7 : ∀ (l : List (Ev × Value)) (k : Nat) (x' : Ev) (u' : Value) (hk : k < l.length),
    (((((((rowE l).set (k * 7) (.int .i64 x'.k)).set (k * 7 + 1) (.int .i64 x'.t)).set (k * 7 + 2) (.int .i64 x'.o)).set (k * 7 + 3) (.int .i64 x'.n)).set (k * 7 + 4) (.int .u64 x'.p)).set (k * 7 + 5) (.int .i64 x'.c)).set (k * 7 + 6) u' = rowE (l.set k (x', u'))
  | [], k, x', u', hk => by simp at hk
  | p :: l, 0, x', u', hk => by
    show (((((((evV p.1 p.2 ++ rowE l).set _ _).set _ _).set _ _).set _ _).set _ _).set _ _).set _ _ = evV x' u' ++ rowE l
    simp [evV]
  | p :: l, k + 1, x', u', hk => by
    show (((((((evV p.1 p.2 ++ rowE l).set _ _).set _ _).set _ _).set _ _).set _ _).set _ _).set _ _ = evV p.1 p.2 ++ rowE (l.set k (x', u'))
    have e : ∀ (A : List Value) (j : Nat) (q : Value), (evV p.1 p.2 ++ A).set ((k + 1) * 7 + j) q = evV p.1 p.2 ++ A.set (k * 7 + j) q := fun A j q => by
      rw [List.set_append_right _ _ (by simp [evV]; omega)]
      rw [show (k + 1) * 7 + j - (evV p.1 p.2).length = k * 7 + j by simp [evV]; omega]
    have e0 : ∀ (A : List Value) (q : Value), (evV p.1 p.2 ++ A).set ((k + 1) * 7) q = evV p.1 p.2 ++ A.set (k * 7) q := fun A q => e A 0 q
    rw [e0, e, e, e, e, e, e, rowE_set7 l k x' u' (by simpa using hk)]
theorem RE.put7 {w : World} {B : Nat} {v : Value} {L : List Ev} (h : RE w B v L) {k : Nat} (hk : k < L.length) {g cap : Nat} (ev : v = .slice (some ⟨g, 0, none⟩) L.length cap) (x' : Ev) (u' : Value) (hu : Dat w B u' x'.d) :
    RE (w7 w g (k * 7) (.int .i64 x'.k) (.int .i64 x'.t) (.int .i64 x'.o) (.int .i64 x'.n) (.int .u64 x'.p) (.int .i64 x'.c) u') B v (L.set k x') := by
  have hlt := h.lt (k := g) (by rw [ev]; rfl)
  obtain ⟨l, e, hr, hd⟩ := h
  have hll : l.length = L.length := by rw [← e, List.length_map]
  have hb := w7_but w g (k * 7) (.int .i64 x'.k) (.int .i64 x'.t) (.int .i64 x'.o) (.int .i64 x'.n) (.int .u64 x'.p) (.int .i64 x'.c) u'
  have hS : ∀ q, q = g → q < w.heap.size → B ≤ q ∧ TagE w q 31 := fun q hq _ => by subst hq; exact ⟨hlt.1, hlt.2.2⟩
  refine ⟨l.set k (x', u'), by rw [List.map_set, e], ?_, ?_⟩
  · rw [ev, ← hll] at hr ⊢
    have h1 := (hr.stored (k * 7) (.int .i64 x'.k)).1
    have h2 := (h1.stored (k * 7 + 1) (.int .i64 x'.t)).1
    have h3 := (h2.stored (k * 7 + 2) (.int .i64 x'.o)).1
    have h4 := (h3.stored (k * 7 + 3) (.int .i64 x'.n)).1
    have h5 := (h4.stored (k * 7 + 4) (.int .u64 x'.p)).1
    have h6 := (h5.stored (k * 7 + 5) (.int .i64 x'.c)).1
    have h7 := (h6.stored (k * 7 + 6) u').1
    rw [rowE_set7 l k x' u' (by omega)] at h7
    rw [List.length_set]
    exact h7
  · intro p hp
    rcases List.mem_or_eq_of_mem_set hp with hp | rfl
    · exact (hd p hp).but hb hS
    · exact hu.but hb hS
/-- a log whose row is written -/
theorem LG.put7 {W w : World} {lb : Nat} {v : Value} {L : List Ev} (h : LG W w lb v L) {k : Nat} (hk : k < L.length) {g cap : Nat} (ev : v = .slice (some ⟨g, 0, none⟩) L.length cap) (x' : Ev) (u' : Value) (hu : Dat w W.heap.size u' x'.d) (hx : Ext W w) :
    LG W (w7 w g (k * 7) (.int .i64 x'.k) (.int .i64 x'.t) (.int .i64 x'.o) (.int .i64 x'.n) (.int .u64 x'.p) (.int .i64 x'.c) u') lb v (L.set k x') ∧ Ext W (w7 w g (k * 7) (.int .i64 x'.k) (.int .i64 x'.t) (.int .i64 x'.o) (.int .i64 x'.n) (.int .u64 x'.p) (.int .i64 x'.c) u') := by
  have hlt := h.r.lt (k := g) (by rw [ev]; rfl)
  have hb := w7_but w g (k * 7) (.int .i64 x'.k) (.int .i64 x'.t) (.int .i64 x'.o) (.int .i64 x'.n) (.int .u64 x'.p) (.int .i64 x'.c) u'
  have nb : ¬ lb = g := fun e => by subst e; exact hlt.2.2.ne h.t (by decide) rfl
  refine ⟨⟨hb.cell h.c nb, hb.frozen h.c h.z nb, h.t.but hb nb, h.b, h.r.put7 hk ev x' u' hu⟩, hb.ext hx fun i hi => ?_⟩
  have : i = g := hi
  omega
theorem eFill_no (W w : World) (lb : Nat) (v : Value) (L : List Ev) (n : Int) (dv : Value) (h : LG W w lb v L) (hn : n < 0 ∨ (L.length : Int) ≤ n) : Calls Try.prog 12 #[.pointer (some ⟨lb, 0, none⟩), .int .i64 n, dv] w fun r w' => r = .returned (.bool false) ∧ w = w' := by
  have CL := Lib.hid (eLen W w lb v L h)
  clear h
  generalize L.length = z at *
  by_cases h0 : n < 0
  · go_enter Try.func12, Try.ntmps12
    go_wp2
    go_ret
    exact ⟨rfl, rfl⟩
  · have h1 : (z : Int) ≤ n := by omega
    go_enter Try.func12, Try.ntmps12
    go_wp2_with fail
    refine CL.out.mono ?_
    rintro e w' ⟨rfl, rfl⟩
    go_wp2
    go_ret
    exact ⟨rfl, rfl⟩
def FillDoes (W w0 : World) (lb : Nat) (v : Value) (L : List Ev) (e : Ending) (w' : World) : Prop := e = .returned (.bool true) ∧ LG W w' lb v L ∧ Ext W w' ∧ But (fun q => v.ownBlock = some q) w0 w'
set_option maxRecDepth 100000 in
theorem eFill {B : Nat} (W w : World) (lb : Nat) (v : Value) (L : List Ev) (k : Nat) (dv : Value) (d : List Int) (h : LG W w lb v L) (hx : Ext W w) (hk : k < L.length) (hu : Dat w B dv d) (hd : d.length ≤ 900000) : Calls Try.prog 12 #[.pointer (some ⟨lb, 0, none⟩), .int .i64 k, dv] w (FillDoes W w lb v (L.set k { L[k] with d := d })) := by
  have CL := Lib.hid (eLen W w lb v L h)
  obtain ⟨g, cap, u, ev, A, zf, hBg, tg, -⟩ := h.r.nth hk
  have hfin := fun u' w' (hz : Ext w w') (hJ : Dat w' W.heap.size u' d) => (h.ext hz).put7 hk ev { L[k] with d := d } u' hJ (hx.trans hz)
  have c := h.c
  subst ev
  obtain ⟨ua, uc, eu⟩ := A.d.len
  subst eu
  obtain ⟨da, dc, ed⟩ := hu.len
  subst ed
  have HG : Hid (∀ u' w', Ext w w' → Dat w' W.heap.size u' d → FillDoes W w lb (.slice (some ⟨g, 0, none⟩) L.length cap) (L.set k { L[k] with d := d }) (.returned (.bool true)) (w7 w' g (k * 7) (.int .i64 L[k].k) (.int .i64 L[k].t) (.int .i64 L[k].o) (.int .i64 L[k].n) (.int .u64 L[k].p) (.int .i64 L[k].c) u')) := Lib.hid (fun u' w' h1 h2 => ⟨rfl, (hfin u' w' h1 h2).1, (hfin u' w' h1 h2).2, (h1.but _).trans ((w7_but w' g (k * 7) _ _ _ _ _ _ _).mono (fun q _ hq => by rw [show q = g from hq]; rfl))⟩)
  generalize FillDoes W w lb (.slice (some ⟨g, 0, none⟩) L.length cap) (L.set k { L[k] with d := d }) = G at *
  have CW := Lib.hid (fun w' (hz : Ext w w') => eWith L[k] (.slice ua L[k].d.length uc) (.slice da d.length dc) d w' (hu.ext hz) (by omega))
  unfold evA at CW
  have hk1 : (k : Int) < (L.length : Int) := by omega
  have hk2 : ¬ (L.length : Int) ≤ (k : Int) := by omega
  have HA := Lib.hid A
  have HZ := Lib.hid zf
  clear hfin h hx hu A zf hBg tg
  generalize L[k] = x at *
  generalize hul : x.d.length = ul at *
  generalize hdl : d.length = dl at *
  have HDL := Lib.hid hdl
  clear hdl
  have FL := fun w' (hz : Ext w w') => hz.cell c
  have F0 := fun w' (hz : Ext w w') => hz.cell HA.out.c0
  have F1 := fun w' (hz : Ext w w') => hz.cell HA.out.c1
  have F2 := fun w' (hz : Ext w w') => hz.cell HA.out.c2
  have F3 := fun w' (hz : Ext w w') => hz.cell HA.out.c3
  have F4 := fun w' (hz : Ext w w') => hz.cell HA.out.c4
  have F5 := fun w' (hz : Ext w w') => hz.cell HA.out.c5
  have F6 := fun w' (hz : Ext w w') => hz.cell HA.out.c6
  go_enter Try.func12, Try.ntmps12
  go_wp2_with fail
  refine CL.out.mono ?_
  rintro e w' ⟨rfl, rfl⟩
  go_upto_region 3 with (fail)
  refine wp_region_D (fun i => decide (i ≤ 13)) (by kernel_rfl) ?_
  refine take_D (i := 0) (v := ?_) rfl rfl rfl (by kernel_rfl) (by kernel_rfl) (by kernel_rfl) (by kernel_rfl) (by kernel_rfl) ((Ext.refl w).drew) ?hyp ?_
  case hyp => intro wz hSw; (try dsimp only at hSw); go_simp <;> with_reducible rfl
  simp only [List.setIfInBounds_toArray, List.set_cons_zero, List.set_cons_succ]
  refine take_D (i := 1) (v := ?_) rfl rfl rfl (by kernel_rfl) (by kernel_rfl) (by kernel_rfl) (by kernel_rfl) (by kernel_rfl) ((Ext.refl w).drew) ?hyp ?_
  case hyp => intro wz hSw; (try dsimp only at hSw); go_simp <;> with_reducible rfl
  simp only [List.setIfInBounds_toArray, List.set_cons_zero, List.set_cons_succ]
  refine take_D (i := 2) (v := ?_) rfl rfl rfl (by kernel_rfl) (by kernel_rfl) (by kernel_rfl) (by kernel_rfl) (by kernel_rfl) ((Ext.refl w).drew) ?hyp ?_
  case hyp => intro wz hSw; (try dsimp only at hSw); go_simp <;> with_reducible rfl
  simp only [List.setIfInBounds_toArray, List.set_cons_zero, List.set_cons_succ]
  refine take_D (i := 3) (v := ?_) rfl rfl rfl (by kernel_rfl) (by kernel_rfl) (by kernel_rfl) (by kernel_rfl) (by kernel_rfl) ((Ext.refl w).drew) ?hyp ?_
  case hyp => intro wz hSw; (try dsimp only at hSw); go_simp <;> with_reducible rfl
  simp only [List.setIfInBounds_toArray, List.set_cons_zero, List.set_cons_succ]
  refine take_D (i := 4) (v := ?_) rfl rfl rfl (by kernel_rfl) (by kernel_rfl) (by kernel_rfl) (by kernel_rfl) (by kernel_rfl) ((Ext.refl w).drew) ?hyp ?_
  case hyp => intro wz hSw; (try dsimp only at hSw); go_simp <;> with_reducible rfl
  simp only [List.setIfInBounds_toArray, List.set_cons_zero, List.set_cons_succ]
  refine take_D (i := 5) (v := ?_) rfl rfl rfl (by kernel_rfl) (by kernel_rfl) (by kernel_rfl) (by kernel_rfl) (by kernel_rfl) ((Ext.refl w).drew) ?hyp ?_
  case hyp => intro wz hSw; (try dsimp only at hSw); go_simp <;> with_reducible rfl
  simp only [List.setIfInBounds_toArray, List.set_cons_zero, List.set_cons_succ]
  refine take_D (i := 6) (v := ?_) rfl rfl rfl (by kernel_rfl) (by kernel_rfl) (by kernel_rfl) (by kernel_rfl) (by kernel_rfl) ((Ext.refl w).drew) ?hyp ?_
  case hyp => intro wz hSw; (try dsimp only at hSw); go_simp <;> with_reducible rfl
  simp only [List.setIfInBounds_toArray, List.set_cons_zero, List.set_cons_succ]
  refine take_D (i := 7) (v := ?_) rfl rfl rfl (by kernel_rfl) (by kernel_rfl) (by kernel_rfl) (by kernel_rfl) (by kernel_rfl) ((Ext.refl w).drew) ?hyp ?_
  case hyp => intro wz hSw; (try dsimp only at hSw); go_simp <;> with_reducible rfl
  simp only [List.setIfInBounds_toArray, List.set_cons_zero, List.set_cons_succ]
  refine take_D (i := 8) (v := ?_) rfl rfl rfl (by kernel_rfl) (by kernel_rfl) (by kernel_rfl) (by kernel_rfl) (by kernel_rfl) ((Ext.refl w).drew) ?hyp ?_
  case hyp => intro wz hSw; (try dsimp only at hSw); go_simp <;> with_reducible rfl
  simp only [List.setIfInBounds_toArray, List.set_cons_zero, List.set_cons_succ]
  refine take_D (i := 9) (v := ?_) rfl rfl rfl (by kernel_rfl) (by kernel_rfl) (by kernel_rfl) (by kernel_rfl) (by kernel_rfl) ((Ext.refl w).drew) ?hyp ?_
  case hyp => intro wz hSw; (try dsimp only at hSw); go_simp <;> with_reducible rfl
  simp only [List.setIfInBounds_toArray, List.set_cons_zero, List.set_cons_succ]
  refine take_D (i := 10) (v := ?_) rfl rfl rfl (by kernel_rfl) (by kernel_rfl) (by kernel_rfl) (by kernel_rfl) (by kernel_rfl) ((Ext.refl w).drew) ?hyp ?_
  case hyp => intro wz hSw; (try dsimp only at hSw); go_simp <;> with_reducible rfl
  simp only [List.setIfInBounds_toArray, List.set_cons_zero, List.set_cons_succ]
  refine take_D (i := 11) (v := ?_) rfl rfl rfl (by kernel_rfl) (by kernel_rfl) (by kernel_rfl) (by kernel_rfl) (by kernel_rfl) ((Ext.refl w).drew) ?hyp ?_
  case hyp => intro wz hSw; (try dsimp only at hSw); go_simp <;> with_reducible rfl
  simp only [List.setIfInBounds_toArray, List.set_cons_zero, List.set_cons_succ]
  refine take_D (i := 12) (v := ?_) rfl rfl rfl (by kernel_rfl) (by kernel_rfl) (by kernel_rfl) (by kernel_rfl) (by kernel_rfl) ((Ext.refl w).drew) ?hyp ?_
  case hyp => intro wz hSw; (try dsimp only at hSw); go_simp <;> with_reducible rfl
  simp only [List.setIfInBounds_toArray, List.set_cons_zero, List.set_cons_succ]
  refine step_D (i := 13) rfl (by kernel_rfl) ?_
  go_wp2_with fail
  refine (CW.out _ (Ext.refl w).drew).mono ?_
  rintro e w3 ⟨u3, rfl, R3, X3⟩
  unfold evA
  have Y3 : Ext w w3 := (Ext.refl w).drew.trans X3
  obtain ⟨a3, n3, e3⟩ := (R3.dat (B' := W.heap.size)).len
  subst e3
  have HG2 := Lib.hid (HG.out _ w3 Y3 R3.dat)
  have r0 := Y3.cell HA.out.c0
  have r1 := Y3.cell HA.out.c1
  have r2 := Y3.cell HA.out.c2
  have r3 := Y3.cell HA.out.c3
  have r4 := Y3.cell HA.out.c4
  have r5 := Y3.cell HA.out.c5
  have r6 := Y3.cell HA.out.c6
  have y0 := Y3.frozen HA.out.c0 (HZ.out _)
  have y1 := Y3.frozen HA.out.c1 (HZ.out _)
  have y2 := Y3.frozen HA.out.c2 (HZ.out _)
  have y3 := Y3.frozen HA.out.c3 (HZ.out _)
  have y4 := Y3.frozen HA.out.c4 (HZ.out _)
  have y5 := Y3.frozen HA.out.c5 (HZ.out _)
  have y6 := Y3.frozen HA.out.c6 (HZ.out _)
  go_wp2
  refine ⟨Y3, ?_⟩
  try simp only [List.setIfInBounds_toArray, List.set_cons_zero, List.set_cons_succ]
  refine rest_D (n := 14) rfl rfl (fun j hj => by simp; omega) (by kernel_rfl) ?_
  clear R3 X3 Y3 CW FL F0 F1 F2 F3 F4 F5 F6 HG
  unfold w7 at HG2
  go_wp2
  refine off_normal ?_
  go_wp2
  exact HG2.out
end Go.Proofs.Ytkbbneknblnbnaa

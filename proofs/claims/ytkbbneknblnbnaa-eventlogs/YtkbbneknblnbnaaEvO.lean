/- A log of events. -/
import Derived.Test.YtkbbneknblnbnaaEv8
import Derived.Test.YtkbbneknblnbnaaEvR
namespace Go.Proofs.Ytkbbneknblnbnaa
open Go.RowKit
set_option linter.unusedVariables false
set_option linter.unusedSimpArgs false
set_option maxHeartbeats 4000000
attribute [local go_sem] later_cell later_frozen later_const
theorem Dat.but2 {S : Nat → Prop} {w w' : World} {B : Nat} {u : Value} {d : List Int} (h : Dat w B u d) (hb : But S w w') (hs : ∀ k, S k → k < w.heap.size → B ≤ k ∧ ¬ TagE w k 3) : Dat w' B u d := by
  rcases h with h | ⟨b, off, cap, h1, h2, h3⟩
  · exact .inl h
  · by_cases h0 : d.length = 0
    · refine .inl ⟨_, cap, by rw [h1, h0], List.eq_nil_of_length_eq_zero h0, fun e => by cases e⟩
    have nb : ¬ S b := fun hs' => by
      obtain ⟨k1, k2⟩ := hs b hs' (World.block_lt_of_cell? w _ (h2 0 (by omega)))
      rcases h3 with h3 | h3
      · omega
      · exact k2 h3
    exact .inr ⟨b, off, cap, h1, fun j hj => hb.cell (h2 j hj) nb, h3.imp id fun t => t.but hb nb⟩
theorem RE.but2 {S : Nat → Prop} {w w' : World} {B : Nat} {v : Value} {L : List Ev} (h : RE w B v L) (hb : But S w w') (hs : ∀ k, S k → k < w.heap.size → B ≤ k ∧ ¬ TagE w k 3) (hv : ∀ k, v.ownBlock = some k → ¬ S k) : RE w' B v L := by
  obtain ⟨l, e, hr, hd⟩ := h
  exact ⟨l, e, hb.row hr hv, fun p hp => (hd p hp).but2 hb hs⟩
theorem tag_not {w : World} {k s t : Nat} (h : TagE w k s) (hn : s ≠ t) : ¬ TagE w k t := fun h2 => h.ne h2 hn rfl
/-- a log in block lb, its events in memory from behind W -/
structure LG (W w : World) (lb : Nat) (v : Value) (L : List Ev) : Prop where
  c : w.cell? ⟨lb, 0, none⟩ = some v
  z : w.frozen? ⟨lb, 0, none⟩ = false
  t : TagE w lb 55
  b : W.heap.size ≤ lb
  r : RE w W.heap.size v L
theorem LG.ext {W w w' : World} {lb : Nat} {v : Value} {L : List Ev} (h : LG W w lb v L) (hx : Ext w w') : LG W w' lb v L := ⟨hx.cell h.c, hx.frozen h.c h.z, h.t.ext hx, h.b, h.r.ext hx⟩
/-- what comes of an append to its events and the store of the new slice -/
theorem LG.put {W w w' : World} {lb : Nat} {v v' : Value} {L L' : List Ev} (h : LG W w lb v L) (hr : RE w' W.heap.size v' L') (hg : w.grownBy w' v.ownBlock) : LG W (w'.setCell ⟨lb, 0, none⟩ v') lb v' L' ∧ w'.cell? ⟨lb, 0, none⟩ = some v ∧ w'.frozen? ⟨lb, 0, none⟩ = false := by
  have bt := but_grown hg
  have nb : ¬ (v.ownBlock = some lb) := fun e => (h.r.lt e).2.2.ne h.t (by decide) rfl
  have c := bt.cell h.c nb
  have z := bt.frozen h.c h.z nb
  have t := h.t.but bt nb
  refine ⟨⟨World.cell?_setCell_same _ _ _ c, by rw [World.frozen?_setCell]; exact z, ?_, h.b, ?_⟩, c, z⟩
  · obtain ⟨cur, ht⟩ := t
    exact ⟨_, heap_setCell_same w' lb 0 cur 55 v' ht⟩
  · refine hr.but2 (but_setCell w' ⟨lb, 0, none⟩ v') (fun k hk _ => ?_) (fun k hk e => ?_)
    · have : k = lb := hk
      subst this
      exact ⟨h.b, tag_not t (by decide)⟩
    · have : k = lb := e
      subst this
      exact (hr.lt hk).2.2.ne t (by decide) rfl
theorem eNew (w : World) : Calls Try.prog 13 #[] w fun e w' => e = .returned (.pointer (some ⟨w.heap.size, 0, none⟩)) ∧ w' = w.alloc (.cells #[.slice none 0 0] 55) := by
  go_enter Try.func13, Try.ntmps13
  go_wp2
  go_ret
  exact ⟨rfl, rfl⟩
theorem LG.new (W w : World) (hx : Ext W w) : LG W (w.alloc (.cells #[.slice none 0 0] 55)) w.heap.size (.slice none 0 0) [] := by
  have h0 : (w.alloc (.cells #[.slice none 0 0] 55)).heap[w.heap.size]? = some (.cells #[.slice none 0 0] 55) := World.alloc_heap_new w _
  exact ⟨(cellE h0 rfl).1, (cellE (j := 0) h0 rfl).2, ⟨_, h0⟩, hx.size, RE.nil _ _⟩
theorem eNote_nil (e : Ev) (u : Value) (w : World) : Calls Try.prog 9 #[.pointer none, evA e u] w fun r w' => r = .returned (.tuple #[]) ∧ Ext w w' := by
  unfold evA
  go_enter Try.func9, Try.ntmps9
  go_wp2
  refine bodyPost_end (v := .tuple #[]) (by simp [results, Try.results9, go_sem]) rfl ?_
  refine ⟨rfl, ?_⟩
  repeat (first | with_reducible exact Ext.refl _ | with_reducible assumption | with_reducible refine Ext.alloc ?_ _ | with_reducible refine Ext.drew ?_ | with_reducible refine Ext.drewN ?_ _ | with_reducible refine Ext.setCell ?_ (by simp <;> omega) _ | with_reducible refine Ext.trans ?_ (by assumption))
theorem eLen_nil (w : World) : Calls Try.prog 10 #[.pointer none] w fun r w' => r = .returned (.int .i64 0) ∧ w = w' := by
  go_enter Try.func10, Try.ntmps10
  go_wp2
  go_ret
  exact ⟨rfl, rfl⟩
theorem eFrom_nil (w : World) : Calls Try.prog 11 #[.pointer none, .int .i64 0] w fun r w' => r = .returned (.slice none 0 0) ∧ w = w' := by
  go_enter Try.func11, Try.ntmps11
  go_wp2_with fail
  refine (eLen_nil _).mono ?_
  rintro e w' ⟨rfl, rfl⟩
  go_wp2
  go_ret
  exact ⟨rfl, rfl⟩
theorem eFill_nil (v : Value) (w : World) : Calls Try.prog 12 #[.pointer none, .int .i64 0, v] w fun r w' => r = .returned (.bool false) ∧ w = w' := by
  go_enter Try.func12, Try.ntmps12
  go_wp2_with fail
  refine (eLen_nil _).mono ?_
  rintro e w' ⟨rfl, rfl⟩
  go_wp2
  go_ret
  exact ⟨rfl, rfl⟩
theorem eLen (W w : World) (lb : Nat) (v : Value) (L : List Ev) (h : LG W w lb v L) : Calls Try.prog 10 #[.pointer (some ⟨lb, 0, none⟩)] w fun r w' => r = .returned (.int .i64 L.length) ∧ w = w' := by
  have c := h.c
  obtain ⟨a, cap, rfl⟩ := h.r.len
  clear h
  generalize L.length = n at *
  go_enter Try.func10, Try.ntmps10
  go_wp2
  go_ret
  exact ⟨rfl, rfl⟩
def NoteDoes (W : World) (lb : Nat) (L : List Ev) (e : Ending) (w' : World) : Prop := e = .returned (.tuple #[]) ∧ ∃ v', LG W w' lb v' L ∧ Ext W w'
set_option maxRecDepth 100000 in
theorem eNote {B : Nat} (W w : World) (lb : Nat) (v : Value) (L : List Ev) (x : Ev) (u : Value) (h : LG W w lb v L) (hx : Ext W w) (hu : Dat w B u x.d) (hl : L.length ≤ 900000) (hd : x.d.length ≤ 900000) : Calls Try.prog 9 #[.pointer (some ⟨lb, 0, none⟩), evA x u] w (NoteDoes W lb (L ++ [x])) := by
  obtain ⟨ua, uc, eu⟩ := hu.len
  subst eu
  have CW := Lib.hid (fun w' (hz : Ext w w') => eWith x (.slice ua x.d.length uc) (.slice ua x.d.length uc) x.d w' (hu.ext hz) (by omega))
  unfold evA at CW ⊢
  have HL := Lib.hid h
  have HX := Lib.hid hx
  have HG : Hid (∀ v' w', LG W w' lb v' (L ++ [x]) → Ext W w' → NoteDoes W lb (L ++ [x]) (.returned (.tuple #[])) w') := Lib.hid (fun v' w' h1 h2 => ⟨rfl, v', h1, h2⟩)
  generalize NoteDoes W lb (L ++ [x]) = G at *
  generalize hul : x.d.length = ul at *
  clear h hx hu
  go_enter Try.func9, Try.ntmps9
  go_upto_region 2 with (fail)
  refine settle_wp ?_
  intro wA hbA
  have XA : Ext w wA := Ext.trans (by repeat (first | with_reducible exact Ext.refl _ | with_reducible assumption | with_reducible refine Ext.alloc ?_ _ | with_reducible refine Ext.drew ?_ | with_reducible refine Ext.drewN ?_ _ | with_reducible refine Ext.setCell ?_ (by simp <;> omega) _ | with_reducible refine Ext.trans ?_ (by assumption))) hbA
  have BEA := (BE.of (World.alloc_heap_new w _)).ext hbA (k := x.k) (t := x.t) (o := x.o) (n := x.n) (p := x.p) (c := x.c) (u := .slice ua ul uc)
  obtain ⟨q0, q1, q2, q3, q4, q5, q6, -, -, -, -, -, -, -⟩ := BEA
  have HLA := Lib.hid (HL.out.ext XA)
  have HXA := Lib.hid (HX.out.trans XA)
  have FL := fun w' (hz : Ext wA w') => hz.cell HLA.out.c
  have F0 := fun w' (hz : Ext wA w') => hz.cell q0
  have F1 := fun w' (hz : Ext wA w') => hz.cell q1
  have F2 := fun w' (hz : Ext wA w') => hz.cell q2
  have F3 := fun w' (hz : Ext wA w') => hz.cell q3
  have F4 := fun w' (hz : Ext wA w') => hz.cell q4
  have F5 := fun w' (hz : Ext wA w') => hz.cell q5
  have F6 := fun w' (hz : Ext wA w') => hz.cell q6
  have CW2 := Lib.hid (CW.out wA.drew (XA.trans (Ext.refl wA).drew))
  clear hbA XA q0 q1 q2 q3 q4 q5 q6 CW HL HX
  refine wp_region_D (fun i => decide (1 ≤ i) && decide (i ≤ 9)) (by kernel_rfl) ?_
  refine pure_D (i := 0) (v := ?_) rfl rfl rfl (by kernel_rfl) (by kernel_rfl) (by kernel_rfl) rfl ?hyp ?_
  case hyp => intro wz; go_simp <;> with_reducible rfl
  simp only [List.setIfInBounds_toArray, List.set_cons_zero, List.set_cons_succ]
  refine take_D (i := 1) (v := ?_) rfl rfl rfl (by kernel_rfl) (by kernel_rfl) (by kernel_rfl) (by kernel_rfl) (by kernel_rfl) ((Ext.refl wA).drew) ?hyp ?_
  case hyp => intro wz hSw; (try dsimp only at hSw); go_simp <;> with_reducible rfl
  simp only [List.setIfInBounds_toArray, List.set_cons_zero, List.set_cons_succ]
  refine take_D (i := 2) (v := ?_) rfl rfl rfl (by kernel_rfl) (by kernel_rfl) (by kernel_rfl) (by kernel_rfl) (by kernel_rfl) ((Ext.refl wA).drew) ?hyp ?_
  case hyp => intro wz hSw; (try dsimp only at hSw); go_simp <;> with_reducible rfl
  simp only [List.setIfInBounds_toArray, List.set_cons_zero, List.set_cons_succ]
  refine take_D (i := 3) (v := ?_) rfl rfl rfl (by kernel_rfl) (by kernel_rfl) (by kernel_rfl) (by kernel_rfl) (by kernel_rfl) ((Ext.refl wA).drew) ?hyp ?_
  case hyp => intro wz hSw; (try dsimp only at hSw); go_simp <;> with_reducible rfl
  simp only [List.setIfInBounds_toArray, List.set_cons_zero, List.set_cons_succ]
  refine take_D (i := 4) (v := ?_) rfl rfl rfl (by kernel_rfl) (by kernel_rfl) (by kernel_rfl) (by kernel_rfl) (by kernel_rfl) ((Ext.refl wA).drew) ?hyp ?_
  case hyp => intro wz hSw; (try dsimp only at hSw); go_simp <;> with_reducible rfl
  simp only [List.setIfInBounds_toArray, List.set_cons_zero, List.set_cons_succ]
  refine take_D (i := 5) (v := ?_) rfl rfl rfl (by kernel_rfl) (by kernel_rfl) (by kernel_rfl) (by kernel_rfl) (by kernel_rfl) ((Ext.refl wA).drew) ?hyp ?_
  case hyp => intro wz hSw; (try dsimp only at hSw); go_simp <;> with_reducible rfl
  simp only [List.setIfInBounds_toArray, List.set_cons_zero, List.set_cons_succ]
  refine take_D (i := 6) (v := ?_) rfl rfl rfl (by kernel_rfl) (by kernel_rfl) (by kernel_rfl) (by kernel_rfl) (by kernel_rfl) ((Ext.refl wA).drew) ?hyp ?_
  case hyp => intro wz hSw; (try dsimp only at hSw); go_simp <;> with_reducible rfl
  simp only [List.setIfInBounds_toArray, List.set_cons_zero, List.set_cons_succ]
  refine take_D (i := 7) (v := ?_) rfl rfl rfl (by kernel_rfl) (by kernel_rfl) (by kernel_rfl) (by kernel_rfl) (by kernel_rfl) ((Ext.refl wA).drew) ?hyp ?_
  case hyp => intro wz hSw; (try dsimp only at hSw); go_simp <;> with_reducible rfl
  simp only [List.setIfInBounds_toArray, List.set_cons_zero, List.set_cons_succ]
  refine step_D (i := 8) rfl (by kernel_rfl) ?_
  go_wp2_with fail
  refine CW2.out.mono ?_
  rintro e w3 ⟨u3, rfl, R3, X3⟩
  unfold evA
  have Y3 : Ext wA w3 := (Ext.refl wA).drew.trans X3
  go_wp2
  refine ⟨Y3, ?_⟩
  try simp only [List.setIfInBounds_toArray, List.set_cons_zero, List.set_cons_succ]
  refine step_D (i := 9) rfl (by kernel_rfl) ?_
  go_wp2
  refine ⟨Y3.alloc _, ?_⟩
  try simp only [List.setIfInBounds_toArray, List.set_cons_zero, List.set_cons_succ]
  refine rest_D (n := 10) rfl rfl (fun j hj => by simp; omega) (by kernel_rfl) ?_
  have L4 := HLA.out.ext (Y3.alloc (.cells #[.int .i64 x.k, .int .i64 x.t, .int .i64 x.o, .int .i64 x.n, .int .u64 x.p, .int .i64 x.c, u3] 31))
  have hB4 := (HXA.out.trans Y3).size
  refine appE _ rfl _ _ rfl W.heap.size v L rfl L4.r (by simp; omega) w3.heap.size x u3 rfl (at_new (R3.dat (B' := W.heap.size))) hl ?_
  intro v5 w5 R5 G5 _
  obtain ⟨P5, c5, z5⟩ := L4.put R5 G5
  obtain ⟨a5, n5, e5⟩ := R5.len
  have X5 := ((HXA.out.trans Y3).alloc (.cells #[.int .i64 x.k, .int .i64 x.t, .int .i64 x.o, .int .i64 x.n, .int .u64 x.p, .int .i64 x.c, u3] 31)).grown G5 (fun q hq => (L4.r.lt hq).1)
  have HG2 := Lib.hid (HG.out v5 _ P5 (X5.setCell (p := ⟨lb, 0, none⟩) HLA.out.b v5))
  obtain ⟨av, cv, ev⟩ := L4.r.len
  subst e5
  clear R3 X3 Y3 L4 hB4 R5 G5 P5 X5 FL F0 F1 F2 F3 F4 F5 F6 CW2 HG HLA HXA
  generalize (L ++ [x]).length = N5 at *
  go_wp2
  refine off_normal ?_
  go_wp2
  refine bodyPost_ret (v := .tuple #[]) (by simp [results, Try.results9, go_sem]) rfl ?_
  exact HG2.out
theorem shV_drop {w : World} {B : Nat} {b off cap : Nat} {L : List Ev} (h : EvsV w B (.slice (some ⟨b, off, none⟩) L.length cap) L) {k : Nat} (hk : k ≤ L.length) : EvsV w B (.slice (some ⟨b, off + k * 7, none⟩) (L.length - k) (cap - k)) (L.drop k) := by
  obtain ⟨a', cap', e, h1, h2, _, h3⟩ := h
  cases e
  refine ⟨_, cap - k, by rw [List.length_drop], by rw [List.length_drop]; omega, by omega, fun e => (by cases e), fun i hi => ?_⟩
  have hi2 : k + i < L.length := by rw [List.length_drop] at hi; omega
  obtain ⟨b', off', u, ea, hc, hd⟩ := h3 (k + i) hi2
  cases ea
  refine ⟨b, off + k * 7, u, rfl, fun j q hq => ?_, ?_⟩
  · rw [List.getElem_drop] at hq
    have := hc j q hq
    rwa [show off + ((k + i) * 7 + j) = off + k * 7 + (i * 7 + j) by omega] at this
  · rw [List.getElem_drop]
    exact hd
def negN (n : Int) (k : Nat) : Prop := n < 0 ∧ k = 0
def posN (n : Int) (k : Nat) : Prop := n = k ∧ 0 ≤ k
def negF (n : Int) : Prop := n < 0 ∧ ¬ 0 < n ∧ ¬ 0 ≤ n ∧ n ≤ 0
def posF (n : Int) : Prop := 0 ≤ n ∧ ¬ n < 0
/-- the events from place k on; where the first place is told as some number m -/
theorem eFrom_at (W w : World) (lb : Nat) (v : Value) (L : List Ev) (k : Nat) (h : LG W w lb v L) (hl : L.length ≤ 900000) (hd : ∀ e ∈ L, e.d.length ≤ 1000000) (hk : k < L.length) : ∃ b off cap, v = .slice (some ⟨b, off, none⟩) L.length cap ∧ L.length ≤ cap ∧ Calls Try.prog 21 #[.slice (some ⟨b, off + k * 7, none⟩) (L.length - k) (cap - k)] w (GivesR w (L.drop k)) := by
  have he := h.r.evs
  obtain ⟨a, cap, e, hc, hm, hnil, hat⟩ := id he
  obtain ⟨b, off, u, ea, -, -⟩ := hat k hk
  subst ea
  subst e
  refine ⟨b, off, cap, rfl, hc, eCopy _ _ w (shV_drop he (by omega)) (by rw [List.length_drop]; omega) (fun e he => hd e (List.mem_of_mem_drop he))⟩
set_option maxRecDepth 100000 in
theorem eFrom_neg (W w : World) (lb : Nat) (v : Value) (L : List Ev) (n : Int) (k : Nat) (h : LG W w lb v L) (hl : L.length ≤ 900000) (hd : ∀ e ∈ L, e.d.length ≤ 1000000) (hn : negN n k) : Calls Try.prog 11 #[.pointer (some ⟨lb, 0, none⟩), .int .i64 n] w (GivesR w (L.drop k)) := by
  have CL := Lib.hid (eLen W w lb v L h)
  have c := h.c
  unfold negN at hn
  obtain ⟨hn, hk0⟩ := hn
  have hn2 : negF n := by unfold negF; omega
  unfold negF at hn2
  by_cases hkl : k < L.length
  case neg =>
    have HG : Hid (GivesR w (L.drop k) (.returned (.slice none 0 0)) w) := Lib.hid (by rw [List.drop_of_length_le (by omega)]; exact ⟨_, rfl, RE.nil _ _, Ext.refl _⟩)
    generalize GivesR w (L.drop k) = G at *
    have hz0 : L = [] := List.eq_nil_of_length_eq_zero (by omega)
    subst hz0
    clear h c hd
    go_enter Try.func11, Try.ntmps11
    go_wp2_with fail
    refine CL.out.mono ?_
    rintro e w' ⟨rfl, rfl⟩
    go_wp2
    exact HG.out
  obtain ⟨b, off, cap, ev, hcap, CC⟩ := eFrom_at W w lb v L k h hl hd hkl
  subst ev
  have hne : ¬ L = [] := by intro e; rw [e] at hkl; simp at hkl
  subst hk0
  simp only [Nat.zero_mul, Nat.add_zero, Nat.sub_zero] at CC
  have HC := Lib.hid CC
  have HG : Hid (∀ v w', RE w' w.heap.size v (L.drop 0) → Ext w w' → GivesR w (L.drop 0) (.returned v) w') := Lib.hid (fun v w' h1 h2 => ⟨v, rfl, h1, h2⟩)
  have hb := World.block_lt_of_cell? w ⟨lb, 0, none⟩ c
  clear h hd CC
  go_enter Try.func11, Try.ntmps11
  go_wp2_with fail
  refine CL.out.mono ?_
  rintro e w' ⟨rfl, rfl⟩
  go_wp2_with fail
  refine HC.out.mono ?_
  rintro e w2 ⟨v2, rfl, R2, X2⟩
  have HG2 := Lib.hid (HG.out _ _ R2 X2)
  generalize GivesR w (L.drop 0) = G at *
  clear R2 X2 HG
  go_wp2
  exact HG2.out
set_option maxRecDepth 100000 in
theorem eFrom_pos (W w : World) (lb : Nat) (v : Value) (L : List Ev) (n : Int) (k : Nat) (h : LG W w lb v L) (hl : L.length ≤ 900000) (hd : ∀ e ∈ L, e.d.length ≤ 1000000) (hn : posN n k) : Calls Try.prog 11 #[.pointer (some ⟨lb, 0, none⟩), .int .i64 n] w (GivesR w (L.drop k)) := by
  have CL := Lib.hid (eLen W w lb v L h)
  have c := h.c
  unfold posN at hn
  obtain ⟨hn, hk0⟩ := hn
  have hn2 : posF n := by unfold posF; omega
  unfold posF at hn2
  by_cases hkl : k < L.length
  case neg =>
    have HG : Hid (GivesR w (L.drop k) (.returned (.slice none 0 0)) w) := Lib.hid (by rw [List.drop_of_length_le (by omega)]; exact ⟨_, rfl, RE.nil _ _, Ext.refl _⟩)
    have hk1 : ¬ (k : Int) < (L.length : Int) := by omega
    have hk2 : (L.length : Int) ≤ (k : Int) := by omega
    generalize GivesR w (L.drop k) = G at *
    generalize L.length = z at *
    clear h c hd
    go_enter Try.func11, Try.ntmps11
    go_wp2_with fail
    refine CL.out.mono ?_
    rintro e w' ⟨rfl, rfl⟩
    go_wp2
    exact HG.out
  obtain ⟨b, off, cap, ev, hcap, CC⟩ := eFrom_at W w lb v L k h hl hd hkl
  subst ev
  have hne : ¬ L = [] := by intro e; rw [e] at hkl; simp at hkl
  have HC := Lib.hid CC
  have HG : Hid (∀ v w', RE w' w.heap.size v (L.drop k) → Ext w w' → GivesR w (L.drop k) (.returned v) w') := Lib.hid (fun v w' h1 h2 => ⟨v, rfl, h1, h2⟩)
  have hk1 : (k : Int) < (L.length : Int) := by omega
  have hk2 : ¬ (L.length : Int) ≤ (k : Int) := by omega
  have hk3 : (k : Int) ≤ (L.length : Int) := by omega
  have hb := World.block_lt_of_cell? w ⟨lb, 0, none⟩ c
  clear h hd CC
  go_enter Try.func11, Try.ntmps11
  go_wp2_with fail
  refine CL.out.mono ?_
  rintro e w' ⟨rfl, rfl⟩
  go_wp2_with fail
  refine HC.out.mono ?_
  rintro e w2 ⟨v2, rfl, R2, X2⟩
  have HG2 := Lib.hid (HG.out _ _ R2 X2)
  generalize GivesR w (L.drop k) = G at *
  clear R2 X2 HG
  go_wp2
  exact HG2.out
end Go.Proofs.Ytkbbneknblnbnaa

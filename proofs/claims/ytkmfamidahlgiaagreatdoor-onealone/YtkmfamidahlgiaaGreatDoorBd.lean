/- A board as it lies in memory; touch. -/
import Derived.Test.YtkmfamidahlgiaaGreatDoorLyK
import Derived.Test.YtkmfamidahlgiaaGreatDoorEvT
import Derived.Maps.AppendAt
namespace Go.Proofs.YtkmfamidahlgiaaGreatDoor
open Go.RowKit
set_option linter.unusedVariables false
set_option linter.unusedSimpArgs false
set_option maxHeartbeats 2000000
attribute [local go_sem] later_cell later_frozen later_const
/-- an access -/
structure Acc where
  t : Int
  k : Int
  c : Int
  o : Int
  n : Int
def acV (x : Acc) : List Value := [.int .i64 x.t, .int .i64 x.k, .int .i64 x.c, .int .u64 x.o, .int .u64 x.n]
def rowA (l : List Acc) : List Value := l.flatMap acV
theorem rowA_app (a b : List Acc) : rowA (a ++ b) = rowA a ++ rowA b := List.flatMap_append
theorem rowA_len (l : List Acc) : (rowA l).length = l.length * 5 := by
  induction l with
  | nil => rfl
  | cons d l ih => show (acV d ++ rowA l).length = _; rw [List.length_append, ih]; simp [acV]; omega
theorem rowA_one (l : List Acc) : ∀ u ∈ rowA l, u.oneCell' = true := by
  intro u hu
  obtain ⟨d, _, hd⟩ := List.mem_flatMap.1 hu
  simp [acV] at hd
  rcases hd with rfl | rfl | rfl | rfl | rfl <;> rfl
theorem rowA_at (l : List Acc) (i j : Nat) (hi : i < l.length) (hj : j < 5) : (rowA l)[i * 5 + j]? = (acV l[i])[j]? := by
  induction l generalizing i with
  | nil => simp at hi
  | cons d l ih =>
    show (acV d ++ rowA l)[i * 5 + j]? = _
    have hd : (acV d).length = 5 := rfl
    cases i with
    | zero => rw [List.getElem?_append_left (by omega)]; simp
    | succ i =>
      rw [List.getElem?_append_right (by omega), hd, show (i + 1) * 5 + j - 5 = i * 5 + j by omega, ih i (by simpa using hi)]
      rfl
theorem info_acc : (Tryz.prog.info? 173).map (fun i => (i.zero, i.size, i.bytes)) = some (some (.agg #[.int .i64 0, .int .i64 0, .int .i64 0, .int .u64 0, .int .u64 0]), 5, 40) := by kernel_rfl
/-- a layout's letters -/
structure LY where
  V : Int
  W : Int
  C : Int
  P : Int
  S : Int
  a : Option Addr
  n : Nat
  cap : Nat
  Cu : Int
  Cl : Int
  Ti : Int
  Se : Int
  Ne : Int
  Ma : Int
  Sl : Int
  m : Nat
/-- a board in block b, its cells in block g -/
structure BD (w : World) (bt b g : Nat) (y : LY) (f : Nat → Int) (lv : Value) (log : List Acc) : Prop where
  q0 : w.cell? ⟨b, 0, none⟩ = some (.int .i64 y.V)
  q1 : w.cell? ⟨b, 1, none⟩ = some (.int .i64 y.W)
  q2 : w.cell? ⟨b, 2, none⟩ = some (.int .i64 y.C)
  q3 : w.cell? ⟨b, 3, none⟩ = some (.int .i64 y.P)
  q4 : w.cell? ⟨b, 4, none⟩ = some (.int .u64 y.S)
  q5 : w.cell? ⟨b, 5, none⟩ = some (.slice y.a y.n y.cap)
  q6 : w.cell? ⟨b, 6, none⟩ = some (.int .i64 y.Cu)
  q7 : w.cell? ⟨b, 7, none⟩ = some (.int .i64 y.Cl)
  q8 : w.cell? ⟨b, 8, none⟩ = some (.int .i64 y.Ti)
  q9 : w.cell? ⟨b, 9, none⟩ = some (.int .i64 y.Se)
  q10 : w.cell? ⟨b, 10, none⟩ = some (.int .i64 y.Ne)
  q11 : w.cell? ⟨b, 11, none⟩ = some (.int .i64 y.Ma)
  q12 : w.cell? ⟨b, 12, none⟩ = some (.int .i64 y.Sl)
  q13 : w.cell? ⟨b, 13, none⟩ = some (.int .i64 y.m)
  q14 : w.cell? ⟨b, 14, none⟩ = some (.slice (some ⟨g, 0, none⟩) y.m y.m)
  q15 : w.cell? ⟨b, 15, none⟩ = some lv
  z15 : w.frozen? ⟨b, 15, none⟩ = false
  tb : Tag w b bt
  tg : Tag w g 22
  va : VA y.m w g (fun i => .int .u64 (f i))
  row : w.ownsRow 0 173 5 lv log.length (rowA log)
  nt : bt ≠ 22 ∧ bt ≠ 173
theorem tag_ne {w : World} {a b s t : Nat} (h1 : Tag w a s) (h2 : Tag w b t) (h : s ≠ t) : a ≠ b := fun e => by
  subst e
  obtain ⟨c1, h1⟩ := h1
  obtain ⟨c2, h2⟩ := h2
  rw [h1] at h2
  cases h2
  exact h rfl
theorem Tag.but {S : Nat → Prop} {w w' : World} {b t : Nat} (h : Tag w b t) (hb : But S w w') (hs : ¬ S b) : Tag w' b t := by
  obtain ⟨cur, h⟩ := h
  exact ⟨cur, hb.heap h hs⟩
theorem row_tagA {w : World} {base n : Nat} {v : Value} {xs : List Value} (h : w.ownsRow base 173 5 v n xs) {k : Nat} (hk : v.ownBlock = some k) : Tag w k 173 := by
  rcases h.2 with ⟨e1, _⟩ | ⟨g', cap', cur, e1, _, hgo, _⟩
  · rw [e1] at hk; cases hk
  · rw [e1] at hk; cases hk; exact ⟨_, hgo⟩
/-- the blocks that are a board's -/
def Own (b g : Nat) (lv : Value) (k : Nat) : Prop := k = b ∨ k = g ∨ lv.ownBlock = some k
theorem VA.but {n : Nat} {w w' : World} {b : Nat} {f : Nat → Value} {S : Nat → Prop} (h : VA n w b f) (hb : But S w w') (hs : ¬ S b) : VA n w' b f := ⟨fun i hi => hb.cell (h.c i hi) hs, fun i hi => hb.frozen (h.c i hi) (h.z i hi) hs⟩
theorem BD.but {S : Nat → Prop} {w w' : World} {bt b g : Nat} {y : LY} {f : Nat → Int} {lv : Value} {log : List Acc} (h : BD w bt b g y f lv log) (hb : But S w w') (hs : ∀ k, Own b g lv k → ¬ S k) : BD w' bt b g y f lv log :=
  have sb := hs b (.inl rfl)
  have sg := hs g (.inr (.inl rfl))
  ⟨hb.cell h.q0 sb, hb.cell h.q1 sb, hb.cell h.q2 sb, hb.cell h.q3 sb, hb.cell h.q4 sb, hb.cell h.q5 sb, hb.cell h.q6 sb, hb.cell h.q7 sb, hb.cell h.q8 sb, hb.cell h.q9 sb, hb.cell h.q10 sb, hb.cell h.q11 sb, hb.cell h.q12 sb, hb.cell h.q13 sb, hb.cell h.q14 sb, hb.cell h.q15 sb, hb.frozen h.q15 h.z15 sb, h.tb.but hb sb, h.tg.but hb sg, h.va.but hb sg, hb.row h.row (fun k hk => hs k (.inr (.inr hk))), h.nt⟩
theorem BD.ext {w w' : World} {bt b g : Nat} {y : LY} {f : Nat → Int} {lv : Value} {log : List Acc} (h : BD w bt b g y f lv log) (hx : Ext w w') : BD w' bt b g y f lv log := h.but (hx.but (fun _ => False)) (fun _ _ h => h)
theorem BD.lt {w : World} {bt b g : Nat} {y : LY} {f : Nat → Int} {lv : Value} {log : List Acc} (h : BD w bt b g y f lv log) {k : Nat} (hk : Own b g lv k) : k < w.heap.size := by
  rcases hk with rfl | rfl | hk
  · exact World.block_lt_of_cell? w _ h.q0
  · obtain ⟨cur, h2⟩ := h.tg
    exact (Array.getElem?_eq_some_iff.1 h2).1
  · exact (h.row.lt k hk).2
def upd (f : Nat → Int) (c : Nat) (z : Int) : Nat → Int := fun i => if i = c then z else f i
/-- one access more, its cell written -/
def TouchDoes (bt b g : Nat) (y : LY) (f : Nat → Int) (lv : Value) (log : List Acc) (t k : Int) (c : Nat) (z : Int) (w : World) (e : Ending) (w' : World) : Prop :=
  e = .returned (.tuple #[]) ∧ ∃ lv', BD w' bt b g y (upd f c z) lv' (log ++ [⟨t, k, c, f c, z⟩]) ∧ But (Own b g lv) w w' ∧ (lv'.ownBlock = lv.ownBlock ∨ ∃ j, lv'.ownBlock = some j ∧ w.heap.size ≤ j)
/-- what comes of the append, the store of the log, the store of the cell -/
theorem touched {bt b g : Nat} {y : LY} {f : Nat → Int} {lv lv' : Value} {log : List Acc} {x : Acc} {c : Nat} {z : Int} {w w1 w2 : World} (h : BD w bt b g y f lv log) (hx : Ext w w1) (hr : w2.ownsRow 0 173 5 lv' (log.length + 1) (rowA log ++ acV x)) (hg : w1.grownBy w2 lv.ownBlock) (hat : lv'.ownBlock = lv.ownBlock ∨ lv'.ownBlock = some w1.heap.size) (hc : c < y.m) :
    BD ((w2.setCell ⟨b, 15, none⟩ lv').setCell ⟨g, c, none⟩ (.int .u64 z)) bt b g y (upd f c z) lv' (log ++ [x]) ∧ But (Own b g lv) w ((w2.setCell ⟨b, 15, none⟩ lv').setCell ⟨g, c, none⟩ (.int .u64 z)) ∧ (lv'.ownBlock = lv.ownBlock ∨ ∃ j, lv'.ownBlock = some j ∧ w.heap.size ≤ j) := by
  have h1 := h.ext hx
  have B2 := but_grown hg
  have nbg : b ≠ g := tag_ne h1.tb h1.tg h1.nt.1
  have sb : ¬ (lv.ownBlock = some b) := fun e => tag_ne h1.tb (row_tagA h1.row e) h1.nt.2 rfl
  have sg : ¬ (lv.ownBlock = some g) := fun e => tag_ne h1.tg (row_tagA h1.row e) (by decide) rfl
  have lb : b < w1.heap.size := h1.lt (.inl rfl)
  have lg : g < w1.heap.size := h1.lt (.inr (.inl rfl))
  have nb' : ¬ (lv'.ownBlock = some b) := fun e => by
    rcases hat with e' | e'
    · rw [e] at e'; exact sb e'.symm
    · rw [e] at e'; cases e'; omega
  have ng' : ¬ (lv'.ownBlock = some g) := fun e => by
    rcases hat with e' | e'
    · rw [e] at e'; exact sg e'.symm
    · rw [e] at e'; cases e'; omega
  have q15 := B2.cell h1.q15 sb
  have va2 := h1.va.but B2 sg
  have tb2 := h1.tb.but B2 sb
  have tg2 := h1.tg.but B2 sg
  have z15 := B2.frozen h1.q15 h1.z15 sb
  have C3 := but_setCell w2 ⟨b, 15, none⟩ lv'
  have C4 := but_setCell (w2.setCell ⟨b, 15, none⟩ lv') ⟨g, c, none⟩ (.int .u64 z)
  have far : ∀ {j : Nat} {u : Value}, j ≠ 15 → w1.cell? ⟨b, j, none⟩ = some u → ((w2.setCell ⟨b, 15, none⟩ lv').setCell ⟨g, c, none⟩ (.int .u64 z)).cell? ⟨b, j, none⟩ = some u := by
    intro j u hj hq
    refine C4.cell ?_ (by simpa using nbg)
    rw [World.cell?_setCell_other _ _ _ _ (fun e => hj (by cases e; rfl))]
    exact B2.cell hq sb
  refine ⟨⟨far (by decide) h1.q0, far (by decide) h1.q1, far (by decide) h1.q2, far (by decide) h1.q3, far (by decide) h1.q4, far (by decide) h1.q5, far (by decide) h1.q6, far (by decide) h1.q7, far (by decide) h1.q8, far (by decide) h1.q9, far (by decide) h1.q10, far (by decide) h1.q11, far (by decide) h1.q12, far (by decide) h1.q13, far (by decide) h1.q14, ?_, ?_, tb2.set.set, tg2.set.set, ?_, ?_, h1.nt⟩, ?_, ?_⟩
  · exact C4.cell (World.cell?_setCell_same _ _ _ q15) (by simpa using nbg)
  · rw [World.frozen?_setCell, World.frozen?_setCell]
    exact z15
  · have v3 := va2.but C3 (by simpa using Ne.symm nbg)
    have v4 := va_set v3 (.int .u64 z) hc
    refine ⟨fun i hi => ?_, fun i hi => v4.z i hi⟩
    have := v4.c i hi
    rw [this]
    unfold upd
    by_cases e : i = c
    · simp [e]
    · simp [e]
  · have r3 := C3.row hr (fun k hk e => nb' (by rw [hk]; simp at e; rw [e]))
    have r4 := C4.row r3 (fun k hk e => ng' (by rw [hk]; simp at e; rw [e]))
    rw [List.length_append, rowA_app]
    simpa [rowA] using r4
  · refine ⟨?_, ?_, ?_, ?_, ?_⟩
    · exact C4.os.trans (C3.os.trans (B2.os.trans hx.os))
    · exact C4.tape.trans (C3.tape.trans (B2.tape.trans hx.tape))
    · exact C4.output.trans (C3.output.trans (B2.output.trans hx.output))
    · exact Nat.le_trans hx.size (Nat.le_trans B2.size (Nat.le_trans C3.size C4.size))
    · intro k hk hs
      have hk1 : k < w1.heap.size := Nat.lt_of_lt_of_le hk hx.size
      have n1 : k ≠ b := fun e => hs (.inl e)
      have n2 : k ≠ g := fun e => hs (.inr (.inl e))
      have n3 : ¬ lv.ownBlock = some k := fun e => hs (.inr (.inr e))
      rw [C4.block k (Nat.lt_of_lt_of_le hk1 (Nat.le_trans B2.size C3.size)) (by simpa using n2), C3.block k (Nat.lt_of_lt_of_le hk1 B2.size) (by simpa using n1), B2.block k hk1 n3, hx.block k hk]
  · rcases hat with e | e
    · exact .inl e
    · exact .inr ⟨_, e, hx.size⟩
theorem grown_facts {bt b g : Nat} {y : LY} {f : Nat → Int} {lv : Value} {log : List Acc} {c : Nat} {w w1 w2 : World} (h : BD w bt b g y f lv log) (hx : Ext w w1) (hg : w1.grownBy w2 lv.ownBlock) (hc : c < y.m) :
    w2.cell? ⟨b, 14, none⟩ = some (.slice (some ⟨g, 0, none⟩) y.m y.m) ∧ w2.cell? ⟨b, 15, none⟩ = some lv ∧ w2.frozen? ⟨b, 15, none⟩ = false ∧ w2.cell? ⟨g, c, none⟩ = some (.int .u64 (f c)) ∧ w2.frozen? ⟨g, c, none⟩ = false ∧ b ≠ g := by
  have h1 := h.ext hx
  have B2 := but_grown hg
  have sb : ¬ (lv.ownBlock = some b) := fun e => tag_ne h1.tb (row_tagA h1.row e) h1.nt.2 rfl
  have sg : ¬ (lv.ownBlock = some g) := fun e => tag_ne h1.tg (row_tagA h1.row e) (by decide) rfl
  exact ⟨B2.cell h1.q14 sb, B2.cell h1.q15 sb, B2.frozen h1.q15 h1.z15 sb, B2.cell (h1.va.c c hc) sg, B2.frozen (h1.va.c c hc) (h1.va.z c hc) sg, tag_ne h1.tb h1.tg h1.nt.1⟩
set_option maxRecDepth 100000 in
theorem touch32 (b g : Nat) (y : LY) (f : Nat → Int) (lv : Value) (log : List Acc) (t k : Int) (c : Nat) (z : Int) (w : World) (h : BD w 121 b g y f lv log) (hc : c < y.m) (hm : y.m ≤ 1000) (hl : log.length ≤ 1000) :
    Calls Tryz.prog 126 #[.pointer (some ⟨b, 0, none⟩), .int .i64 t, .int .i64 k, .int .i64 c, .int .u64 z] w (TouchDoes 121 b g y f lv log t k c z w) := by
  have HB := Lib.hid h
  have F14 := fun w' (hx : Ext w w') => hx.cell h.q14
  have F15 := fun w' (hx : Ext w w') => hx.cell h.q15
  have FC := fun w' (hx : Ext w w') => hx.cell (h.va.c c hc)
  have hcm : (c : Int) < (y.m : Int) := by omega
  have HG : Hid (∀ w1 w2 lv', Ext w w1 → w2.ownsRow 0 173 5 lv' (log.length + 1) (rowA log ++ acV ⟨t, k, c, f c, z⟩) → w1.grownBy w2 lv.ownBlock → (lv'.ownBlock = lv.ownBlock ∨ lv'.ownBlock = some w1.heap.size) → TouchDoes 121 b g y f lv log t k c z w (.returned (.tuple #[])) ((w2.setCell ⟨b, 15, none⟩ lv').setCell ⟨g, c, none⟩ (.int .u64 z))) := Lib.hid (fun w1 w2 lv' e1 e2 e3 e4 => by
    obtain ⟨t1, t2, t3⟩ := touched h e1 e2 e3 e4 hc (z := z)
    exact ⟨rfl, lv', t1, t2, t3⟩)
  generalize TouchDoes 121 b g y f lv log t k c z w = G at *
  generalize f c = o at *
  obtain ⟨i0, hi, hz0, hz1, hz2⟩ := info_parts info_acc
  clear h
  go_enter Tryz.func126, Tryz.ntmps126
  go_upto_region 0 with (fail)
  refine wp_region_D (fun i => decide (1 ≤ i) && decide (i ≤ 17)) (by kernel_rfl) ?_
  refine pure_D (i := 0) (v := ?_) rfl rfl rfl (by kernel_rfl) (by kernel_rfl) (by kernel_rfl) rfl ?hy0 ?_
  case hy0 => intro wz; go_simp <;> with_reducible rfl
  simp only [List.setIfInBounds_toArray, List.set_cons_zero, List.set_cons_succ]
  refine take_D (i := 1) (v := ?_) rfl rfl rfl (by kernel_rfl) (by kernel_rfl) (by kernel_rfl) (by kernel_rfl) (by kernel_rfl) ((Ext.refl w).drew) ?hy1 ?_
  case hy1 => intro wz hSw; (try dsimp only at hSw); go_simp <;> with_reducible rfl
  simp only [List.setIfInBounds_toArray, List.set_cons_zero, List.set_cons_succ]
  refine take_D (i := 2) (v := ?_) rfl rfl rfl (by kernel_rfl) (by kernel_rfl) (by kernel_rfl) (by kernel_rfl) (by kernel_rfl) ((Ext.refl w).drew) ?hy2 ?_
  case hy2 => intro wz hSw; (try dsimp only at hSw); go_simp <;> with_reducible rfl
  simp only [List.setIfInBounds_toArray, List.set_cons_zero, List.set_cons_succ]
  refine take_D (i := 3) (v := ?_) rfl rfl rfl (by kernel_rfl) (by kernel_rfl) (by kernel_rfl) (by kernel_rfl) (by kernel_rfl) ((Ext.refl w).drew) ?hy3 ?_
  case hy3 => intro wz hSw; (try dsimp only at hSw); go_simp <;> with_reducible rfl
  simp only [List.setIfInBounds_toArray, List.set_cons_zero, List.set_cons_succ]
  refine take_D (i := 4) (v := ?_) rfl rfl rfl (by kernel_rfl) (by kernel_rfl) (by kernel_rfl) (by kernel_rfl) (by kernel_rfl) ((Ext.refl w).drew) ?hy4 ?_
  case hy4 => intro wz hSw; (try dsimp only at hSw); go_simp <;> with_reducible rfl
  simp only [List.setIfInBounds_toArray, List.set_cons_zero, List.set_cons_succ]
  refine take_D (i := 5) (v := ?_) rfl rfl rfl (by kernel_rfl) (by kernel_rfl) (by kernel_rfl) (by kernel_rfl) (by kernel_rfl) ((Ext.refl w).drew) ?hy5 ?_
  case hy5 => intro wz hSw; (try dsimp only at hSw); go_simp <;> with_reducible rfl
  simp only [List.setIfInBounds_toArray, List.set_cons_zero, List.set_cons_succ]
  refine take_D (i := 6) (v := ?_) rfl rfl rfl (by kernel_rfl) (by kernel_rfl) (by kernel_rfl) (by kernel_rfl) (by kernel_rfl) ((Ext.refl w).drew) ?hy6 ?_
  case hy6 => intro wz hSw; (try dsimp only at hSw); go_simp <;> with_reducible rfl
  simp only [List.setIfInBounds_toArray, List.set_cons_zero, List.set_cons_succ]
  refine take_D (i := 7) (v := ?_) rfl rfl rfl (by kernel_rfl) (by kernel_rfl) (by kernel_rfl) (by kernel_rfl) (by kernel_rfl) ((Ext.refl w).drew) ?hy7 ?_
  case hy7 => intro wz hSw; (try dsimp only at hSw); go_simp <;> with_reducible rfl
  simp only [List.setIfInBounds_toArray, List.set_cons_zero, List.set_cons_succ]
  refine take_D (i := 8) (v := ?_) rfl rfl rfl (by kernel_rfl) (by kernel_rfl) (by kernel_rfl) (by kernel_rfl) (by kernel_rfl) ((Ext.refl w).drew) ?hy8 ?_
  case hy8 => intro wz hSw; (try dsimp only at hSw); go_simp <;> with_reducible rfl
  simp only [List.setIfInBounds_toArray, List.set_cons_zero, List.set_cons_succ]
  refine take_D (i := 9) (v := ?_) rfl rfl rfl (by kernel_rfl) (by kernel_rfl) (by kernel_rfl) (by kernel_rfl) (by kernel_rfl) ((Ext.refl w).drew) ?hy9 ?_
  case hy9 => intro wz hSw; (try dsimp only at hSw); go_simp <;> with_reducible rfl
  simp only [List.setIfInBounds_toArray, List.set_cons_zero, List.set_cons_succ]
  refine take_D (i := 10) (v := ?_) rfl rfl rfl (by kernel_rfl) (by kernel_rfl) (by kernel_rfl) (by kernel_rfl) (by kernel_rfl) ((Ext.refl w).drew) ?hy10 ?_
  case hy10 => intro wz hSw; (try dsimp only at hSw); go_simp <;> with_reducible rfl
  simp only [List.setIfInBounds_toArray, List.set_cons_zero, List.set_cons_succ]
  refine take_D (i := 11) (v := ?_) rfl rfl rfl (by kernel_rfl) (by kernel_rfl) (by kernel_rfl) (by kernel_rfl) (by kernel_rfl) ((Ext.refl w).drew) ?hy11 ?_
  case hy11 => intro wz hSw; (try dsimp only at hSw); go_simp <;> with_reducible rfl
  simp only [List.setIfInBounds_toArray, List.set_cons_zero, List.set_cons_succ]
  refine take_D (i := 12) (v := ?_) rfl rfl rfl (by kernel_rfl) (by kernel_rfl) (by kernel_rfl) (by kernel_rfl) (by kernel_rfl) ((Ext.refl w).drew) ?hy12 ?_
  case hy12 => intro wz hSw; (try dsimp only at hSw); go_simp <;> with_reducible rfl
  simp only [List.setIfInBounds_toArray, List.set_cons_zero, List.set_cons_succ]
  refine take_D (i := 13) (v := ?_) rfl rfl rfl (by kernel_rfl) (by kernel_rfl) (by kernel_rfl) (by kernel_rfl) (by kernel_rfl) ((Ext.refl w).drew) ?hy13 ?_
  case hy13 => intro wz hSw; (try dsimp only at hSw); go_simp <;> with_reducible rfl
  simp only [List.setIfInBounds_toArray, List.set_cons_zero, List.set_cons_succ]
  refine take_D (i := 14) (v := ?_) rfl rfl rfl (by kernel_rfl) (by kernel_rfl) (by kernel_rfl) (by kernel_rfl) (by kernel_rfl) ((Ext.refl w).drew) ?hy14 ?_
  case hy14 => intro wz hSw; (try dsimp only at hSw); go_simp <;> with_reducible rfl
  simp only [List.setIfInBounds_toArray, List.set_cons_zero, List.set_cons_succ]
  refine take_D (i := 15) (v := ?_) rfl rfl rfl (by kernel_rfl) (by kernel_rfl) (by kernel_rfl) (by kernel_rfl) (by kernel_rfl) ((Ext.refl w).drew) ?hy15 ?_
  case hy15 => intro wz hSw; (try dsimp only at hSw); go_simp <;> with_reducible rfl
  simp only [List.setIfInBounds_toArray, List.set_cons_zero, List.set_cons_succ]
  refine take_D (i := 16) (v := ?_) rfl rfl rfl (by kernel_rfl) (by kernel_rfl) (by kernel_rfl) (by kernel_rfl) (by kernel_rfl) ((Ext.refl w).drew) ?hy16 ?_
  case hy16 => intro wz hSw; (try dsimp only at hSw); go_simp <;> with_reducible rfl
  simp only [List.setIfInBounds_toArray, List.set_cons_zero, List.set_cons_succ]
  refine last_D (n := 17) rfl rfl (fun j hj => by simp; omega) (by kernel_rfl) ?_
  go_wp2
  refine ⟨((Ext.refl w).drew).alloc _, ?_⟩
  refine wpList_append_own_at _ rfl _ _ 53 rfl 0 173 i0 (.agg #[.int .i64 0, .int .i64 0, .int .i64 0, .int .u64 0, .int .u64 0]) 5 40 Tryz.underlying53 hi hz0 hz1 hz2 rfl (by decide) lv log.length (rowA log) rfl ((((Ext.refl w).drew).alloc _).row HB.out.row) ⟨w.heap.size, 0, none⟩ 1 1 (acV ⟨t, k, c, o, z⟩) rfl rfl ?c1 ?c2 ?c3 ?c4 ?c5 ?_
  case c1 =>
    intro j u hu
    match j, hu with
    | 0, hu => simp [acV] at hu; subst hu; simp [go_sem, Addr.add]
    | 1, hu => simp [acV] at hu; subst hu; simp [go_sem, Addr.add]
    | 2, hu => simp [acV] at hu; subst hu; simp [go_sem, Addr.add]
    | 3, hu => simp [acV] at hu; subst hu; simp [go_sem, Addr.add]
    | 4, hu => simp [acV] at hu; subst hu; simp [go_sem, Addr.add]
    | j + 5, hu => simp [acV] at hu
  case c2 => intro u hu; simp [acV] at hu; rcases hu with rfl | rfl | rfl | rfl | rfl <;> rfl
  case c3 => unfold maxLen; omega
  case c4 => omega
  case c5 => exact Nat.zero_le _
  intro v' w2 h1 h2 _ h4
  obtain ⟨a', n', c', ev'⟩ : ∃ a n c, v' = .slice a n c := by
    rcases h1.2 with ⟨e1, _⟩ | ⟨g', cap', cur, e1, _⟩
    · exact ⟨_, _, _, e1⟩
    · exact ⟨_, _, _, e1⟩
  subst ev'
  have HG2 := Lib.hid (HG.out _ w2 (.slice a' n' c') (((Ext.refl w).drew).alloc _) h1 h2 h4)
  obtain ⟨g14, g15, gz15, gc, gzc, hbg⟩ := grown_facts HB.out (((Ext.refl w).drew).alloc _) h2 hc
  have hgb : g ≠ b := Ne.symm hbg
  generalize f c = oo at *
  clear h1 h2 h4 F14 F15 FC HB
  go_wp2
  refine off_normal ?_
  go_wp2
  refine bodyPost_ret (v := .tuple #[]) (by simp [results, Tryz.results126, go_sem]) rfl ?_
  exact HG2.out
set_option maxRecDepth 100000 in
theorem touch64 (b g : Nat) (y : LY) (f : Nat → Int) (lv : Value) (log : List Acc) (t k : Int) (c : Nat) (z : Int) (w : World) (h : BD w 152 b g y f lv log) (hc : c < y.m) (hm : y.m ≤ 1000) (hl : log.length ≤ 1000) :
    Calls Tryz.prog 143 #[.pointer (some ⟨b, 0, none⟩), .int .i64 t, .int .i64 k, .int .i64 c, .int .u64 z] w (TouchDoes 152 b g y f lv log t k c z w) := by
  have HB := Lib.hid h
  have F14 := fun w' (hx : Ext w w') => hx.cell h.q14
  have F15 := fun w' (hx : Ext w w') => hx.cell h.q15
  have FC := fun w' (hx : Ext w w') => hx.cell (h.va.c c hc)
  have hcm : (c : Int) < (y.m : Int) := by omega
  have HG : Hid (∀ w1 w2 lv', Ext w w1 → w2.ownsRow 0 173 5 lv' (log.length + 1) (rowA log ++ acV ⟨t, k, c, f c, z⟩) → w1.grownBy w2 lv.ownBlock → (lv'.ownBlock = lv.ownBlock ∨ lv'.ownBlock = some w1.heap.size) → TouchDoes 152 b g y f lv log t k c z w (.returned (.tuple #[])) ((w2.setCell ⟨b, 15, none⟩ lv').setCell ⟨g, c, none⟩ (.int .u64 z))) := Lib.hid (fun w1 w2 lv' e1 e2 e3 e4 => by
    obtain ⟨t1, t2, t3⟩ := touched h e1 e2 e3 e4 hc (z := z)
    exact ⟨rfl, lv', t1, t2, t3⟩)
  generalize TouchDoes 152 b g y f lv log t k c z w = G at *
  generalize f c = o at *
  obtain ⟨i0, hi, hz0, hz1, hz2⟩ := info_parts info_acc
  clear h
  go_enter Tryz.func143, Tryz.ntmps143
  go_upto_region 0 with (fail)
  refine wp_region_D (fun i => decide (1 ≤ i) && decide (i ≤ 17)) (by kernel_rfl) ?_
  refine pure_D (i := 0) (v := ?_) rfl rfl rfl (by kernel_rfl) (by kernel_rfl) (by kernel_rfl) rfl ?hy0 ?_
  case hy0 => intro wz; go_simp <;> with_reducible rfl
  simp only [List.setIfInBounds_toArray, List.set_cons_zero, List.set_cons_succ]
  refine take_D (i := 1) (v := ?_) rfl rfl rfl (by kernel_rfl) (by kernel_rfl) (by kernel_rfl) (by kernel_rfl) (by kernel_rfl) ((Ext.refl w).drew) ?hy1 ?_
  case hy1 => intro wz hSw; (try dsimp only at hSw); go_simp <;> with_reducible rfl
  simp only [List.setIfInBounds_toArray, List.set_cons_zero, List.set_cons_succ]
  refine take_D (i := 2) (v := ?_) rfl rfl rfl (by kernel_rfl) (by kernel_rfl) (by kernel_rfl) (by kernel_rfl) (by kernel_rfl) ((Ext.refl w).drew) ?hy2 ?_
  case hy2 => intro wz hSw; (try dsimp only at hSw); go_simp <;> with_reducible rfl
  simp only [List.setIfInBounds_toArray, List.set_cons_zero, List.set_cons_succ]
  refine take_D (i := 3) (v := ?_) rfl rfl rfl (by kernel_rfl) (by kernel_rfl) (by kernel_rfl) (by kernel_rfl) (by kernel_rfl) ((Ext.refl w).drew) ?hy3 ?_
  case hy3 => intro wz hSw; (try dsimp only at hSw); go_simp <;> with_reducible rfl
  simp only [List.setIfInBounds_toArray, List.set_cons_zero, List.set_cons_succ]
  refine take_D (i := 4) (v := ?_) rfl rfl rfl (by kernel_rfl) (by kernel_rfl) (by kernel_rfl) (by kernel_rfl) (by kernel_rfl) ((Ext.refl w).drew) ?hy4 ?_
  case hy4 => intro wz hSw; (try dsimp only at hSw); go_simp <;> with_reducible rfl
  simp only [List.setIfInBounds_toArray, List.set_cons_zero, List.set_cons_succ]
  refine take_D (i := 5) (v := ?_) rfl rfl rfl (by kernel_rfl) (by kernel_rfl) (by kernel_rfl) (by kernel_rfl) (by kernel_rfl) ((Ext.refl w).drew) ?hy5 ?_
  case hy5 => intro wz hSw; (try dsimp only at hSw); go_simp <;> with_reducible rfl
  simp only [List.setIfInBounds_toArray, List.set_cons_zero, List.set_cons_succ]
  refine take_D (i := 6) (v := ?_) rfl rfl rfl (by kernel_rfl) (by kernel_rfl) (by kernel_rfl) (by kernel_rfl) (by kernel_rfl) ((Ext.refl w).drew) ?hy6 ?_
  case hy6 => intro wz hSw; (try dsimp only at hSw); go_simp <;> with_reducible rfl
  simp only [List.setIfInBounds_toArray, List.set_cons_zero, List.set_cons_succ]
  refine take_D (i := 7) (v := ?_) rfl rfl rfl (by kernel_rfl) (by kernel_rfl) (by kernel_rfl) (by kernel_rfl) (by kernel_rfl) ((Ext.refl w).drew) ?hy7 ?_
  case hy7 => intro wz hSw; (try dsimp only at hSw); go_simp <;> with_reducible rfl
  simp only [List.setIfInBounds_toArray, List.set_cons_zero, List.set_cons_succ]
  refine take_D (i := 8) (v := ?_) rfl rfl rfl (by kernel_rfl) (by kernel_rfl) (by kernel_rfl) (by kernel_rfl) (by kernel_rfl) ((Ext.refl w).drew) ?hy8 ?_
  case hy8 => intro wz hSw; (try dsimp only at hSw); go_simp <;> with_reducible rfl
  simp only [List.setIfInBounds_toArray, List.set_cons_zero, List.set_cons_succ]
  refine take_D (i := 9) (v := ?_) rfl rfl rfl (by kernel_rfl) (by kernel_rfl) (by kernel_rfl) (by kernel_rfl) (by kernel_rfl) ((Ext.refl w).drew) ?hy9 ?_
  case hy9 => intro wz hSw; (try dsimp only at hSw); go_simp <;> with_reducible rfl
  simp only [List.setIfInBounds_toArray, List.set_cons_zero, List.set_cons_succ]
  refine take_D (i := 10) (v := ?_) rfl rfl rfl (by kernel_rfl) (by kernel_rfl) (by kernel_rfl) (by kernel_rfl) (by kernel_rfl) ((Ext.refl w).drew) ?hy10 ?_
  case hy10 => intro wz hSw; (try dsimp only at hSw); go_simp <;> with_reducible rfl
  simp only [List.setIfInBounds_toArray, List.set_cons_zero, List.set_cons_succ]
  refine take_D (i := 11) (v := ?_) rfl rfl rfl (by kernel_rfl) (by kernel_rfl) (by kernel_rfl) (by kernel_rfl) (by kernel_rfl) ((Ext.refl w).drew) ?hy11 ?_
  case hy11 => intro wz hSw; (try dsimp only at hSw); go_simp <;> with_reducible rfl
  simp only [List.setIfInBounds_toArray, List.set_cons_zero, List.set_cons_succ]
  refine take_D (i := 12) (v := ?_) rfl rfl rfl (by kernel_rfl) (by kernel_rfl) (by kernel_rfl) (by kernel_rfl) (by kernel_rfl) ((Ext.refl w).drew) ?hy12 ?_
  case hy12 => intro wz hSw; (try dsimp only at hSw); go_simp <;> with_reducible rfl
  simp only [List.setIfInBounds_toArray, List.set_cons_zero, List.set_cons_succ]
  refine take_D (i := 13) (v := ?_) rfl rfl rfl (by kernel_rfl) (by kernel_rfl) (by kernel_rfl) (by kernel_rfl) (by kernel_rfl) ((Ext.refl w).drew) ?hy13 ?_
  case hy13 => intro wz hSw; (try dsimp only at hSw); go_simp <;> with_reducible rfl
  simp only [List.setIfInBounds_toArray, List.set_cons_zero, List.set_cons_succ]
  refine take_D (i := 14) (v := ?_) rfl rfl rfl (by kernel_rfl) (by kernel_rfl) (by kernel_rfl) (by kernel_rfl) (by kernel_rfl) ((Ext.refl w).drew) ?hy14 ?_
  case hy14 => intro wz hSw; (try dsimp only at hSw); go_simp <;> with_reducible rfl
  simp only [List.setIfInBounds_toArray, List.set_cons_zero, List.set_cons_succ]
  refine take_D (i := 15) (v := ?_) rfl rfl rfl (by kernel_rfl) (by kernel_rfl) (by kernel_rfl) (by kernel_rfl) (by kernel_rfl) ((Ext.refl w).drew) ?hy15 ?_
  case hy15 => intro wz hSw; (try dsimp only at hSw); go_simp <;> with_reducible rfl
  simp only [List.setIfInBounds_toArray, List.set_cons_zero, List.set_cons_succ]
  refine take_D (i := 16) (v := ?_) rfl rfl rfl (by kernel_rfl) (by kernel_rfl) (by kernel_rfl) (by kernel_rfl) (by kernel_rfl) ((Ext.refl w).drew) ?hy16 ?_
  case hy16 => intro wz hSw; (try dsimp only at hSw); go_simp <;> with_reducible rfl
  simp only [List.setIfInBounds_toArray, List.set_cons_zero, List.set_cons_succ]
  refine last_D (n := 17) rfl rfl (fun j hj => by simp; omega) (by kernel_rfl) ?_
  go_wp2
  refine ⟨((Ext.refl w).drew).alloc _, ?_⟩
  refine wpList_append_own_at _ rfl _ _ 53 rfl 0 173 i0 (.agg #[.int .i64 0, .int .i64 0, .int .i64 0, .int .u64 0, .int .u64 0]) 5 40 Tryz.underlying53 hi hz0 hz1 hz2 rfl (by decide) lv log.length (rowA log) rfl ((((Ext.refl w).drew).alloc _).row HB.out.row) ⟨w.heap.size, 0, none⟩ 1 1 (acV ⟨t, k, c, o, z⟩) rfl rfl ?c1 ?c2 ?c3 ?c4 ?c5 ?_
  case c1 =>
    intro j u hu
    match j, hu with
    | 0, hu => simp [acV] at hu; subst hu; simp [go_sem, Addr.add]
    | 1, hu => simp [acV] at hu; subst hu; simp [go_sem, Addr.add]
    | 2, hu => simp [acV] at hu; subst hu; simp [go_sem, Addr.add]
    | 3, hu => simp [acV] at hu; subst hu; simp [go_sem, Addr.add]
    | 4, hu => simp [acV] at hu; subst hu; simp [go_sem, Addr.add]
    | j + 5, hu => simp [acV] at hu
  case c2 => intro u hu; simp [acV] at hu; rcases hu with rfl | rfl | rfl | rfl | rfl <;> rfl
  case c3 => unfold maxLen; omega
  case c4 => omega
  case c5 => exact Nat.zero_le _
  intro v' w2 h1 h2 _ h4
  obtain ⟨a', n', c', ev'⟩ : ∃ a n c, v' = .slice a n c := by
    rcases h1.2 with ⟨e1, _⟩ | ⟨g', cap', cur, e1, _⟩
    · exact ⟨_, _, _, e1⟩
    · exact ⟨_, _, _, e1⟩
  subst ev'
  have HG2 := Lib.hid (HG.out _ w2 (.slice a' n' c') (((Ext.refl w).drew).alloc _) h1 h2 h4)
  obtain ⟨g14, g15, gz15, gc, gzc, hbg⟩ := grown_facts HB.out (((Ext.refl w).drew).alloc _) h2 hc
  have hgb : g ≠ b := Ne.symm hbg
  generalize f c = oo at *
  clear h1 h2 h4 F14 F15 FC HB
  go_wp2
  refine off_normal ?_
  go_wp2
  refine bodyPost_ret (v := .tuple #[]) (by simp [results, Tryz.results143, go_sem]) rfl ?_
  exact HG2.out
end Go.Proofs.YtkmfamidahlgiaaGreatDoor

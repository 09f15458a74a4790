import Derived.Test.YtaimmpcijdpgdabGreatDoorJA
import Derived.Test.YtaimmpcijdpgdabGreatDoorRef01
/- The document's board. -/
namespace Go.Proofs.YtaimmpcijdpgdabGreatDoor
open Go.RowKit
set_option linter.unusedVariables false
set_option linter.unusedSimpArgs false
set_option maxHeartbeats 2000000
attribute [local go_sem] later_cell later_frozen later_const
/-- its letters: the configuration, where cells and numbers lie, how many there are, their kinds -/
structure RY where
  V : Int
  W : Int
  C : Int
  P : Int
  S : Int
  a : Option Addr
  n : Nat
  cap : Nat
  gc : Nat
  cc : Nat
  gh : Nat
  ch : Nat
  m : Nat
  kf : Nat → Int
structure RB (w : World) (b : Nat) (y : RY) (f : Nat → Int) (lv : Value) (log : List Acc) : Prop where
  q0 : w.cell? ⟨b, 0, none⟩ = some (.int .i64 y.V)
  q1 : w.cell? ⟨b, 1, none⟩ = some (.int .i64 y.W)
  q2 : w.cell? ⟨b, 2, none⟩ = some (.int .i64 y.C)
  q3 : w.cell? ⟨b, 3, none⟩ = some (.int .i64 y.P)
  q4 : w.cell? ⟨b, 4, none⟩ = some (.int .u64 y.S)
  q5 : w.cell? ⟨b, 5, none⟩ = some (.slice y.a y.n y.cap)
  q6 : w.cell? ⟨b, 6, none⟩ = some (.slice (some ⟨y.gc, 0, none⟩) y.m y.cc)
  q7 : w.cell? ⟨b, 7, none⟩ = some (.slice (some ⟨y.gh, 0, none⟩) y.m y.ch)
  q8 : w.cell? ⟨b, 8, none⟩ = some lv
  z8 : w.frozen? ⟨b, 8, none⟩ = false
  kc : ∀ c, c < y.m → w.cell? ⟨y.gc, c * 3 + 1, none⟩ = some (.int .i64 (y.kf c))
  tb : Tag w b 52
  tc : Tag w y.gc 78
  th : Tag w y.gh 22
  va : VA y.m w y.gh (fun i => .int .u64 (f i))
  row : w.ownsRow 0 91 5 lv log.length (rowA log)
theorem RB.but {S : Nat → Prop} {w w' : World} {b : Nat} {y : RY} {f : Nat → Int} {lv : Value} {log : List Acc} (h : RB w b y f lv log) (hb : But S w w') (hs : ∀ k, Own b y.gh lv k → ¬ S k) (hc : ¬ S y.gc) : RB w' b y f lv log :=
  have sb := hs b (.inl rfl)
  have sg := hs y.gh (.inr (.inl rfl))
  ⟨hb.cell h.q0 sb, hb.cell h.q1 sb, hb.cell h.q2 sb, hb.cell h.q3 sb, hb.cell h.q4 sb, hb.cell h.q5 sb, hb.cell h.q6 sb, hb.cell h.q7 sb, hb.cell h.q8 sb, hb.frozen h.q8 h.z8 sb, fun c hc' => hb.cell (h.kc c hc') hc, h.tb.but hb sb, h.tc.but hb hc, h.th.but hb sg, h.va.but hb sg, hb.row h.row (fun k hk => hs k (.inr (.inr hk)))⟩
theorem RB.ext {w w' : World} {b : Nat} {y : RY} {f : Nat → Int} {lv : Value} {log : List Acc} (h : RB w b y f lv log) (hx : Ext w w') : RB w' b y f lv log := h.but (hx.but (fun _ => False)) (fun _ _ h => h) id
theorem tag_lt {w : World} {b t : Nat} (h : Tag w b t) : b < w.heap.size := by
  obtain ⟨cur, h2⟩ := h
  exact (Array.getElem?_eq_some_iff.1 h2).1
theorem RB.lt {w : World} {b : Nat} {y : RY} {f : Nat → Int} {lv : Value} {log : List Acc} (h : RB w b y f lv log) {k : Nat} (hk : Own b y.gh lv k) : k < w.heap.size := by
  rcases hk with rfl | rfl | hk
  · exact tag_lt h.tb
  · exact tag_lt h.th
  · exact (h.row.lt k hk).2
def RDoes (b : Nat) (y : RY) (lv : Value) (v : Value) (f' : Nat → Int) (log' : List Acc) (w : World) (e : Ending) (w' : World) : Prop :=
  e = .returned v ∧ ∃ lv', RB w' b y f' lv' log' ∧ But (Own b y.gh lv) w w' ∧ (lv'.ownBlock = lv.ownBlock ∨ ∃ j, lv'.ownBlock = some j ∧ w.heap.size ≤ j)
theorem rdoes_same {b : Nat} {y : RY} {f : Nat → Int} {lv : Value} {log : List Acc} {v : Value} {w w' : World} (h : RB w b y f lv log) (hx : Ext w w') : RDoes b y lv v f log w (.returned v) w' :=
  ⟨rfl, lv, h.ext hx, hx.but _, .inl rfl⟩
theorem rdoes_wrap {b : Nat} {y : RY} {f' : Nat → Int} {lv lv' : Value} {log' : List Acc} {v : Value} {w w1 w2 w3 : World} (h1 : Ext w w1) (hB : RB w2 b y f' lv' log') (hb : But (Own b y.gh lv) w1 w2) (hat : lv'.ownBlock = lv.ownBlock ∨ ∃ j, lv'.ownBlock = some j ∧ w1.heap.size ≤ j) (h3 : Ext w2 w3) : RDoes b y lv v f' log' w (.returned v) w3 :=
  ⟨rfl, lv', hB.ext h3, ((h1.but _).trans hb).trans (h3.but _), hat.imp id (fun ⟨j, e, hj⟩ => ⟨j, e, Nat.le_trans h1.size hj⟩)⟩
theorem touchedR {b : Nat} {y : RY} {f : Nat → Int} {lv lv' : Value} {log : List Acc} {x : Acc} {c : Nat} {z : Int} {w w1 w2 : World} (h : RB w b y f lv log) (hx : Ext w w1) (hr : w2.ownsRow 0 91 5 lv' (log.length + 1) (rowA log ++ acV x)) (hg : w1.grownBy w2 lv.ownBlock) (hat : lv'.ownBlock = lv.ownBlock ∨ lv'.ownBlock = some w1.heap.size) (hc : c < y.m) :
    RB ((w2.setCell ⟨b, 8, none⟩ lv').setCell ⟨y.gh, c, none⟩ (.int .u64 z)) b y (upd f c z) lv' (log ++ [x]) ∧ But (Own b y.gh lv) w ((w2.setCell ⟨b, 8, none⟩ lv').setCell ⟨y.gh, c, none⟩ (.int .u64 z)) ∧ (lv'.ownBlock = lv.ownBlock ∨ ∃ j, lv'.ownBlock = some j ∧ w.heap.size ≤ j) := by
  have h1 := h.ext hx
  have B2 := but_grown hg
  have nbg : b ≠ y.gh := tag_ne h1.tb h1.th (by decide)
  have nbc : b ≠ y.gc := tag_ne h1.tb h1.tc (by decide)
  have nhc : y.gh ≠ y.gc := tag_ne h1.th h1.tc (by decide)
  have sb : ¬ (lv.ownBlock = some b) := fun e => tag_ne h1.tb (row_tagA h1.row e) (by decide) rfl
  have sg : ¬ (lv.ownBlock = some y.gh) := fun e => tag_ne h1.th (row_tagA h1.row e) (by decide) rfl
  have sc : ¬ (lv.ownBlock = some y.gc) := fun e => tag_ne h1.tc (row_tagA h1.row e) (by decide) rfl
  have lb : b < w1.heap.size := tag_lt h1.tb
  have lg : y.gh < w1.heap.size := tag_lt h1.th
  have nb' : ¬ (lv'.ownBlock = some b) := fun e => by
    rcases hat with e' | e'
    · rw [e] at e'; exact sb e'.symm
    · rw [e] at e'; have := Option.some.inj e'; omega
  have ng' : ¬ (lv'.ownBlock = some y.gh) := fun e => by
    rcases hat with e' | e'
    · rw [e] at e'; exact sg e'.symm
    · rw [e] at e'; have := Option.some.inj e'; omega
  have q8 := B2.cell h1.q8 sb
  have va2 := h1.va.but B2 sg
  have z8 := B2.frozen h1.q8 h1.z8 sb
  have C3 := but_setCell w2 ⟨b, 8, none⟩ lv'
  have C4 := but_setCell (w2.setCell ⟨b, 8, none⟩ lv') ⟨y.gh, c, none⟩ (.int .u64 z)
  have far : ∀ {j : Nat} {u : Value}, j ≠ 8 → w1.cell? ⟨b, j, none⟩ = some u → ((w2.setCell ⟨b, 8, none⟩ lv').setCell ⟨y.gh, c, none⟩ (.int .u64 z)).cell? ⟨b, j, none⟩ = some u := by
    intro j u hj hq
    refine C4.cell ?_ (by simpa using nbg)
    rw [World.cell?_setCell_other _ _ _ _ (fun e => hj (by cases e; rfl))]
    exact B2.cell hq sb
  refine ⟨⟨far (by decide) h1.q0, far (by decide) h1.q1, far (by decide) h1.q2, far (by decide) h1.q3, far (by decide) h1.q4, far (by decide) h1.q5, far (by decide) h1.q6, far (by decide) h1.q7, ?_, ?_, ?_, (h1.tb.but B2 sb).set.set, (h1.tc.but B2 sc).set.set, (h1.th.but B2 sg).set.set, ?_, ?_⟩, ?_, ?_⟩
  · exact C4.cell (World.cell?_setCell_same _ _ _ q8) (by simpa using nbg)
  · rw [World.frozen?_setCell, World.frozen?_setCell]
    exact z8
  · intro c' hc'
    exact C4.cell (C3.cell (B2.cell (h1.kc c' hc') sc) (by simpa using Ne.symm nbc)) (by simpa using Ne.symm nhc)
  · have v3 := va2.but C3 (by simpa using Ne.symm nbg)
    have v4 := va_set v3 (.int .u64 z) hc
    refine ⟨fun i hi => ?_, fun i hi => v4.z i hi⟩
    rw [v4.c i hi]
    unfold upd
    by_cases e : i = c
    · simp [e]
    · simp [e]
  · have r3 := C3.row hr (fun k hk e => nb' (by rw [hk]; simp at e; rw [e]))
    have r4 := C4.row r3 (fun k hk e => ng' (by rw [hk]; simp at e; rw [e]))
    rw [List.length_append, rowA_app]
    simpa [rowA] using r4
  · refine ⟨C4.os.trans (C3.os.trans (B2.os.trans hx.os)), C4.tape.trans (C3.tape.trans (B2.tape.trans hx.tape)), C4.output.trans (C3.output.trans (B2.output.trans hx.output)), Nat.le_trans hx.size (Nat.le_trans B2.size (Nat.le_trans C3.size C4.size)), ?_⟩
    intro k hk hs
    have hk1 : k < w1.heap.size := Nat.lt_of_lt_of_le hk hx.size
    have n1 : k ≠ b := fun e => hs (.inl e)
    have n2 : k ≠ y.gh := fun e => hs (.inr (.inl e))
    have n3 : ¬ lv.ownBlock = some k := fun e => hs (.inr (.inr e))
    rw [C4.block k (Nat.lt_of_lt_of_le hk1 (Nat.le_trans B2.size C3.size)) (by simpa using n2), C3.block k (Nat.lt_of_lt_of_le hk1 B2.size) (by simpa using n1), B2.block k hk1 n3, hx.block k hk]
  · rcases hat with e | e
    · exact .inl e
    · exact .inr ⟨_, e, hx.size⟩
/-- is a cell of a kind -/
def isK (y : RY) (c kind : Int) : Bool := decide (0 ≤ c) && decide (c < y.m) && (y.kf c.toNat == kind)
set_option maxRecDepth 100000 in
theorem rIs (b : Nat) (y : RY) (f : Nat → Int) (lv : Value) (log : List Acc) (c kind : Int) (w : World) (h : RB w b y f lv log) :
    Calls Tryz.prog 100 #[.pointer (some ⟨b, 0, none⟩), .int .i64 c, .int .i64 kind] w fun e w' => e = .returned (.bool (isK y c kind)) ∧ w = w' := by
  have q6 := h.q6
  have HK := Lib.hid h.kc
  clear h
  unfold isK
  by_cases h0 : c < 0
  · have d0 : decide (0 ≤ c) = false := by simp; omega
    rw [d0]
    clear h0
    go_enter Tryz.func100, Tryz.ntmps100
    go_wp2
    go_ret
    exact ⟨rfl, rfl⟩
  have d0 : decide (0 ≤ c) = true := by simp; omega
  by_cases h1 : c < y.m
  · obtain ⟨k, rfl⟩ : ∃ k : Nat, c = k := ⟨c.toNat, by omega⟩
    have d1 : decide ((k : Int) < (y.m : Int)) = true := by simpa using h1
    have kc := HK.out k (by omega)
    have hkm : (k : Int) < (y.m : Int) := h1
    rw [d0, d1, show ((k : Nat) : Int).toNat = k by omega]
    clear h0 HK
    generalize y.kf k = kk at *
    go_enter Tryz.func100, Tryz.ntmps100
    go_wp2
    go_ret
    exact ⟨ret_bool (by simp), rfl⟩
  · have d1 : decide (c < (y.m : Int)) = false := by simpa using h1
    rw [d0, d1]
    clear h0 h1 HK
    go_enter Tryz.func100, Tryz.ntmps100
    go_wp2
    go_ret
    exact ⟨ret_bool (by simp), rfl⟩
set_option maxRecDepth 100000 in
theorem rDo (b : Nat) (y : RY) (f : Nat → Int) (lv : Value) (log : List Acc) (t k : Int) (c : Nat) (z : Int) (w : World) (h : RB w b y f lv log) (hc : c < y.m) (hl : log.length ≤ 1000) :
    Calls Tryz.prog 102 #[.pointer (some ⟨b, 0, none⟩), .int .i64 t, .int .i64 k, .int .i64 c, .int .u64 z] w (RDoes b y lv (.int .u64 (f c)) (upd f c z) (log ++ [⟨t, k, c, f c, z⟩]) w) := by
  have q7 := h.q7
  have q8 := h.q8
  have qc := h.va.c c hc
  have hcm : (c : Int) < (y.m : Int) := by omega
  have HB := Lib.hid h
  have HG : Hid (∀ w1 w2 lv', Ext w w1 → w2.ownsRow 0 91 5 lv' (log.length + 1) (rowA log ++ acV ⟨t, k, c, f c, z⟩) → w1.grownBy w2 lv.ownBlock → (lv'.ownBlock = lv.ownBlock ∨ lv'.ownBlock = some w1.heap.size) → RDoes b y lv (.int .u64 (f c)) (upd f c z) (log ++ [⟨t, k, c, f c, z⟩]) w (.returned (.int .u64 (f c))) ((w2.setCell ⟨b, 8, none⟩ lv').setCell ⟨y.gh, c, none⟩ (.int .u64 z))) := Lib.hid (fun w1 w2 lv' e1 e2 e3 e4 => by
    obtain ⟨t1, t2, t3⟩ := touchedR h e1 e2 e3 e4 hc (z := z)
    exact ⟨rfl, lv', t1, t2, t3⟩)
  have HF : Hid (∀ w1 w2, Ext w w1 → w1.grownBy w2 lv.ownBlock → w2.cell? ⟨b, 7, none⟩ = some (.slice (some ⟨y.gh, 0, none⟩) y.m y.ch) ∧ w2.cell? ⟨b, 8, none⟩ = some lv ∧ w2.frozen? ⟨b, 8, none⟩ = false ∧ w2.cell? ⟨y.gh, c, none⟩ = some (.int .u64 (f c)) ∧ w2.frozen? ⟨y.gh, c, none⟩ = false ∧ b ≠ y.gh) := Lib.hid (fun w1 w2 hx hg => by
    have h1 := h.ext hx
    have B2 := but_grown hg
    have sb : ¬ (lv.ownBlock = some b) := fun e => tag_ne h1.tb (row_tagA h1.row e) (by decide) rfl
    have sg : ¬ (lv.ownBlock = some y.gh) := fun e => tag_ne h1.th (row_tagA h1.row e) (by decide) rfl
    exact ⟨B2.cell h1.q7 sb, B2.cell h1.q8 sb, B2.frozen h1.q8 h1.z8 sb, B2.cell (h1.va.c c hc) sg, B2.frozen (h1.va.c c hc) (h1.va.z c hc) sg, tag_ne h1.tb h1.th (by decide)⟩)
  generalize RDoes b y lv (.int .u64 (f c)) (upd f c z) (log ++ [⟨t, k, c, f c, z⟩]) w = G at *
  generalize f c = o at *
  obtain ⟨i0, hi, hz0, hz1, hz2⟩ := info_parts info_acc
  clear h
  go_enter Tryz.func102, Tryz.ntmps102
  go_wp2_with (at_builtin; refine wpList_append_own_at _ rfl _ _ 50 rfl 0 91 i0 (.agg #[.int .i64 0, .int .i64 0, .int .i64 0, .int .u64 0, .int .u64 0]) 5 40 Tryz.underlying50 hi hz0 hz1 hz2 rfl (by decide) lv log.length (rowA log) rfl (((Ext.refl w).alloc _).row HB.out.row) ⟨w.heap.size, 0, none⟩ 1 1 (acV ⟨t, k, c, o, z⟩) rfl rfl ?c1 ?c2 ?c3 ?c4 ?c5 ?_)
  case c1 =>
    intro j u hu
    match j, hu with
    | 0, hu => simp [acV] at hu; subst hu; simp [go_sem, Addr.add]
    | 1, hu => simp [acV] at hu; subst hu; simp [go_sem, Addr.add]
    | 2, hu => simp [acV] at hu; subst hu; simp [go_sem, Addr.add]
    | 3, hu => simp [acV] at hu; subst hu; simp [go_sem, Addr.add]
    | 4, hu => simp [acV] at hu; subst hu; simp [go_sem, Addr.add]
    | j + 5, hu => simp [acV] at hu
  case c2 => intro u hu; simp [acV] at hu; rcases hu with rfl | rfl | rfl | rfl | rfl <;> rfl
  case c3 => unfold maxLen; omega
  case c4 => omega
  case c5 => exact Nat.zero_le _
  intro v' w2 h1 h2 _ h4
  obtain ⟨a', n', c', ev'⟩ : ∃ a n c, v' = .slice a n c := by
    rcases h1.2 with ⟨e1, _⟩ | ⟨g', cap', cur, e1, _⟩
    · exact ⟨_, _, _, e1⟩
    · exact ⟨_, _, _, e1⟩
  subst ev'
  have HG2 := Lib.hid (HG.out _ w2 (.slice a' n' c') ((Ext.refl w).alloc _) h1 h2 (by simpa using h4))
  obtain ⟨g7, g8, gz8, gc, gzc, hbg⟩ := HF.out _ w2 ((Ext.refl w).alloc _) h2
  have hgb : y.gh ≠ b := Ne.symm hbg
  clear h1 h2 h4 q7 q8 qc HB
  go_wp2
  exact HG2.out
set_option maxRecDepth 100000 in
theorem rLook (b : Nat) (y : RY) (f : Nat → Int) (lv : Value) (log : List Acc) (t k : Int) (c : Nat) (w : World) (h : RB w b y f lv log) (hc : c < y.m) (hl : log.length ≤ 1000) :
    Calls Tryz.prog 101 #[.pointer (some ⟨b, 0, none⟩), .int .i64 t, .int .i64 k, .int .i64 c] w (RDoes b y lv (.int .u64 (f c)) f (log ++ [⟨t, k, c, f c, f c⟩]) w) := by
  have q7 := h.q7
  have qc := h.va.c c hc
  have hcm : (c : Int) < (y.m : Int) := by omega
  have C0 := rDo b y f lv log t k c (f c) w h hc hl
  rw [upd_same] at C0
  have C := Lib.hid C0
  clear C0 h
  generalize hfo : f c = o at *
  have HFO := Lib.hid hfo
  clear hfo
  go_enter Tryz.func101, Tryz.ntmps101
  go_wp2_with fail
  refine C.out.mono ?_
  rintro e w1 ⟨rfl, R1⟩
  have HR := Lib.hid R1
  clear R1
  go_wp2
  go_ret
  exact ⟨rfl, HR.out⟩
end Go.Proofs.YtaimmpcijdpgdabGreatDoor
/- The document's accesses; the law's model. -/
namespace Go.Proofs.YtaimmpcijdpgdabGreatDoor
open Go.RowKit
set_option linter.unusedVariables false
set_option linter.unusedSimpArgs false
set_option maxHeartbeats 2000000
attribute [local go_sem] later_cell later_frozen later_const
set_option maxRecDepth 100000 in
theorem rLoad_no (b : Nat) (r : RY) (f : Nat → Int) (lv : Value) (log : List Acc) (t c : Int) (w : World) (h : RB w b r f lv log) (hk : isK r c 1 = false) : Calls Tryz.prog 57 #[.pointer (some ⟨b, 0, none⟩), .int .i64 t, .int .i64 c] w (RDoes b r lv (.int .u64 0) f log w) := by
  have C0 := rIs b r f lv log c 1 w h
  rw [hk] at C0
  have C := Lib.hid C0
  have HG2 : Hid ((RDoes b r lv (.int .u64 0) f log w) (.returned (.int .u64 0)) w) := Lib.hid (rdoes_same h (Ext.refl _))
  generalize (RDoes b r lv (.int .u64 0) f log w) = G at *
  clear C0 h hk
  go_enter Tryz.func57, Tryz.ntmps57
  go_wp2_with fail
  refine C.out.mono ?_
  rintro e w' ⟨rfl, rfl⟩
  go_wp2
  exact HG2.out
set_option maxRecDepth 100000 in
theorem rLoad_yes (b : Nat) (r : RY) (f : Nat → Int) (lv : Value) (log : List Acc) (t : Int) (c : Nat) (w : World) (h : RB w b r f lv log) (hk : isK r c 1 = true) (hc : c < r.m) (hl : log.length ≤ 1000)  : Calls Tryz.prog 57 #[.pointer (some ⟨b, 0, none⟩), .int .i64 t, .int .i64 c] w (RDoes b r lv (.int .u64 (f c)) f (log ++ [⟨t, 1, c, f c, f c⟩]) w) := by
  have C0 := rIs b r f lv log c 1 w h
  rw [hk] at C0
  have C := Lib.hid C0
  have CD := Lib.hid (rLook b r f lv log t 1 c w h hc hl)
  have HG : Hid (∀ w2, (∃ lv', RB w2 b r f lv' (log ++ [⟨t, 1, c, f c, f c⟩]) ∧ But (Own b r.gh lv) w w2 ∧ (lv'.ownBlock = lv.ownBlock ∨ ∃ j, lv'.ownBlock = some j ∧ w.heap.size ≤ j)) → (RDoes b r lv (.int .u64 (f c)) f (log ++ [⟨t, 1, c, f c, f c⟩]) w) (.returned (.int .u64 (f c))) w2) := Lib.hid (fun w2 R => ⟨rfl, R⟩)
  generalize hGd : (RDoes b r lv (.int .u64 (f c)) f (log ++ [⟨t, 1, c, f c, f c⟩]) w) = G at HG ⊢
  clear C0 h hk hGd
  go_enter Tryz.func57, Tryz.ntmps57
  go_wp2_with fail
  refine C.out.mono ?_
  rintro e w' ⟨rfl, rfl⟩
  go_wp2_with fail
  refine CD.out.mono ?_
  rintro e w2 ⟨rfl, R2⟩
  have HG2 := Lib.hid (HG.out w2 R2)
  clear R2
  go_wp2
  exact HG2.out
set_option maxRecDepth 100000 in
theorem rRead_no (b : Nat) (r : RY) (f : Nat → Int) (lv : Value) (log : List Acc) (t c : Int) (w : World) (h : RB w b r f lv log) (hk : isK r c 2 = false) : Calls Tryz.prog 62 #[.pointer (some ⟨b, 0, none⟩), .int .i64 t, .int .i64 c] w (RDoes b r lv (.int .u64 0) f log w) := by
  have C0 := rIs b r f lv log c 2 w h
  rw [hk] at C0
  have C := Lib.hid C0
  have HG2 : Hid ((RDoes b r lv (.int .u64 0) f log w) (.returned (.int .u64 0)) w) := Lib.hid (rdoes_same h (Ext.refl _))
  generalize (RDoes b r lv (.int .u64 0) f log w) = G at *
  clear C0 h hk
  go_enter Tryz.func62, Tryz.ntmps62
  go_wp2_with fail
  refine C.out.mono ?_
  rintro e w' ⟨rfl, rfl⟩
  go_wp2
  exact HG2.out
set_option maxRecDepth 100000 in
theorem rRead_yes (b : Nat) (r : RY) (f : Nat → Int) (lv : Value) (log : List Acc) (t : Int) (c : Nat) (w : World) (h : RB w b r f lv log) (hk : isK r c 2 = true) (hc : c < r.m) (hl : log.length ≤ 1000)  : Calls Tryz.prog 62 #[.pointer (some ⟨b, 0, none⟩), .int .i64 t, .int .i64 c] w (RDoes b r lv (.int .u64 (f c)) f (log ++ [⟨t, 6, c, f c, f c⟩]) w) := by
  have C0 := rIs b r f lv log c 2 w h
  rw [hk] at C0
  have C := Lib.hid C0
  have CD := Lib.hid (rLook b r f lv log t 6 c w h hc hl)
  have HG : Hid (∀ w2, (∃ lv', RB w2 b r f lv' (log ++ [⟨t, 6, c, f c, f c⟩]) ∧ But (Own b r.gh lv) w w2 ∧ (lv'.ownBlock = lv.ownBlock ∨ ∃ j, lv'.ownBlock = some j ∧ w.heap.size ≤ j)) → (RDoes b r lv (.int .u64 (f c)) f (log ++ [⟨t, 6, c, f c, f c⟩]) w) (.returned (.int .u64 (f c))) w2) := Lib.hid (fun w2 R => ⟨rfl, R⟩)
  generalize hGd : (RDoes b r lv (.int .u64 (f c)) f (log ++ [⟨t, 6, c, f c, f c⟩]) w) = G at HG ⊢
  clear C0 h hk hGd
  go_enter Tryz.func62, Tryz.ntmps62
  go_wp2_with fail
  refine C.out.mono ?_
  rintro e w' ⟨rfl, rfl⟩
  go_wp2_with fail
  refine CD.out.mono ?_
  rintro e w2 ⟨rfl, R2⟩
  have HG2 := Lib.hid (HG.out w2 R2)
  clear R2
  go_wp2
  exact HG2.out
set_option maxRecDepth 100000 in
theorem rStore_no (b : Nat) (r : RY) (f : Nat → Int) (lv : Value) (log : List Acc) (t c z : Int) (w : World) (h : RB w b r f lv log) (hk : isK r c 1 = false) : Calls Tryz.prog 58 #[.pointer (some ⟨b, 0, none⟩), .int .i64 t, .int .i64 c, .int .u64 z] w (RDoes b r lv (.tuple #[]) f log w) := by
  have C0 := rIs b r f lv log c 1 w h
  rw [hk] at C0
  have C := Lib.hid C0
  have HG2 : Hid ((RDoes b r lv (.tuple #[]) f log w) (.returned (.tuple #[])) w) := Lib.hid (rdoes_same h (Ext.refl _))
  generalize (RDoes b r lv (.tuple #[]) f log w) = G at *
  clear C0 h hk
  go_enter Tryz.func58, Tryz.ntmps58
  go_wp2_with fail
  refine C.out.mono ?_
  rintro e w' ⟨rfl, rfl⟩
  go_wp2
  refine bodyPost_ret (v := .tuple #[]) (by simp [results, Tryz.results58, go_sem]) rfl ?_
  exact HG2.out
set_option maxRecDepth 100000 in
theorem rStore_yes (b : Nat) (r : RY) (f : Nat → Int) (lv : Value) (log : List Acc) (t z : Int) (c : Nat) (w : World) (h : RB w b r f lv log) (hk : isK r c 1 = true) (hc : c < r.m) (hl : log.length ≤ 1000)  : Calls Tryz.prog 58 #[.pointer (some ⟨b, 0, none⟩), .int .i64 t, .int .i64 c, .int .u64 z] w (RDoes b r lv (.tuple #[]) (upd f c z) (log ++ [⟨t, 2, c, f c, z⟩]) w) := by
  have C0 := rIs b r f lv log c 1 w h
  rw [hk] at C0
  have C := Lib.hid C0
  have CD := Lib.hid (rDo b r f lv log t 2 c z w h hc hl)
  have HG : Hid (∀ w2, (∃ lv', RB w2 b r (upd f c z) lv' (log ++ [⟨t, 2, c, f c, z⟩]) ∧ But (Own b r.gh lv) w w2 ∧ (lv'.ownBlock = lv.ownBlock ∨ ∃ j, lv'.ownBlock = some j ∧ w.heap.size ≤ j)) → (RDoes b r lv (.tuple #[]) (upd f c z) (log ++ [⟨t, 2, c, f c, z⟩]) w) (.returned (.tuple #[])) w2) := Lib.hid (fun w2 R => ⟨rfl, R⟩)
  generalize hGd : (RDoes b r lv (.tuple #[]) (upd f c z) (log ++ [⟨t, 2, c, f c, z⟩]) w) = G at HG ⊢
  clear C0 h hk hGd
  go_enter Tryz.func58, Tryz.ntmps58
  go_wp2_with fail
  refine C.out.mono ?_
  rintro e w' ⟨rfl, rfl⟩
  go_wp2_with fail
  refine CD.out.mono ?_
  rintro e w2 ⟨rfl, R2⟩
  have HG2 := Lib.hid (HG.out w2 R2)
  clear R2
  go_wp2
  refine bodyPost_ret (v := .tuple #[]) (by simp [results, Tryz.results58, go_sem]) rfl ?_
  exact HG2.out
set_option maxRecDepth 100000 in
theorem rWrite_no (b : Nat) (r : RY) (f : Nat → Int) (lv : Value) (log : List Acc) (t c z : Int) (w : World) (h : RB w b r f lv log) (hk : isK r c 2 = false) : Calls Tryz.prog 63 #[.pointer (some ⟨b, 0, none⟩), .int .i64 t, .int .i64 c, .int .u64 z] w (RDoes b r lv (.tuple #[]) f log w) := by
  have C0 := rIs b r f lv log c 2 w h
  rw [hk] at C0
  have C := Lib.hid C0
  have HG2 : Hid ((RDoes b r lv (.tuple #[]) f log w) (.returned (.tuple #[])) w) := Lib.hid (rdoes_same h (Ext.refl _))
  generalize (RDoes b r lv (.tuple #[]) f log w) = G at *
  clear C0 h hk
  go_enter Tryz.func63, Tryz.ntmps63
  go_wp2_with fail
  refine C.out.mono ?_
  rintro e w' ⟨rfl, rfl⟩
  go_wp2
  refine bodyPost_ret (v := .tuple #[]) (by simp [results, Tryz.results63, go_sem]) rfl ?_
  exact HG2.out
set_option maxRecDepth 100000 in
theorem rWrite_yes (b : Nat) (r : RY) (f : Nat → Int) (lv : Value) (log : List Acc) (t z : Int) (c : Nat) (w : World) (h : RB w b r f lv log) (hk : isK r c 2 = true) (hc : c < r.m) (hl : log.length ≤ 1000)  : Calls Tryz.prog 63 #[.pointer (some ⟨b, 0, none⟩), .int .i64 t, .int .i64 c, .int .u64 z] w (RDoes b r lv (.tuple #[]) (upd f c z) (log ++ [⟨t, 7, c, f c, z⟩]) w) := by
  have C0 := rIs b r f lv log c 2 w h
  rw [hk] at C0
  have C := Lib.hid C0
  have CD := Lib.hid (rDo b r f lv log t 7 c z w h hc hl)
  have HG : Hid (∀ w2, (∃ lv', RB w2 b r (upd f c z) lv' (log ++ [⟨t, 7, c, f c, z⟩]) ∧ But (Own b r.gh lv) w w2 ∧ (lv'.ownBlock = lv.ownBlock ∨ ∃ j, lv'.ownBlock = some j ∧ w.heap.size ≤ j)) → (RDoes b r lv (.tuple #[]) (upd f c z) (log ++ [⟨t, 7, c, f c, z⟩]) w) (.returned (.tuple #[])) w2) := Lib.hid (fun w2 R => ⟨rfl, R⟩)
  generalize hGd : (RDoes b r lv (.tuple #[]) (upd f c z) (log ++ [⟨t, 7, c, f c, z⟩]) w) = G at HG ⊢
  clear C0 h hk hGd
  go_enter Tryz.func63, Tryz.ntmps63
  go_wp2_with fail
  refine C.out.mono ?_
  rintro e w' ⟨rfl, rfl⟩
  go_wp2_with fail
  refine CD.out.mono ?_
  rintro e w2 ⟨rfl, R2⟩
  have HG2 := Lib.hid (HG.out w2 R2)
  clear R2
  go_wp2
  refine bodyPost_ret (v := .tuple #[]) (by simp [results, Tryz.results63, go_sem]) rfl ?_
  exact HG2.out
set_option maxRecDepth 100000 in
theorem rAdd_no (b : Nat) (r : RY) (f : Nat → Int) (lv : Value) (log : List Acc) (t c n : Int) (w : World) (h : RB w b r f lv log) (hk : isK r c 1 = false) : Calls Tryz.prog 60 #[.pointer (some ⟨b, 0, none⟩), .int .i64 t, .int .i64 c, .int .i64 n] w (RDoes b r lv (.int .u64 0) f log w) := by
  have C0 := rIs b r f lv log c 1 w h
  rw [hk] at C0
  have C := Lib.hid C0
  have HG2 : Hid ((RDoes b r lv (.int .u64 0) f log w) (.returned (.int .u64 0)) w) := Lib.hid (rdoes_same h (Ext.refl _))
  generalize (RDoes b r lv (.int .u64 0) f log w) = G at *
  clear C0 h hk
  go_enter Tryz.func60, Tryz.ntmps60
  go_wp2_with fail
  refine C.out.mono ?_
  rintro e w' ⟨rfl, rfl⟩
  go_wp2
  exact HG2.out
theorem rPlusW (W a n : Int) (w : World) (hW : W = 32 ∨ W = 64) : Calls Tryz.prog 103 #[.int .i64 W, .int .u64 a, .int .i64 n] w fun e w' => e = .returned (.int .u64 (plusW W a n)) ∧ w = w' := by
  rcases hW with rfl | rfl
  · exact rPlus_32 a n w
  · exact rPlus_64 a n w
theorem rCutW (W a : Int) (w : World) (hW : W = 32 ∨ W = 64) (h0 : 0 ≤ a) : Calls Tryz.prog 59 #[.int .i64 W, .int .u64 a] w fun e w' => e = .returned (.int .u64 (cutS W a)) ∧ w = w' := by
  rcases hW with rfl | rfl
  · exact rCut_32 a w h0
  · exact rCut_64 a w
set_option maxRecDepth 100000 in
theorem rAdd_yes (b : Nat) (r : RY) (f : Nat → Int) (lv : Value) (log : List Acc) (t n : Int) (c : Nat) (w : World) (h : RB w b r f lv log) (hk : isK r c 1 = true) (hc : c < r.m) (hl : log.length ≤ 1000) (hW : r.W = 32 ∨ r.W = 64) : Calls Tryz.prog 60 #[.pointer (some ⟨b, 0, none⟩), .int .i64 t, .int .i64 c, .int .i64 n] w (RDoes b r lv (.int .u64 (f c)) (upd f c (plusW r.W (f c) n)) (log ++ [⟨t, 3, c, f c, (plusW r.W (f c) n)⟩]) w) := by
  have C0 := rIs b r f lv log c 1 w h
  rw [hk] at C0
  have C := Lib.hid C0
  have CP := Lib.hid (fun w => rPlusW r.W (f c) n w hW)
  have CD := Lib.hid (fun w' (hx : Ext w w') => rDo b r f lv log t 3 c (plusW r.W (f c) n) w' (h.ext hx) hc hl)
  have HG : Hid (∀ w1 w2 lv', Ext w w1 → RB w2 b r (upd f c (plusW r.W (f c) n)) lv' (log ++ [⟨t, 3, c, f c, (plusW r.W (f c) n)⟩]) → But (Own b r.gh lv) w1 w2 → (lv'.ownBlock = lv.ownBlock ∨ ∃ j, lv'.ownBlock = some j ∧ w1.heap.size ≤ j) → (RDoes b r lv (.int .u64 (f c)) (upd f c (plusW r.W (f c) n)) (log ++ [⟨t, 3, c, f c, (plusW r.W (f c) n)⟩]) w) (.returned (.int .u64 (f c))) w2) := Lib.hid (fun w1 w2 lv' a1 a2 a3 a4 => rdoes_wrap a1 a2 a3 a4 (Ext.refl _))
  have F1 := fun w' (hx : Ext w w') => hx.cell h.q1
  have F7 := fun w' (hx : Ext w w') => hx.cell h.q7
  have FC := fun w' (hx : Ext w w') => hx.cell (h.va.c c hc)
  have hcm : (c : Int) < (r.m : Int) := by omega
  generalize hGd : (RDoes b r lv (.int .u64 (f c)) (upd f c (plusW r.W (f c) n)) (log ++ [⟨t, 3, c, f c, (plusW r.W (f c) n)⟩]) w) = G at *
  generalize plusW r.W (f c) n = z at *
  generalize hfo : f c = oo at *
  have HFO := Lib.hid hfo
  clear C0 h hk hGd hfo
  go_enter Tryz.func60, Tryz.ntmps60
  go_wp2_with fail
  refine C.out.mono ?_
  rintro e w' ⟨rfl, rfl⟩
  go_upto_region 3 with (fail)
  refine wp_region_D (fun i => decide (i ≤ 16)) (by kernel_rfl) ?_
  refine take_D (i := 0) (v := ?_) rfl rfl rfl (by kernel_rfl) (by kernel_rfl) (by kernel_rfl) (by kernel_rfl) (by kernel_rfl) ((Ext.refl w).drew) ?hy0 ?_
  case hy0 => intro wz hSw; (try dsimp only at hSw); go_simp <;> with_reducible rfl
  simp only [List.setIfInBounds_toArray, List.set_cons_zero, List.set_cons_succ]
  refine take_D (i := 1) (v := ?_) rfl rfl rfl (by kernel_rfl) (by kernel_rfl) (by kernel_rfl) (by kernel_rfl) (by kernel_rfl) ((Ext.refl w).drew) ?hy1 ?_
  case hy1 => intro wz hSw; (try dsimp only at hSw); go_simp <;> with_reducible rfl
  simp only [List.setIfInBounds_toArray, List.set_cons_zero, List.set_cons_succ]
  refine take_D (i := 2) (v := ?_) rfl rfl rfl (by kernel_rfl) (by kernel_rfl) (by kernel_rfl) (by kernel_rfl) (by kernel_rfl) ((Ext.refl w).drew) ?hy2 ?_
  case hy2 => intro wz hSw; (try dsimp only at hSw); go_simp <;> with_reducible rfl
  simp only [List.setIfInBounds_toArray, List.set_cons_zero, List.set_cons_succ]
  refine take_D (i := 3) (v := ?_) rfl rfl rfl (by kernel_rfl) (by kernel_rfl) (by kernel_rfl) (by kernel_rfl) (by kernel_rfl) ((Ext.refl w).drew) ?hy3 ?_
  case hy3 => intro wz hSw; (try dsimp only at hSw); go_simp <;> with_reducible rfl
  simp only [List.setIfInBounds_toArray, List.set_cons_zero, List.set_cons_succ]
  refine take_D (i := 4) (v := ?_) rfl rfl rfl (by kernel_rfl) (by kernel_rfl) (by kernel_rfl) (by kernel_rfl) (by kernel_rfl) ((Ext.refl w).drew) ?hy4 ?_
  case hy4 => intro wz hSw; (try dsimp only at hSw); go_simp <;> with_reducible rfl
  simp only [List.setIfInBounds_toArray, List.set_cons_zero, List.set_cons_succ]
  refine take_D (i := 5) (v := ?_) rfl rfl rfl (by kernel_rfl) (by kernel_rfl) (by kernel_rfl) (by kernel_rfl) (by kernel_rfl) ((Ext.refl w).drew) ?hy5 ?_
  case hy5 => intro wz hSw; (try dsimp only at hSw); go_simp <;> with_reducible rfl
  simp only [List.setIfInBounds_toArray, List.set_cons_zero, List.set_cons_succ]
  refine take_D (i := 6) (v := ?_) rfl rfl rfl (by kernel_rfl) (by kernel_rfl) (by kernel_rfl) (by kernel_rfl) (by kernel_rfl) ((Ext.refl w).drew) ?hy6 ?_
  case hy6 => intro wz hSw; (try dsimp only at hSw); go_simp <;> with_reducible rfl
  simp only [List.setIfInBounds_toArray, List.set_cons_zero, List.set_cons_succ]
  refine take_D (i := 7) (v := ?_) rfl rfl rfl (by kernel_rfl) (by kernel_rfl) (by kernel_rfl) (by kernel_rfl) (by kernel_rfl) ((Ext.refl w).drew) ?hy7 ?_
  case hy7 => intro wz hSw; (try dsimp only at hSw); go_simp <;> with_reducible rfl
  simp only [List.setIfInBounds_toArray, List.set_cons_zero, List.set_cons_succ]
  refine take_D (i := 8) (v := ?_) rfl rfl rfl (by kernel_rfl) (by kernel_rfl) (by kernel_rfl) (by kernel_rfl) (by kernel_rfl) ((Ext.refl w).drew) ?hy8 ?_
  case hy8 => intro wz hSw; (try dsimp only at hSw); go_simp <;> with_reducible rfl
  simp only [List.setIfInBounds_toArray, List.set_cons_zero, List.set_cons_succ]
  refine take_D (i := 9) (v := ?_) rfl rfl rfl (by kernel_rfl) (by kernel_rfl) (by kernel_rfl) (by kernel_rfl) (by kernel_rfl) ((Ext.refl w).drew) ?hy9 ?_
  case hy9 => intro wz hSw; (try dsimp only at hSw); go_simp <;> with_reducible rfl
  simp only [List.setIfInBounds_toArray, List.set_cons_zero, List.set_cons_succ]
  refine take_D (i := 10) (v := ?_) rfl rfl rfl (by kernel_rfl) (by kernel_rfl) (by kernel_rfl) (by kernel_rfl) (by kernel_rfl) ((Ext.refl w).drew) ?hy10 ?_
  case hy10 => intro wz hSw; (try dsimp only at hSw); go_simp <;> with_reducible rfl
  simp only [List.setIfInBounds_toArray, List.set_cons_zero, List.set_cons_succ]
  refine take_D (i := 11) (v := ?_) rfl rfl rfl (by kernel_rfl) (by kernel_rfl) (by kernel_rfl) (by kernel_rfl) (by kernel_rfl) ((Ext.refl w).drew) ?hy11 ?_
  case hy11 => intro wz hSw; (try dsimp only at hSw); go_simp <;> with_reducible rfl
  simp only [List.setIfInBounds_toArray, List.set_cons_zero, List.set_cons_succ]
  refine take_D (i := 12) (v := ?_) rfl rfl rfl (by kernel_rfl) (by kernel_rfl) (by kernel_rfl) (by kernel_rfl) (by kernel_rfl) ((Ext.refl w).drew) ?hy12 ?_
  case hy12 => intro wz hSw; (try dsimp only at hSw); go_simp <;> with_reducible rfl
  simp only [List.setIfInBounds_toArray, List.set_cons_zero, List.set_cons_succ]
  refine take_D (i := 13) (v := ?_) rfl rfl rfl (by kernel_rfl) (by kernel_rfl) (by kernel_rfl) (by kernel_rfl) (by kernel_rfl) ((Ext.refl w).drew) ?hy13 ?_
  case hy13 => intro wz hSw; (try dsimp only at hSw); go_simp <;> with_reducible rfl
  simp only [List.setIfInBounds_toArray, List.set_cons_zero, List.set_cons_succ]
  refine take_D (i := 14) (v := ?_) rfl rfl rfl (by kernel_rfl) (by kernel_rfl) (by kernel_rfl) (by kernel_rfl) (by kernel_rfl) ((Ext.refl w).drew) ?hy14 ?_
  case hy14 => intro wz hSw; (try dsimp only at hSw); go_simp <;> with_reducible rfl
  simp only [List.setIfInBounds_toArray, List.set_cons_zero, List.set_cons_succ]
  refine take_D (i := 15) (v := ?_) rfl rfl rfl (by kernel_rfl) (by kernel_rfl) (by kernel_rfl) (by kernel_rfl) (by kernel_rfl) ((Ext.refl w).drew) ?hy15 ?_
  case hy15 => intro wz hSw; (try dsimp only at hSw); go_simp <;> with_reducible rfl
  simp only [List.setIfInBounds_toArray, List.set_cons_zero, List.set_cons_succ]
  refine last_D (n := 16) rfl rfl (fun j hj => by simp; omega) (by kernel_rfl) ?_
  clear F1 F7 FC
  go_wp2_with fail
  refine (CP.out _).mono ?_
  rintro e w' ⟨rfl, rfl⟩
  go_wp2
  refine ⟨(Ext.refl w).drew, ?_⟩
  go_wp2_with fail
  refine (CD.out _ ((Ext.refl w).drew)).mono ?_
  rintro e w2 ⟨rfl, lv', B2, T2, A2⟩
  try rw [HFO.out] at B2
  have HG2 := Lib.hid (HG.out _ w2 lv' ((Ext.refl w).drew) B2 T2 A2)
  clear B2 T2 A2
  go_wp2
  refine off_normal ?_
  go_wp2
  exact HG2.out
set_option maxRecDepth 100000 in
theorem rSwap_no (b : Nat) (r : RY) (f : Nat → Int) (lv : Value) (log : List Acc) (t c o z : Int) (w : World) (h : RB w b r f lv log) (hk : isK r c 1 = false) : Calls Tryz.prog 61 #[.pointer (some ⟨b, 0, none⟩), .int .i64 t, .int .i64 c, .int .u64 o, .int .u64 z] w (RDoes b r lv (.bool false) f log w) := by
  have C0 := rIs b r f lv log c 1 w h
  rw [hk] at C0
  have C := Lib.hid C0
  have HG2 : Hid ((RDoes b r lv (.bool false) f log w) (.returned (.bool false)) w) := Lib.hid (rdoes_same h (Ext.refl _))
  generalize (RDoes b r lv (.bool false) f log w) = G at *
  clear C0 h hk
  go_enter Tryz.func61, Tryz.ntmps61
  go_wp2_with fail
  refine C.out.mono ?_
  rintro e w' ⟨rfl, rfl⟩
  go_wp2
  exact HG2.out
set_option maxRecDepth 100000 in
theorem rSwap_miss (b : Nat) (r : RY) (f : Nat → Int) (lv : Value) (log : List Acc) (t o z : Int) (c : Nat) (w : World) (h : RB w b r f lv log) (hk : isK r c 1 = true) (hc : c < r.m) (hl : log.length ≤ 1000) (ho : (f c == o) = false) : Calls Tryz.prog 61 #[.pointer (some ⟨b, 0, none⟩), .int .i64 t, .int .i64 c, .int .u64 o, .int .u64 z] w (RDoes b r lv (.bool false) f (log ++ [⟨t, 5, c, f c, f c⟩]) w) := by
  have C0 := rIs b r f lv log c 1 w h
  rw [hk] at C0
  have C := Lib.hid C0
  have CD := Lib.hid (rLook b r f lv log t 5 c w h hc hl)
  have HG : Hid (∀ w2, (∃ lv', RB w2 b r f lv' (log ++ [⟨t, 5, c, f c, f c⟩]) ∧ But (Own b r.gh lv) w w2 ∧ (lv'.ownBlock = lv.ownBlock ∨ ∃ j, lv'.ownBlock = some j ∧ w.heap.size ≤ j)) → (RDoes b r lv (.bool false) f (log ++ [⟨t, 5, c, f c, f c⟩]) w) (.returned (.bool false)) w2) := Lib.hid (fun w2 R => ⟨rfl, R⟩)
  have q7 := h.q7
  have qc := h.va.c c hc
  have hcm : (c : Int) < (r.m : Int) := by omega
  generalize hGd : (RDoes b r lv (.bool false) f (log ++ [⟨t, 5, c, f c, f c⟩]) w) = G at HG ⊢
  clear C0 h hk hGd
  go_enter Tryz.func61, Tryz.ntmps61
  go_wp2_with fail
  refine C.out.mono ?_
  rintro e w' ⟨rfl, rfl⟩
  go_wp2_with fail
  refine CD.out.mono ?_
  rintro e w2 ⟨rfl, R2⟩
  have HG2 := Lib.hid (HG.out w2 R2)
  clear R2
  go_wp2
  exact HG2.out
set_option maxRecDepth 100000 in
theorem rSwap_yes (b : Nat) (r : RY) (f : Nat → Int) (lv : Value) (log : List Acc) (t o z : Int) (c : Nat) (w : World) (h : RB w b r f lv log) (hk : isK r c 1 = true) (hc : c < r.m) (hl : log.length ≤ 1000) (ho : f c = o) : Calls Tryz.prog 61 #[.pointer (some ⟨b, 0, none⟩), .int .i64 t, .int .i64 c, .int .u64 o, .int .u64 z] w (RDoes b r lv (.bool true) (upd f c z) (log ++ [⟨t, 4, c, f c, z⟩]) w) := by
  have C0 := rIs b r f lv log c 1 w h
  rw [hk] at C0
  have C := Lib.hid C0
  have CD := Lib.hid (rDo b r f lv log t 4 c z w h hc hl)
  have HG : Hid (∀ w2, (∃ lv', RB w2 b r (upd f c z) lv' (log ++ [⟨t, 4, c, f c, z⟩]) ∧ But (Own b r.gh lv) w w2 ∧ (lv'.ownBlock = lv.ownBlock ∨ ∃ j, lv'.ownBlock = some j ∧ w.heap.size ≤ j)) → (RDoes b r lv (.bool true) (upd f c z) (log ++ [⟨t, 4, c, f c, z⟩]) w) (.returned (.bool true)) w2) := Lib.hid (fun w2 R => ⟨rfl, R⟩)
  have q7 := h.q7
  have qc := h.va.c c hc
  rw [ho] at qc
  have hcm : (c : Int) < (r.m : Int) := by omega
  generalize hGd : (RDoes b r lv (.bool true) (upd f c z) (log ++ [⟨t, 4, c, f c, z⟩]) w) = G at HG ⊢
  clear C0 h hk hGd
  go_enter Tryz.func61, Tryz.ntmps61
  go_wp2_with fail
  refine C.out.mono ?_
  rintro e w' ⟨rfl, rfl⟩
  go_wp2_with fail
  refine CD.out.mono ?_
  rintro e w2 ⟨rfl, R2⟩
  have HG2 := Lib.hid (HG.out w2 R2)
  clear R2
  go_wp2
  exact HG2.out
set_option maxRecDepth 100000 in
theorem rSlot12 (b : Nat) (r : RY) (f : Nat → Int) (lv : Value) (log : List Acc) (s : Int) (w : World) (h : RB w b r f lv log) (Sl : Int) (hS : Sl + r.C = r.m) (h0 : 0 ≤ Sl) (hC : 0 ≤ r.C) (hm : r.m ≤ 1000) : Calls Tryz.prog 104 #[.pointer (some ⟨b, 0, none⟩), .int .i64 s] w fun e w' => e = .returned (.int .i64 (plc Sl r.C s)) ∧ Ext w w' := by
  have q2 := h.q2
  have q6 := h.q6
  clear h
  unfold plc
  by_cases k0 : s < 0
  · rw [if_pos (by omega)]
    have d0 : decide (s < 0) = true := by simpa using k0
    clear k0
    go_enter Tryz.func104, Tryz.ntmps104
    go_wp2
    go_ret
    exact ⟨rfl, Ext.refl _⟩
  have d0 : decide (s < 0) = false := by simpa using k0
  by_cases k1 : r.C ≤ s
  · rw [if_pos (by omega)]
    have d1 : decide (r.C ≤ s) = true := by simpa using k1
    clear k0 k1
    go_enter Tryz.func104, Tryz.ntmps104
    go_wp2
    go_ret
    exact ⟨rfl, Ext.refl _⟩
  · rw [if_neg (by omega)]
    have d1 : decide (r.C ≤ s) = false := by simpa using k1
    have hv : (r.m : Int) - r.C + s = Sl + s := by omega
    have b1 : 0 ≤ s := by omega
    have b2 : s < r.C := by omega
    have b3 : r.C ≤ 1000 := by omega
    clear k0 k1
    go_enter Tryz.func104, Tryz.ntmps104
    go_upto_region 3 with (fail)
    refine wp_region_later (by kernel_rfl) (by kernel_rfl) ?_
    have l2 := fun (g : Later w) => g.ok.cell q2
    have l6 := fun (g : Later w) => g.ok.cell q6
    repeat (go_big_quiet_step ((fail)))
    refine wpQuiet_nil ?_
    intro w3 hl3
    have hb3 := laters_ext hl3
    clear hl3 l2 l6
    go_wp2
    go_ret
    first
      | exact ⟨rfl, hb3⟩
      | exact ⟨ret_int hv, hb3⟩
set_option maxRecDepth 100000 in
theorem rGet_no (b : Nat) (r : RY) (f : Nat → Int) (lv : Value) (log : List Acc) (t s : Int) (w : World) (h : RB w b r f lv log) (Sl : Int) (hS : Sl + r.C = r.m) (h0 : 0 ≤ Sl) (hC : 0 ≤ r.C) (hm : r.m ≤ 1000) (hp : plc Sl r.C s = -1) : Calls Tryz.prog 64 #[.pointer (some ⟨b, 0, none⟩), .int .i64 t, .int .i64 s] w (RDoes b r lv (.int .i64 0) f log w) := by
  have C0 := rSlot12 b r f lv log s w h Sl hS h0 hC hm
  rw [hp] at C0
  have C := Lib.hid C0
  have HG : Hid (∀ w', Ext w w' → (RDoes b r lv (.int .i64 0) f log w) (.returned (.int .i64 0)) w') := Lib.hid (fun w' hx => rdoes_same h hx)
  generalize (RDoes b r lv (.int .i64 0) f log w) = G at *
  clear C0 h
  go_enter Tryz.func64, Tryz.ntmps64
  go_wp2_with fail
  refine C.out.mono ?_
  rintro e w1 ⟨rfl, X1⟩
  have HG2 := Lib.hid (HG.out w1 X1)
  go_wp2
  exact HG2.out
set_option maxRecDepth 100000 in
theorem rGet_yes (b : Nat) (r : RY) (f : Nat → Int) (lv : Value) (log : List Acc) (t s : Int) (c : Nat) (w : World) (h : RB w b r f lv log) (Sl : Int) (hS : Sl + r.C = r.m) (h0 : 0 ≤ Sl) (hC : 0 ≤ r.C) (hm : r.m ≤ 1000) (hp : plc Sl r.C s = c) (hc : c < r.m) (hl : log.length ≤ 1000) : Calls Tryz.prog 64 #[.pointer (some ⟨b, 0, none⟩), .int .i64 t, .int .i64 s] w (RDoes b r lv (.int .i64 (wrap64 (f c))) f (log ++ [⟨t, 6, c, f c, f c⟩]) w) := by
  have C0 := fun w' (hx : Ext w w') => rSlot12 b r f lv log s w' (h.ext hx) Sl hS h0 hC hm
  rw [hp] at C0
  have C := Lib.hid C0
  have CD := Lib.hid (fun w' (hx : Ext w w') => rLook b r f lv log t 6 c w' (h.ext hx) hc hl)
  have HG : Hid (∀ w1 w2 lv', Ext w w1 → RB w2 b r f lv' (log ++ [⟨t, 6, c, f c, f c⟩]) → But (Own b r.gh lv) w1 w2 → (lv'.ownBlock = lv.ownBlock ∨ ∃ j, lv'.ownBlock = some j ∧ w1.heap.size ≤ j) → (RDoes b r lv (.int .i64 (wrap64 (f c))) f (log ++ [⟨t, 6, c, f c, f c⟩]) w) (.returned (.int .i64 (wrap64 (f c)))) w2) := Lib.hid (fun w1 w2 lv' a1 a2 a3 a4 => rdoes_wrap a1 a2 a3 a4 (Ext.refl _))
  generalize hGd : (RDoes b r lv (.int .i64 (wrap64 (f c))) f (log ++ [⟨t, 6, c, f c, f c⟩]) w) = G at *
  have d0 : ¬ ((c : Int) < 0) := by omega
  clear C0 h hp hGd
  go_enter Tryz.func64, Tryz.ntmps64
  go_wp2_with fail
  refine (C.out _ (Ext.refl _)).mono ?_
  rintro e w1 ⟨rfl, X1⟩
  go_wp2_with fail
  refine (C.out _ X1).mono ?_
  rintro e w2 ⟨rfl, X2⟩
  go_wp2_with fail
  refine (CD.out _ (X1.trans X2)).mono ?_
  rintro e w3 ⟨rfl, lv', B2, T2, A2⟩
  have HG2 := Lib.hid (HG.out _ w3 lv' (X1.trans X2) B2 T2 A2)
  clear B2 T2 A2 X1 X2
  go_wp2
  exact HG2.out
set_option maxRecDepth 100000 in
theorem rSet_no (b : Nat) (r : RY) (f : Nat → Int) (lv : Value) (log : List Acc) (t s v : Int) (w : World) (h : RB w b r f lv log) (Sl : Int) (hS : Sl + r.C = r.m) (h0 : 0 ≤ Sl) (hC : 0 ≤ r.C) (hm : r.m ≤ 1000) (hp : plc Sl r.C s = -1) : Calls Tryz.prog 65 #[.pointer (some ⟨b, 0, none⟩), .int .i64 t, .int .i64 s, .int .i64 v] w (RDoes b r lv (.tuple #[]) f log w) := by
  have C0 := rSlot12 b r f lv log s w h Sl hS h0 hC hm
  rw [hp] at C0
  have C := Lib.hid C0
  have HG : Hid (∀ w', Ext w w' → (RDoes b r lv (.tuple #[]) f log w) (.returned (.tuple #[])) w') := Lib.hid (fun w' hx => rdoes_same h hx)
  generalize (RDoes b r lv (.tuple #[]) f log w) = G at *
  clear C0 h
  go_enter Tryz.func65, Tryz.ntmps65
  go_wp2_with fail
  refine C.out.mono ?_
  rintro e w1 ⟨rfl, X1⟩
  have HG2 := Lib.hid (HG.out w1 X1)
  go_wp2
  refine bodyPost_ret (v := .tuple #[]) (by simp [results, Tryz.results65, go_sem]) rfl ?_
  exact HG2.out
set_option maxRecDepth 100000 in
theorem rSet_yes (b : Nat) (r : RY) (f : Nat → Int) (lv : Value) (log : List Acc) (t s v : Int) (c : Nat) (w : World) (h : RB w b r f lv log) (Sl : Int) (hS : Sl + r.C = r.m) (h0 : 0 ≤ Sl) (hC : 0 ≤ r.C) (hm : r.m ≤ 1000) (hp : plc Sl r.C s = c) (hc : c < r.m) (hl : log.length ≤ 1000) : Calls Tryz.prog 65 #[.pointer (some ⟨b, 0, none⟩), .int .i64 t, .int .i64 s, .int .i64 v] w (RDoes b r lv (.tuple #[]) (upd f c (U64 v)) (log ++ [⟨t, 7, c, f c, U64 v⟩]) w) := by
  have C0 := fun w' (hx : Ext w w') => rSlot12 b r f lv log s w' (h.ext hx) Sl hS h0 hC hm
  rw [hp] at C0
  have C := Lib.hid C0
  have CD := Lib.hid (fun w' (hx : Ext w w') => rDo b r f lv log t 7 c (U64 v) w' (h.ext hx) hc hl)
  have HG : Hid (∀ w1 w2 lv', Ext w w1 → RB w2 b r (upd f c (U64 v)) lv' (log ++ [⟨t, 7, c, f c, U64 v⟩]) → But (Own b r.gh lv) w1 w2 → (lv'.ownBlock = lv.ownBlock ∨ ∃ j, lv'.ownBlock = some j ∧ w1.heap.size ≤ j) → (RDoes b r lv (.tuple #[]) (upd f c (U64 v)) (log ++ [⟨t, 7, c, f c, U64 v⟩]) w) (.returned (.tuple #[])) w2) := Lib.hid (fun w1 w2 lv' a1 a2 a3 a4 => rdoes_wrap a1 a2 a3 a4 (Ext.refl _))
  generalize hGd : (RDoes b r lv (.tuple #[]) (upd f c (U64 v)) (log ++ [⟨t, 7, c, f c, U64 v⟩]) w) = G at *
  have hcv : IntKind.u64.wrap v = U64 v := u64_wrap v
  have d0 : (0 : Int) ≤ (c : Int) := by omega
  clear C0 h hp hGd
  go_enter Tryz.func65, Tryz.ntmps65
  go_wp2_with fail
  refine (C.out _ (Ext.refl _)).mono ?_
  rintro e w1 ⟨rfl, X1⟩
  go_wp2_with fail
  refine (C.out _ X1).mono ?_
  rintro e w2 ⟨rfl, X2⟩
  go_wp2_with fail
  refine (CD.out _ (X1.trans X2)).mono ?_
  rintro e w3 ⟨rfl, lv', B2, T2, A2⟩
  have HG2 := Lib.hid (HG.out _ w3 lv' (X1.trans X2) B2 T2 A2)
  clear B2 T2 A2 X1 X2
  go_wp2
  refine bodyPost_ret (v := .tuple #[]) (by simp [results, Tryz.results65, go_sem]) rfl ?_
  exact HG2.out
end Go.Proofs.YtaimmpcijdpgdabGreatDoor
/- What the law's model comes to. -/
namespace Go.Proofs.YtaimmpcijdpgdabGreatDoor
open Go.RowKit
set_option linter.unusedVariables false
set_option linter.unusedSimpArgs false
set_option maxHeartbeats 2000000
attribute [local go_sem] later_cell later_frozen later_const
/-- the two boards' letters speak of one configuration -/
structure Rel (y : LY) (r : RY) (W : Int) : Prop where
  m : r.m = y.m
  w : r.W = W
  c : r.C = y.C
  kf : ∀ c, c < y.m → r.kf c = kd y c
  sl : y.Sl + y.C = y.m
  sl0 : 0 ≤ y.Sl
  c0 : 0 ≤ y.C
  m1 : y.m ≤ 1000
  data : ∀ s, 0 ≤ s → s < y.C → kd y (y.Sl + s) = 3
/-- what is no data is below 2^W -/
def Nar (y : LY) (W : Int) (f : Nat → Int) : Prop := ∀ c : Nat, c < y.m → kd y c ≠ 3 → cutS W (f c) = f c
theorem isK_kd {y : LY} {r : RY} {W : Int} (R : Rel y r W) {c kind : Int} (h0 : kind ≠ 0) : isK r c kind = (kd y c == kind) := by
  unfold isK
  by_cases hc : 0 ≤ c ∧ c < y.m
  · rw [R.m, R.kf c.toNat (by omega), show ((c.toNat : Nat) : Int) = c by omega, decide_eq_true hc.1, decide_eq_true hc.2]
    simp
  · have hk : kd y c = 0 := by
      by_cases hh : kd y c = 0
      · exact hh
      · exact absurd (kd_in hh) hc
    have : (decide (0 ≤ c) && decide (c < (r.m : Int))) = false := by rw [R.m]; simp; omega
    rw [this, hk]
    simp
    exact fun e => h0 e.symm
theorem slot_kd {y : LY} {r : RY} {W : Int} (R : Rel y r W) (s : Int) : (kd y (plc y.Sl y.C s) = 3 ∧ plc y.Sl r.C s = plc y.Sl y.C s ∧ 0 ≤ plc y.Sl y.C s ∧ plc y.Sl y.C s < y.m) ∨ (kd y (plc y.Sl y.C s) ≠ 3 ∧ plc y.Sl r.C s = -1) := by
  have := R.sl
  have := R.sl0
  rw [R.c]
  by_cases hs : 0 ≤ s ∧ s < y.C
  · have e : plc y.Sl y.C s = y.Sl + s := by unfold plc; rw [if_neg (by omega)]
    rw [e]
    exact .inl ⟨R.data s hs.1 hs.2, rfl, by omega, by omega⟩
  · have e : plc y.Sl y.C s = -1 := by unfold plc; rw [if_pos (by omega)]
    rw [e]
    refine .inr ⟨fun h3 => ?_, rfl⟩
    have := kd_in (y := y) (c := -1) (by rw [h3]; decide)
    omega
set_option maxRecDepth 100000 in
theorem model_Load_no (b : Nat) (r : RY) (y : LY) (W : Int) (f : Nat → Int) (lv : Value) (log : List Acc) (d : DoR) (w : World) (h : RB w b r f lv log) (R : Rel y r W) (hW : W = 32 ∨ W = 64) (N : Nar y W f) (hl : log.length ≤ 1000) (fr : ∀ i, i < y.m → 0 ≤ f i ∧ f i < 18446744073709551616) (o0 : 0 ≤ d.o) (z0 : 0 ≤ d.z) (hd : d.k = 1) (hk : kd y d.c ≠ 1) : Calls Tryz.prog 15 #[.pointer (some ⟨b, 0, none⟩), .agg #[.int .i64 d.t, .int .i64 d.k, .int .i64 d.c, .int .i64 d.n, .int .u64 d.o, .int .u64 d.z]] w (RDoes b r lv (.tuple #[.int .u64 (0), .bool false]) f log w) := by
  rw [hd]
  have hi : isK r d.c 1 = false := by rw [isK_kd R (by decide)]; simpa using hk
  have C := Lib.hid (fun w' (hx : Ext w w') => rLoad_no b r f lv log d.t d.c w' (h.ext hx) hi)
  have HG : Hid (∀ w1 w2 lv', Ext w w1 → RB w2 b r f lv' log → But (Own b r.gh lv) w1 w2 → (lv'.ownBlock = lv.ownBlock ∨ ∃ j, lv'.ownBlock = some j ∧ w1.heap.size ≤ j) → (RDoes b r lv (.tuple #[.int .u64 (0), .bool false]) f log w) (.returned (.tuple #[.int .u64 (0), .bool false])) w2) := Lib.hid (fun w1 w2 lv' a1 a2 a3 a4 => rdoes_wrap a1 a2 a3 a4 (Ext.refl _))
  have q1 := h.q1
  rw [R.w] at q1
  have pb : b < w.heap.size := tag_lt h.tb
  have rb := Nat.lt_succ_of_lt pb
  clear h R N fr o0 z0 hd hl
  go_enter Tryz.func15, Tryz.ntmps15
  go_wp2_with fail
  refine (C.out _ ((Ext.refl w).alloc _)).mono ?_
  rintro e w2 ⟨rfl, lv', B2, T2, A2⟩
  have HG2 := Lib.hid (HG.out _ w2 lv' ((Ext.refl w).alloc _) B2 T2 A2)
  clear B2 T2 A2
  go_wp2
  first
    | (go_ret2; exact HG2.out)
    | exact HG2.out
set_option maxRecDepth 100000 in
theorem model_Load_yes (b : Nat) (r : RY) (y : LY) (W : Int) (f : Nat → Int) (lv : Value) (log : List Acc) (d : DoR) (w : World) (h : RB w b r f lv log) (R : Rel y r W) (hW : W = 32 ∨ W = 64) (N : Nar y W f) (hl : log.length ≤ 1000) (fr : ∀ i, i < y.m → 0 ≤ f i ∧ f i < 18446744073709551616) (o0 : 0 ≤ d.o) (z0 : 0 ≤ d.z) (hd : d.k = 1) (hk : kd y d.c = 1) : Calls Tryz.prog 15 #[.pointer (some ⟨b, 0, none⟩), .agg #[.int .i64 d.t, .int .i64 d.k, .int .i64 d.c, .int .i64 d.n, .int .u64 d.o, .int .u64 d.z]] w (RDoes b r lv (.tuple #[.int .u64 (cutS W (f d.c.toNat)), .bool false]) f (log ++ [⟨d.t, 1, d.c, f d.c.toNat, f d.c.toNat⟩]) w) := by
  rw [hd]
  obtain ⟨c, hc⟩ : ∃ c : Nat, d.c = c := ⟨d.c.toNat, by have := kd_in (y := y) (c := d.c) (by rw [hk]; decide); omega⟩
  have hcm : c < y.m := by have := kd_in (y := y) (c := d.c) (by rw [hk]; decide); omega
  obtain ⟨f0, f1⟩ := fr c hcm
  rw [hc] at hk ⊢
  rw [show ((c : Nat) : Int).toNat = c by omega]
  have hcr : c < r.m := by rw [R.m]; exact hcm
  have hi : isK r c 1 = true := by rw [isK_kd R (by decide)]; simpa using hk
  rw [N c hcm (by rw [hk]; decide)]
  have C := Lib.hid (fun w' (hx : Ext w w') => rLoad_yes b r f lv log d.t c w' (h.ext hx) hi hcr hl)
  have HG : Hid (∀ w1 w2 lv', Ext w w1 → RB w2 b r f lv' (log ++ [⟨d.t, 1, (c : Int), f c, f c⟩]) → But (Own b r.gh lv) w1 w2 → (lv'.ownBlock = lv.ownBlock ∨ ∃ j, lv'.ownBlock = some j ∧ w1.heap.size ≤ j) → (RDoes b r lv (.tuple #[.int .u64 (f c), .bool false]) f (log ++ [⟨d.t, 1, (c : Int), f c, f c⟩]) w) (.returned (.tuple #[.int .u64 (f c), .bool false])) w2) := Lib.hid (fun w1 w2 lv' a1 a2 a3 a4 => rdoes_wrap a1 a2 a3 a4 (Ext.refl _))
  have q1 := h.q1
  rw [R.w] at q1
  have pb : b < w.heap.size := tag_lt h.tb
  have rb := Nat.lt_succ_of_lt pb
  clear h R N fr o0 z0 hd hl
  go_enter Tryz.func15, Tryz.ntmps15
  go_wp2_with fail
  refine (C.out _ ((Ext.refl w).alloc _)).mono ?_
  rintro e w2 ⟨rfl, lv', B2, T2, A2⟩
  have HG2 := Lib.hid (HG.out _ w2 lv' ((Ext.refl w).alloc _) B2 T2 A2)
  clear B2 T2 A2
  go_wp2
  first
    | (go_ret2; exact HG2.out)
    | exact HG2.out
set_option maxRecDepth 100000 in
theorem model_Store_no (b : Nat) (r : RY) (y : LY) (W : Int) (f : Nat → Int) (lv : Value) (log : List Acc) (d : DoR) (w : World) (h : RB w b r f lv log) (R : Rel y r W) (hW : W = 32 ∨ W = 64) (N : Nar y W f) (hl : log.length ≤ 1000) (fr : ∀ i, i < y.m → 0 ≤ f i ∧ f i < 18446744073709551616) (o0 : 0 ≤ d.o) (z0 : 0 ≤ d.z) (hd : d.k = 2) (hk : kd y d.c ≠ 1) : Calls Tryz.prog 15 #[.pointer (some ⟨b, 0, none⟩), .agg #[.int .i64 d.t, .int .i64 d.k, .int .i64 d.c, .int .i64 d.n, .int .u64 d.o, .int .u64 d.z]] w (RDoes b r lv (.tuple #[.int .u64 (0), .bool false]) f log w) := by
  rw [hd]
  have hi : isK r d.c 1 = false := by rw [isK_kd R (by decide)]; simpa using hk
  have CC := Lib.hid (fun w => rCutW W d.z w hW z0)
  have C := Lib.hid (fun w' (hx : Ext w w') => rStore_no b r f lv log d.t d.c (cutS W d.z) w' (h.ext hx) hi)
  have HG : Hid (∀ w1 w2 lv', Ext w w1 → RB w2 b r f lv' log → But (Own b r.gh lv) w1 w2 → (lv'.ownBlock = lv.ownBlock ∨ ∃ j, lv'.ownBlock = some j ∧ w1.heap.size ≤ j) → (RDoes b r lv (.tuple #[.int .u64 (0), .bool false]) f log w) (.returned (.tuple #[.int .u64 (0), .bool false])) w2) := Lib.hid (fun w1 w2 lv' a1 a2 a3 a4 => rdoes_wrap a1 a2 a3 a4 (Ext.refl _))
  have q1 := h.q1
  rw [R.w] at q1
  have pb : b < w.heap.size := tag_lt h.tb
  have rb := Nat.lt_succ_of_lt pb
  clear h R N fr o0 z0 hd hl
  go_enter Tryz.func15, Tryz.ntmps15
  go_upto_region 6 with (fail)
  refine settle_wp ?_
  intro w1 hb1
  have q_0 : w1.cell? ⟨w.heap.size, 0, none⟩ = some (.int .i64 d.t) := hb1.cell (by simp [go_sem])
  have q_1 : w1.cell? ⟨w.heap.size, 1, none⟩ = some (.int .i64 2) := hb1.cell (by simp [go_sem])
  have q_2 : w1.cell? ⟨w.heap.size, 2, none⟩ = some (.int .i64 d.c) := hb1.cell (by simp [go_sem])
  have q_3 : w1.cell? ⟨w.heap.size, 3, none⟩ = some (.int .i64 d.n) := hb1.cell (by simp [go_sem])
  have q_4 : w1.cell? ⟨w.heap.size, 4, none⟩ = some (.int .u64 d.o) := hb1.cell (by simp [go_sem])
  have q_5 : w1.cell? ⟨w.heap.size, 5, none⟩ = some (.int .u64 d.z) := hb1.cell (by simp [go_sem])
  have X1 : Ext w w1 := Ext.trans ((Ext.refl w).alloc _) hb1
  clear hb1
  refine wp_region_later_tail 9 (by kernel_rfl) (by kernel_rfl) ?_
  simp only [List.take_succ_cons, List.take_zero, List.drop_succ_cons, List.drop_zero]
  have l_0 := fun (g : Later w1) => g.ok.cell q_0
  have l_1 := fun (g : Later w1) => g.ok.cell q_1
  have l_2 := fun (g : Later w1) => g.ok.cell q_2
  have l_3 := fun (g : Later w1) => g.ok.cell q_3
  have l_4 := fun (g : Later w1) => g.ok.cell q_4
  have l_5 := fun (g : Later w1) => g.ok.cell q_5
  repeat (go_big_quiet_step ((fail)))
  go_big_quiet_step ((go_at_call 59; exact laterS (CC.out _)))
  repeat (go_big_quiet_step ((fail)))
  refine wpQuiet_nil ?_
  intro w3 hl3
  have hb3 := laters_ext hl3
  have X3 := X1.trans hb3
  clear hl3 hb3 l_0 q_0 l_1 q_1 l_2 q_2 l_3 q_3 l_4 q_4 l_5 q_5
  go_wp2_with fail
  refine (C.out _ X3).mono ?_
  rintro e w2 ⟨rfl, lv', B2, T2, A2⟩
  have HG2 := Lib.hid (HG.out _ w2 lv' X3 B2 T2 A2)
  clear B2 T2 A2
  go_wp2
  first
    | (go_ret2; exact HG2.out)
    | exact HG2.out
set_option maxRecDepth 100000 in
theorem model_Store_yes (b : Nat) (r : RY) (y : LY) (W : Int) (f : Nat → Int) (lv : Value) (log : List Acc) (d : DoR) (w : World) (h : RB w b r f lv log) (R : Rel y r W) (hW : W = 32 ∨ W = 64) (N : Nar y W f) (hl : log.length ≤ 1000) (fr : ∀ i, i < y.m → 0 ≤ f i ∧ f i < 18446744073709551616) (o0 : 0 ≤ d.o) (z0 : 0 ≤ d.z) (hd : d.k = 2) (hk : kd y d.c = 1) : Calls Tryz.prog 15 #[.pointer (some ⟨b, 0, none⟩), .agg #[.int .i64 d.t, .int .i64 d.k, .int .i64 d.c, .int .i64 d.n, .int .u64 d.o, .int .u64 d.z]] w (RDoes b r lv (.tuple #[.int .u64 (0), .bool false]) (upd f d.c.toNat (cutS W d.z)) (log ++ [⟨d.t, 2, d.c, f d.c.toNat, cutS W d.z⟩]) w) := by
  rw [hd]
  obtain ⟨c, hc⟩ : ∃ c : Nat, d.c = c := ⟨d.c.toNat, by have := kd_in (y := y) (c := d.c) (by rw [hk]; decide); omega⟩
  have hcm : c < y.m := by have := kd_in (y := y) (c := d.c) (by rw [hk]; decide); omega
  obtain ⟨f0, f1⟩ := fr c hcm
  rw [hc] at hk ⊢
  rw [show ((c : Nat) : Int).toNat = c by omega]
  have hcr : c < r.m := by rw [R.m]; exact hcm
  have hi : isK r c 1 = true := by rw [isK_kd R (by decide)]; simpa using hk
  have CC := Lib.hid (fun w => rCutW W d.z w hW z0)
  have C := Lib.hid (fun w' (hx : Ext w w') => rStore_yes b r f lv log d.t (cutS W d.z) c w' (h.ext hx) hi hcr hl)
  have HG : Hid (∀ w1 w2 lv', Ext w w1 → RB w2 b r (upd f c (cutS W d.z)) lv' (log ++ [⟨d.t, 2, (c : Int), f c, cutS W d.z⟩]) → But (Own b r.gh lv) w1 w2 → (lv'.ownBlock = lv.ownBlock ∨ ∃ j, lv'.ownBlock = some j ∧ w1.heap.size ≤ j) → (RDoes b r lv (.tuple #[.int .u64 (0), .bool false]) (upd f c (cutS W d.z)) (log ++ [⟨d.t, 2, (c : Int), f c, cutS W d.z⟩]) w) (.returned (.tuple #[.int .u64 (0), .bool false])) w2) := Lib.hid (fun w1 w2 lv' a1 a2 a3 a4 => rdoes_wrap a1 a2 a3 a4 (Ext.refl _))
  have q1 := h.q1
  rw [R.w] at q1
  have pb : b < w.heap.size := tag_lt h.tb
  have rb := Nat.lt_succ_of_lt pb
  clear h R N fr o0 z0 hd hl
  go_enter Tryz.func15, Tryz.ntmps15
  go_upto_region 6 with (fail)
  refine settle_wp ?_
  intro w1 hb1
  have q_0 : w1.cell? ⟨w.heap.size, 0, none⟩ = some (.int .i64 d.t) := hb1.cell (by simp [go_sem])
  have q_1 : w1.cell? ⟨w.heap.size, 1, none⟩ = some (.int .i64 2) := hb1.cell (by simp [go_sem])
  have q_2 : w1.cell? ⟨w.heap.size, 2, none⟩ = some (.int .i64 (c : Int)) := hb1.cell (by simp [go_sem])
  have q_3 : w1.cell? ⟨w.heap.size, 3, none⟩ = some (.int .i64 d.n) := hb1.cell (by simp [go_sem])
  have q_4 : w1.cell? ⟨w.heap.size, 4, none⟩ = some (.int .u64 d.o) := hb1.cell (by simp [go_sem])
  have q_5 : w1.cell? ⟨w.heap.size, 5, none⟩ = some (.int .u64 d.z) := hb1.cell (by simp [go_sem])
  have X1 : Ext w w1 := Ext.trans ((Ext.refl w).alloc _) hb1
  clear hb1
  refine wp_region_later_tail 9 (by kernel_rfl) (by kernel_rfl) ?_
  simp only [List.take_succ_cons, List.take_zero, List.drop_succ_cons, List.drop_zero]
  have l_0 := fun (g : Later w1) => g.ok.cell q_0
  have l_1 := fun (g : Later w1) => g.ok.cell q_1
  have l_2 := fun (g : Later w1) => g.ok.cell q_2
  have l_3 := fun (g : Later w1) => g.ok.cell q_3
  have l_4 := fun (g : Later w1) => g.ok.cell q_4
  have l_5 := fun (g : Later w1) => g.ok.cell q_5
  repeat (go_big_quiet_step ((fail)))
  go_big_quiet_step ((go_at_call 59; exact laterS (CC.out _)))
  repeat (go_big_quiet_step ((fail)))
  refine wpQuiet_nil ?_
  intro w3 hl3
  have hb3 := laters_ext hl3
  have X3 := X1.trans hb3
  clear hl3 hb3 l_0 q_0 l_1 q_1 l_2 q_2 l_3 q_3 l_4 q_4 l_5 q_5
  go_wp2_with fail
  refine (C.out _ X3).mono ?_
  rintro e w2 ⟨rfl, lv', B2, T2, A2⟩
  have HG2 := Lib.hid (HG.out _ w2 lv' X3 B2 T2 A2)
  clear B2 T2 A2
  go_wp2
  first
    | (go_ret2; exact HG2.out)
    | exact HG2.out
set_option maxRecDepth 100000 in
theorem model_Add_no (b : Nat) (r : RY) (y : LY) (W : Int) (f : Nat → Int) (lv : Value) (log : List Acc) (d : DoR) (w : World) (h : RB w b r f lv log) (R : Rel y r W) (hW : W = 32 ∨ W = 64) (N : Nar y W f) (hl : log.length ≤ 1000) (fr : ∀ i, i < y.m → 0 ≤ f i ∧ f i < 18446744073709551616) (o0 : 0 ≤ d.o) (z0 : 0 ≤ d.z) (hd : d.k = 3) (hk : kd y d.c ≠ 1) : Calls Tryz.prog 15 #[.pointer (some ⟨b, 0, none⟩), .agg #[.int .i64 d.t, .int .i64 d.k, .int .i64 d.c, .int .i64 d.n, .int .u64 d.o, .int .u64 d.z]] w (RDoes b r lv (.tuple #[.int .u64 (0), .bool false]) f log w) := by
  rw [hd]
  have hi : isK r d.c 1 = false := by rw [isK_kd R (by decide)]; simpa using hk
  have C := Lib.hid (fun w' (hx : Ext w w') => rAdd_no b r f lv log d.t d.c d.n w' (h.ext hx) hi)
  have HG : Hid (∀ w1 w2 lv', Ext w w1 → RB w2 b r f lv' log → But (Own b r.gh lv) w1 w2 → (lv'.ownBlock = lv.ownBlock ∨ ∃ j, lv'.ownBlock = some j ∧ w1.heap.size ≤ j) → (RDoes b r lv (.tuple #[.int .u64 (0), .bool false]) f log w) (.returned (.tuple #[.int .u64 (0), .bool false])) w2) := Lib.hid (fun w1 w2 lv' a1 a2 a3 a4 => rdoes_wrap a1 a2 a3 a4 (Ext.refl _))
  have q1 := h.q1
  rw [R.w] at q1
  have pb : b < w.heap.size := tag_lt h.tb
  have rb := Nat.lt_succ_of_lt pb
  clear h R N fr o0 z0 hd hl
  go_enter Tryz.func15, Tryz.ntmps15
  go_wp2_with fail
  refine (C.out _ ((Ext.refl w).alloc _)).mono ?_
  rintro e w2 ⟨rfl, lv', B2, T2, A2⟩
  have HG2 := Lib.hid (HG.out _ w2 lv' ((Ext.refl w).alloc _) B2 T2 A2)
  clear B2 T2 A2
  go_wp2
  first
    | (go_ret2; exact HG2.out)
    | exact HG2.out
set_option maxRecDepth 100000 in
theorem model_Add_yes (b : Nat) (r : RY) (y : LY) (W : Int) (f : Nat → Int) (lv : Value) (log : List Acc) (d : DoR) (w : World) (h : RB w b r f lv log) (R : Rel y r W) (hW : W = 32 ∨ W = 64) (N : Nar y W f) (hl : log.length ≤ 1000) (fr : ∀ i, i < y.m → 0 ≤ f i ∧ f i < 18446744073709551616) (o0 : 0 ≤ d.o) (z0 : 0 ≤ d.z) (hd : d.k = 3) (hk : kd y d.c = 1) : Calls Tryz.prog 15 #[.pointer (some ⟨b, 0, none⟩), .agg #[.int .i64 d.t, .int .i64 d.k, .int .i64 d.c, .int .i64 d.n, .int .u64 d.o, .int .u64 d.z]] w (RDoes b r lv (.tuple #[.int .u64 (cutS W (f d.c.toNat)), .bool false]) (upd f d.c.toNat (plusW W (cutS W (f d.c.toNat)) d.n)) (log ++ [⟨d.t, 3, d.c, f d.c.toNat, plusW W (cutS W (f d.c.toNat)) d.n⟩]) w) := by
  rw [hd]
  obtain ⟨c, hc⟩ : ∃ c : Nat, d.c = c := ⟨d.c.toNat, by have := kd_in (y := y) (c := d.c) (by rw [hk]; decide); omega⟩
  have hcm : c < y.m := by have := kd_in (y := y) (c := d.c) (by rw [hk]; decide); omega
  obtain ⟨f0, f1⟩ := fr c hcm
  rw [hc] at hk ⊢
  rw [show ((c : Nat) : Int).toNat = c by omega]
  have hcr : c < r.m := by rw [R.m]; exact hcm
  have hi : isK r c 1 = true := by rw [isK_kd R (by decide)]; simpa using hk
  rw [N c hcm (by rw [hk]; decide)]
  have C0 := fun w' (hx : Ext w w') => rAdd_yes b r f lv log d.t d.n c w' (h.ext hx) hi hcr hl (by rw [R.w]; exact hW)
  rw [R.w] at C0
  have C := Lib.hid C0
  have HG : Hid (∀ w1 w2 lv', Ext w w1 → RB w2 b r (upd f c (plusW W (f c) d.n)) lv' (log ++ [⟨d.t, 3, (c : Int), f c, plusW W (f c) d.n⟩]) → But (Own b r.gh lv) w1 w2 → (lv'.ownBlock = lv.ownBlock ∨ ∃ j, lv'.ownBlock = some j ∧ w1.heap.size ≤ j) → (RDoes b r lv (.tuple #[.int .u64 (f c), .bool false]) (upd f c (plusW W (f c) d.n)) (log ++ [⟨d.t, 3, (c : Int), f c, plusW W (f c) d.n⟩]) w) (.returned (.tuple #[.int .u64 (f c), .bool false])) w2) := Lib.hid (fun w1 w2 lv' a1 a2 a3 a4 => rdoes_wrap a1 a2 a3 a4 (Ext.refl _))
  have q1 := h.q1
  rw [R.w] at q1
  have pb : b < w.heap.size := tag_lt h.tb
  have rb := Nat.lt_succ_of_lt pb
  clear C0
  clear h R N fr o0 z0 hd hl
  go_enter Tryz.func15, Tryz.ntmps15
  go_wp2_with fail
  refine (C.out _ ((Ext.refl w).alloc _)).mono ?_
  rintro e w2 ⟨rfl, lv', B2, T2, A2⟩
  have HG2 := Lib.hid (HG.out _ w2 lv' ((Ext.refl w).alloc _) B2 T2 A2)
  clear B2 T2 A2
  go_wp2
  first
    | (go_ret2; exact HG2.out)
    | exact HG2.out
set_option maxRecDepth 100000 in
theorem model_Swap_no (b : Nat) (r : RY) (y : LY) (W : Int) (f : Nat → Int) (lv : Value) (log : List Acc) (d : DoR) (w : World) (h : RB w b r f lv log) (R : Rel y r W) (hW : W = 32 ∨ W = 64) (N : Nar y W f) (hl : log.length ≤ 1000) (fr : ∀ i, i < y.m → 0 ≤ f i ∧ f i < 18446744073709551616) (o0 : 0 ≤ d.o) (z0 : 0 ≤ d.z) (hd : d.k = 4) (hk : kd y d.c ≠ 1) : Calls Tryz.prog 15 #[.pointer (some ⟨b, 0, none⟩), .agg #[.int .i64 d.t, .int .i64 d.k, .int .i64 d.c, .int .i64 d.n, .int .u64 d.o, .int .u64 d.z]] w (RDoes b r lv (.tuple #[.int .u64 (0), .bool false]) f log w) := by
  rw [hd]
  have hi : isK r d.c 1 = false := by rw [isK_kd R (by decide)]; simpa using hk
  have CC1 := Lib.hid (fun w => rCutW W d.o w hW o0)
  have CC2 := Lib.hid (fun w => rCutW W d.z w hW z0)
  have C := Lib.hid (fun w' (hx : Ext w w') => rSwap_no b r f lv log d.t d.c (cutS W d.o) (cutS W d.z) w' (h.ext hx) hi)
  have HG : Hid (∀ w1 w2 lv', Ext w w1 → RB w2 b r f lv' log → But (Own b r.gh lv) w1 w2 → (lv'.ownBlock = lv.ownBlock ∨ ∃ j, lv'.ownBlock = some j ∧ w1.heap.size ≤ j) → (RDoes b r lv (.tuple #[.int .u64 (0), .bool false]) f log w) (.returned (.tuple #[.int .u64 (0), .bool false])) w2) := Lib.hid (fun w1 w2 lv' a1 a2 a3 a4 => rdoes_wrap a1 a2 a3 a4 (Ext.refl _))
  have q1 := h.q1
  rw [R.w] at q1
  have pb : b < w.heap.size := tag_lt h.tb
  have rb := Nat.lt_succ_of_lt pb
  clear h R N fr o0 z0 hd hl
  go_enter Tryz.func15, Tryz.ntmps15
  go_upto_region 10 with (fail)
  refine settle_wp ?_
  intro w1 hb1
  have q_0 : w1.cell? ⟨w.heap.size, 0, none⟩ = some (.int .i64 d.t) := hb1.cell (by simp [go_sem])
  have q_1 : w1.cell? ⟨w.heap.size, 1, none⟩ = some (.int .i64 4) := hb1.cell (by simp [go_sem])
  have q_2 : w1.cell? ⟨w.heap.size, 2, none⟩ = some (.int .i64 d.c) := hb1.cell (by simp [go_sem])
  have q_3 : w1.cell? ⟨w.heap.size, 3, none⟩ = some (.int .i64 d.n) := hb1.cell (by simp [go_sem])
  have q_4 : w1.cell? ⟨w.heap.size, 4, none⟩ = some (.int .u64 d.o) := hb1.cell (by simp [go_sem])
  have q_5 : w1.cell? ⟨w.heap.size, 5, none⟩ = some (.int .u64 d.z) := hb1.cell (by simp [go_sem])
  have X1 : Ext w w1 := Ext.trans ((Ext.refl w).alloc _) hb1
  clear hb1
  refine wp_region_later_tail 13 (by kernel_rfl) (by kernel_rfl) ?_
  simp only [List.take_succ_cons, List.take_zero, List.drop_succ_cons, List.drop_zero]
  have l_0 := fun (g : Later w1) => g.ok.cell q_0
  have l_1 := fun (g : Later w1) => g.ok.cell q_1
  have l_2 := fun (g : Later w1) => g.ok.cell q_2
  have l_3 := fun (g : Later w1) => g.ok.cell q_3
  have l_4 := fun (g : Later w1) => g.ok.cell q_4
  have l_5 := fun (g : Later w1) => g.ok.cell q_5
  repeat (go_big_quiet_step ((fail)))
  go_big_quiet_step ((go_at_call 59; exact laterS (CC1.out _)))
  repeat (go_big_quiet_step ((fail)))
  go_big_quiet_step ((go_at_call 59; exact laterS (CC2.out _)))
  repeat (go_big_quiet_step ((fail)))
  refine wpQuiet_nil ?_
  intro w3 hl3
  have hb3 := laters_ext hl3
  have X3 := X1.trans hb3
  clear hl3 hb3 l_0 q_0 l_1 q_1 l_2 q_2 l_3 q_3 l_4 q_4 l_5 q_5
  go_wp2_with fail
  refine (C.out _ X3).mono ?_
  rintro e w2 ⟨rfl, lv', B2, T2, A2⟩
  have HG2 := Lib.hid (HG.out _ w2 lv' X3 B2 T2 A2)
  clear B2 T2 A2
  go_wp2
  first
    | (go_ret2; exact HG2.out)
    | exact HG2.out
set_option maxRecDepth 100000 in
theorem model_Swap_miss (b : Nat) (r : RY) (y : LY) (W : Int) (f : Nat → Int) (lv : Value) (log : List Acc) (d : DoR) (w : World) (h : RB w b r f lv log) (R : Rel y r W) (hW : W = 32 ∨ W = 64) (N : Nar y W f) (hl : log.length ≤ 1000) (fr : ∀ i, i < y.m → 0 ≤ f i ∧ f i < 18446744073709551616) (o0 : 0 ≤ d.o) (z0 : 0 ≤ d.z) (hd : d.k = 4) (hk : kd y d.c = 1) (ho : ¬ cutS W (f d.c.toNat) = cutS W d.o) : Calls Tryz.prog 15 #[.pointer (some ⟨b, 0, none⟩), .agg #[.int .i64 d.t, .int .i64 d.k, .int .i64 d.c, .int .i64 d.n, .int .u64 d.o, .int .u64 d.z]] w (RDoes b r lv (.tuple #[.int .u64 (0), .bool false]) f (log ++ [⟨d.t, 5, d.c, f d.c.toNat, f d.c.toNat⟩]) w) := by
  rw [hd]
  obtain ⟨c, hc⟩ : ∃ c : Nat, d.c = c := ⟨d.c.toNat, by have := kd_in (y := y) (c := d.c) (by rw [hk]; decide); omega⟩
  have hcm : c < y.m := by have := kd_in (y := y) (c := d.c) (by rw [hk]; decide); omega
  obtain ⟨f0, f1⟩ := fr c hcm
  rw [hc] at hk ⊢
  rw [show ((c : Nat) : Int).toNat = c by omega]
  have hcr : c < r.m := by rw [R.m]; exact hcm
  rw [hc, show ((c : Nat) : Int).toNat = c by omega, N c hcm (by rw [hk]; decide)] at ho
  have hi : isK r c 1 = true := by rw [isK_kd R (by decide)]; simpa using hk
  have CC1 := Lib.hid (fun w => rCutW W d.o w hW o0)
  have CC2 := Lib.hid (fun w => rCutW W d.z w hW z0)
  have C := Lib.hid (fun w' (hx : Ext w w') => rSwap_miss b r f lv log d.t (cutS W d.o) (cutS W d.z) c w' (h.ext hx) hi hcr hl (by simpa using ho))
  have HG : Hid (∀ w1 w2 lv', Ext w w1 → RB w2 b r f lv' (log ++ [⟨d.t, 5, (c : Int), f c, f c⟩]) → But (Own b r.gh lv) w1 w2 → (lv'.ownBlock = lv.ownBlock ∨ ∃ j, lv'.ownBlock = some j ∧ w1.heap.size ≤ j) → (RDoes b r lv (.tuple #[.int .u64 (0), .bool false]) f (log ++ [⟨d.t, 5, (c : Int), f c, f c⟩]) w) (.returned (.tuple #[.int .u64 (0), .bool false])) w2) := Lib.hid (fun w1 w2 lv' a1 a2 a3 a4 => rdoes_wrap a1 a2 a3 a4 (Ext.refl _))
  have q1 := h.q1
  rw [R.w] at q1
  have pb : b < w.heap.size := tag_lt h.tb
  have rb := Nat.lt_succ_of_lt pb
  clear ho
  clear h R N fr o0 z0 hd hl
  go_enter Tryz.func15, Tryz.ntmps15
  go_upto_region 10 with (fail)
  refine settle_wp ?_
  intro w1 hb1
  have q_0 : w1.cell? ⟨w.heap.size, 0, none⟩ = some (.int .i64 d.t) := hb1.cell (by simp [go_sem])
  have q_1 : w1.cell? ⟨w.heap.size, 1, none⟩ = some (.int .i64 4) := hb1.cell (by simp [go_sem])
  have q_2 : w1.cell? ⟨w.heap.size, 2, none⟩ = some (.int .i64 (c : Int)) := hb1.cell (by simp [go_sem])
  have q_3 : w1.cell? ⟨w.heap.size, 3, none⟩ = some (.int .i64 d.n) := hb1.cell (by simp [go_sem])
  have q_4 : w1.cell? ⟨w.heap.size, 4, none⟩ = some (.int .u64 d.o) := hb1.cell (by simp [go_sem])
  have q_5 : w1.cell? ⟨w.heap.size, 5, none⟩ = some (.int .u64 d.z) := hb1.cell (by simp [go_sem])
  have X1 : Ext w w1 := Ext.trans ((Ext.refl w).alloc _) hb1
  clear hb1
  refine wp_region_later_tail 13 (by kernel_rfl) (by kernel_rfl) ?_
  simp only [List.take_succ_cons, List.take_zero, List.drop_succ_cons, List.drop_zero]
  have l_0 := fun (g : Later w1) => g.ok.cell q_0
  have l_1 := fun (g : Later w1) => g.ok.cell q_1
  have l_2 := fun (g : Later w1) => g.ok.cell q_2
  have l_3 := fun (g : Later w1) => g.ok.cell q_3
  have l_4 := fun (g : Later w1) => g.ok.cell q_4
  have l_5 := fun (g : Later w1) => g.ok.cell q_5
  repeat (go_big_quiet_step ((fail)))
  go_big_quiet_step ((go_at_call 59; exact laterS (CC1.out _)))
  repeat (go_big_quiet_step ((fail)))
  go_big_quiet_step ((go_at_call 59; exact laterS (CC2.out _)))
  repeat (go_big_quiet_step ((fail)))
  refine wpQuiet_nil ?_
  intro w3 hl3
  have hb3 := laters_ext hl3
  have X3 := X1.trans hb3
  clear hl3 hb3 l_0 q_0 l_1 q_1 l_2 q_2 l_3 q_3 l_4 q_4 l_5 q_5
  go_wp2_with fail
  refine (C.out _ X3).mono ?_
  rintro e w2 ⟨rfl, lv', B2, T2, A2⟩
  have HG2 := Lib.hid (HG.out _ w2 lv' X3 B2 T2 A2)
  clear B2 T2 A2
  go_wp2
  first
    | (go_ret2; exact HG2.out)
    | exact HG2.out
set_option maxRecDepth 100000 in
theorem model_Swap_yes (b : Nat) (r : RY) (y : LY) (W : Int) (f : Nat → Int) (lv : Value) (log : List Acc) (d : DoR) (w : World) (h : RB w b r f lv log) (R : Rel y r W) (hW : W = 32 ∨ W = 64) (N : Nar y W f) (hl : log.length ≤ 1000) (fr : ∀ i, i < y.m → 0 ≤ f i ∧ f i < 18446744073709551616) (o0 : 0 ≤ d.o) (z0 : 0 ≤ d.z) (hd : d.k = 4) (hk : kd y d.c = 1) (ho : cutS W (f d.c.toNat) = cutS W d.o) : Calls Tryz.prog 15 #[.pointer (some ⟨b, 0, none⟩), .agg #[.int .i64 d.t, .int .i64 d.k, .int .i64 d.c, .int .i64 d.n, .int .u64 d.o, .int .u64 d.z]] w (RDoes b r lv (.tuple #[.int .u64 (0), .bool true]) (upd f d.c.toNat (cutS W d.z)) (log ++ [⟨d.t, 4, d.c, f d.c.toNat, cutS W d.z⟩]) w) := by
  rw [hd]
  obtain ⟨c, hc⟩ : ∃ c : Nat, d.c = c := ⟨d.c.toNat, by have := kd_in (y := y) (c := d.c) (by rw [hk]; decide); omega⟩
  have hcm : c < y.m := by have := kd_in (y := y) (c := d.c) (by rw [hk]; decide); omega
  obtain ⟨f0, f1⟩ := fr c hcm
  rw [hc] at hk ⊢
  rw [show ((c : Nat) : Int).toNat = c by omega]
  have hcr : c < r.m := by rw [R.m]; exact hcm
  rw [hc, show ((c : Nat) : Int).toNat = c by omega, N c hcm (by rw [hk]; decide)] at ho
  have hi : isK r c 1 = true := by rw [isK_kd R (by decide)]; simpa using hk
  have CC1 := Lib.hid (fun w => rCutW W d.o w hW o0)
  have CC2 := Lib.hid (fun w => rCutW W d.z w hW z0)
  have C := Lib.hid (fun w' (hx : Ext w w') => rSwap_yes b r f lv log d.t (cutS W d.o) (cutS W d.z) c w' (h.ext hx) hi hcr hl ho)
  have HG : Hid (∀ w1 w2 lv', Ext w w1 → RB w2 b r (upd f c (cutS W d.z)) lv' (log ++ [⟨d.t, 4, (c : Int), f c, cutS W d.z⟩]) → But (Own b r.gh lv) w1 w2 → (lv'.ownBlock = lv.ownBlock ∨ ∃ j, lv'.ownBlock = some j ∧ w1.heap.size ≤ j) → (RDoes b r lv (.tuple #[.int .u64 (0), .bool true]) (upd f c (cutS W d.z)) (log ++ [⟨d.t, 4, (c : Int), f c, cutS W d.z⟩]) w) (.returned (.tuple #[.int .u64 (0), .bool true])) w2) := Lib.hid (fun w1 w2 lv' a1 a2 a3 a4 => rdoes_wrap a1 a2 a3 a4 (Ext.refl _))
  have q1 := h.q1
  rw [R.w] at q1
  have pb : b < w.heap.size := tag_lt h.tb
  have rb := Nat.lt_succ_of_lt pb
  clear ho
  clear h R N fr o0 z0 hd hl
  go_enter Tryz.func15, Tryz.ntmps15
  go_upto_region 10 with (fail)
  refine settle_wp ?_
  intro w1 hb1
  have q_0 : w1.cell? ⟨w.heap.size, 0, none⟩ = some (.int .i64 d.t) := hb1.cell (by simp [go_sem])
  have q_1 : w1.cell? ⟨w.heap.size, 1, none⟩ = some (.int .i64 4) := hb1.cell (by simp [go_sem])
  have q_2 : w1.cell? ⟨w.heap.size, 2, none⟩ = some (.int .i64 (c : Int)) := hb1.cell (by simp [go_sem])
  have q_3 : w1.cell? ⟨w.heap.size, 3, none⟩ = some (.int .i64 d.n) := hb1.cell (by simp [go_sem])
  have q_4 : w1.cell? ⟨w.heap.size, 4, none⟩ = some (.int .u64 d.o) := hb1.cell (by simp [go_sem])
  have q_5 : w1.cell? ⟨w.heap.size, 5, none⟩ = some (.int .u64 d.z) := hb1.cell (by simp [go_sem])
  have X1 : Ext w w1 := Ext.trans ((Ext.refl w).alloc _) hb1
  clear hb1
  refine wp_region_later_tail 13 (by kernel_rfl) (by kernel_rfl) ?_
  simp only [List.take_succ_cons, List.take_zero, List.drop_succ_cons, List.drop_zero]
  have l_0 := fun (g : Later w1) => g.ok.cell q_0
  have l_1 := fun (g : Later w1) => g.ok.cell q_1
  have l_2 := fun (g : Later w1) => g.ok.cell q_2
  have l_3 := fun (g : Later w1) => g.ok.cell q_3
  have l_4 := fun (g : Later w1) => g.ok.cell q_4
  have l_5 := fun (g : Later w1) => g.ok.cell q_5
  repeat (go_big_quiet_step ((fail)))
  go_big_quiet_step ((go_at_call 59; exact laterS (CC1.out _)))
  repeat (go_big_quiet_step ((fail)))
  go_big_quiet_step ((go_at_call 59; exact laterS (CC2.out _)))
  repeat (go_big_quiet_step ((fail)))
  refine wpQuiet_nil ?_
  intro w3 hl3
  have hb3 := laters_ext hl3
  have X3 := X1.trans hb3
  clear hl3 hb3 l_0 q_0 l_1 q_1 l_2 q_2 l_3 q_3 l_4 q_4 l_5 q_5
  go_wp2_with fail
  refine (C.out _ X3).mono ?_
  rintro e w2 ⟨rfl, lv', B2, T2, A2⟩
  have HG2 := Lib.hid (HG.out _ w2 lv' X3 B2 T2 A2)
  clear B2 T2 A2
  go_wp2
  first
    | (go_ret2; exact HG2.out)
    | exact HG2.out
set_option maxRecDepth 100000 in
theorem model_Read_no (b : Nat) (r : RY) (y : LY) (W : Int) (f : Nat → Int) (lv : Value) (log : List Acc) (d : DoR) (w : World) (h : RB w b r f lv log) (R : Rel y r W) (hW : W = 32 ∨ W = 64) (N : Nar y W f) (hl : log.length ≤ 1000) (fr : ∀ i, i < y.m → 0 ≤ f i ∧ f i < 18446744073709551616) (o0 : 0 ≤ d.o) (z0 : 0 ≤ d.z) (hd : d.k = 6) (hk : kd y d.c ≠ 2) : Calls Tryz.prog 15 #[.pointer (some ⟨b, 0, none⟩), .agg #[.int .i64 d.t, .int .i64 d.k, .int .i64 d.c, .int .i64 d.n, .int .u64 d.o, .int .u64 d.z]] w (RDoes b r lv (.tuple #[.int .u64 (0), .bool false]) f log w) := by
  rw [hd]
  have hi : isK r d.c 2 = false := by rw [isK_kd R (by decide)]; simpa using hk
  have C := Lib.hid (fun w' (hx : Ext w w') => rRead_no b r f lv log d.t d.c w' (h.ext hx) hi)
  have HG : Hid (∀ w1 w2 lv', Ext w w1 → RB w2 b r f lv' log → But (Own b r.gh lv) w1 w2 → (lv'.ownBlock = lv.ownBlock ∨ ∃ j, lv'.ownBlock = some j ∧ w1.heap.size ≤ j) → (RDoes b r lv (.tuple #[.int .u64 (0), .bool false]) f log w) (.returned (.tuple #[.int .u64 (0), .bool false])) w2) := Lib.hid (fun w1 w2 lv' a1 a2 a3 a4 => rdoes_wrap a1 a2 a3 a4 (Ext.refl _))
  have q1 := h.q1
  rw [R.w] at q1
  have pb : b < w.heap.size := tag_lt h.tb
  have rb := Nat.lt_succ_of_lt pb
  clear h R N fr o0 z0 hd hl
  go_enter Tryz.func15, Tryz.ntmps15
  go_wp2_with fail
  refine (C.out _ ((Ext.refl w).alloc _)).mono ?_
  rintro e w2 ⟨rfl, lv', B2, T2, A2⟩
  have HG2 := Lib.hid (HG.out _ w2 lv' ((Ext.refl w).alloc _) B2 T2 A2)
  clear B2 T2 A2
  go_wp2
  first
    | (go_ret2; exact HG2.out)
    | exact HG2.out
set_option maxRecDepth 100000 in
theorem model_Read_yes (b : Nat) (r : RY) (y : LY) (W : Int) (f : Nat → Int) (lv : Value) (log : List Acc) (d : DoR) (w : World) (h : RB w b r f lv log) (R : Rel y r W) (hW : W = 32 ∨ W = 64) (N : Nar y W f) (hl : log.length ≤ 1000) (fr : ∀ i, i < y.m → 0 ≤ f i ∧ f i < 18446744073709551616) (o0 : 0 ≤ d.o) (z0 : 0 ≤ d.z) (hd : d.k = 6) (hk : kd y d.c = 2) : Calls Tryz.prog 15 #[.pointer (some ⟨b, 0, none⟩), .agg #[.int .i64 d.t, .int .i64 d.k, .int .i64 d.c, .int .i64 d.n, .int .u64 d.o, .int .u64 d.z]] w (RDoes b r lv (.tuple #[.int .u64 (cutS W (f d.c.toNat)), .bool false]) f (log ++ [⟨d.t, 6, d.c, f d.c.toNat, f d.c.toNat⟩]) w) := by
  rw [hd]
  obtain ⟨c, hc⟩ : ∃ c : Nat, d.c = c := ⟨d.c.toNat, by have := kd_in (y := y) (c := d.c) (by rw [hk]; decide); omega⟩
  have hcm : c < y.m := by have := kd_in (y := y) (c := d.c) (by rw [hk]; decide); omega
  obtain ⟨f0, f1⟩ := fr c hcm
  rw [hc] at hk ⊢
  rw [show ((c : Nat) : Int).toNat = c by omega]
  have hcr : c < r.m := by rw [R.m]; exact hcm
  have hi : isK r c 2 = true := by rw [isK_kd R (by decide)]; simpa using hk
  rw [N c hcm (by rw [hk]; decide)]
  have C := Lib.hid (fun w' (hx : Ext w w') => rRead_yes b r f lv log d.t c w' (h.ext hx) hi hcr hl)
  have HG : Hid (∀ w1 w2 lv', Ext w w1 → RB w2 b r f lv' (log ++ [⟨d.t, 6, (c : Int), f c, f c⟩]) → But (Own b r.gh lv) w1 w2 → (lv'.ownBlock = lv.ownBlock ∨ ∃ j, lv'.ownBlock = some j ∧ w1.heap.size ≤ j) → (RDoes b r lv (.tuple #[.int .u64 (f c), .bool false]) f (log ++ [⟨d.t, 6, (c : Int), f c, f c⟩]) w) (.returned (.tuple #[.int .u64 (f c), .bool false])) w2) := Lib.hid (fun w1 w2 lv' a1 a2 a3 a4 => rdoes_wrap a1 a2 a3 a4 (Ext.refl _))
  have q1 := h.q1
  rw [R.w] at q1
  have pb : b < w.heap.size := tag_lt h.tb
  have rb := Nat.lt_succ_of_lt pb
  clear h R N fr o0 z0 hd hl
  go_enter Tryz.func15, Tryz.ntmps15
  go_wp2_with fail
  refine (C.out _ ((Ext.refl w).alloc _)).mono ?_
  rintro e w2 ⟨rfl, lv', B2, T2, A2⟩
  have HG2 := Lib.hid (HG.out _ w2 lv' ((Ext.refl w).alloc _) B2 T2 A2)
  clear B2 T2 A2
  go_wp2
  first
    | (go_ret2; exact HG2.out)
    | exact HG2.out
set_option maxRecDepth 100000 in
theorem model_Write_no (b : Nat) (r : RY) (y : LY) (W : Int) (f : Nat → Int) (lv : Value) (log : List Acc) (d : DoR) (w : World) (h : RB w b r f lv log) (R : Rel y r W) (hW : W = 32 ∨ W = 64) (N : Nar y W f) (hl : log.length ≤ 1000) (fr : ∀ i, i < y.m → 0 ≤ f i ∧ f i < 18446744073709551616) (o0 : 0 ≤ d.o) (z0 : 0 ≤ d.z) (hd : d.k = 7) (hk : kd y d.c ≠ 2) : Calls Tryz.prog 15 #[.pointer (some ⟨b, 0, none⟩), .agg #[.int .i64 d.t, .int .i64 d.k, .int .i64 d.c, .int .i64 d.n, .int .u64 d.o, .int .u64 d.z]] w (RDoes b r lv (.tuple #[.int .u64 (0), .bool false]) f log w) := by
  rw [hd]
  have hi : isK r d.c 2 = false := by rw [isK_kd R (by decide)]; simpa using hk
  have CC := Lib.hid (fun w => rCutW W d.z w hW z0)
  have C := Lib.hid (fun w' (hx : Ext w w') => rWrite_no b r f lv log d.t d.c (cutS W d.z) w' (h.ext hx) hi)
  have HG : Hid (∀ w1 w2 lv', Ext w w1 → RB w2 b r f lv' log → But (Own b r.gh lv) w1 w2 → (lv'.ownBlock = lv.ownBlock ∨ ∃ j, lv'.ownBlock = some j ∧ w1.heap.size ≤ j) → (RDoes b r lv (.tuple #[.int .u64 (0), .bool false]) f log w) (.returned (.tuple #[.int .u64 (0), .bool false])) w2) := Lib.hid (fun w1 w2 lv' a1 a2 a3 a4 => rdoes_wrap a1 a2 a3 a4 (Ext.refl _))
  have q1 := h.q1
  rw [R.w] at q1
  have pb : b < w.heap.size := tag_lt h.tb
  have rb := Nat.lt_succ_of_lt pb
  clear h R N fr o0 z0 hd hl
  go_enter Tryz.func15, Tryz.ntmps15
  go_upto_region 14 with (fail)
  refine settle_wp ?_
  intro w1 hb1
  have q_0 : w1.cell? ⟨w.heap.size, 0, none⟩ = some (.int .i64 d.t) := hb1.cell (by simp [go_sem])
  have q_1 : w1.cell? ⟨w.heap.size, 1, none⟩ = some (.int .i64 7) := hb1.cell (by simp [go_sem])
  have q_2 : w1.cell? ⟨w.heap.size, 2, none⟩ = some (.int .i64 d.c) := hb1.cell (by simp [go_sem])
  have q_3 : w1.cell? ⟨w.heap.size, 3, none⟩ = some (.int .i64 d.n) := hb1.cell (by simp [go_sem])
  have q_4 : w1.cell? ⟨w.heap.size, 4, none⟩ = some (.int .u64 d.o) := hb1.cell (by simp [go_sem])
  have q_5 : w1.cell? ⟨w.heap.size, 5, none⟩ = some (.int .u64 d.z) := hb1.cell (by simp [go_sem])
  have X1 : Ext w w1 := Ext.trans ((Ext.refl w).alloc _) hb1
  clear hb1
  refine wp_region_later_tail 9 (by kernel_rfl) (by kernel_rfl) ?_
  simp only [List.take_succ_cons, List.take_zero, List.drop_succ_cons, List.drop_zero]
  have l_0 := fun (g : Later w1) => g.ok.cell q_0
  have l_1 := fun (g : Later w1) => g.ok.cell q_1
  have l_2 := fun (g : Later w1) => g.ok.cell q_2
  have l_3 := fun (g : Later w1) => g.ok.cell q_3
  have l_4 := fun (g : Later w1) => g.ok.cell q_4
  have l_5 := fun (g : Later w1) => g.ok.cell q_5
  repeat (go_big_quiet_step ((fail)))
  go_big_quiet_step ((go_at_call 59; exact laterS (CC.out _)))
  repeat (go_big_quiet_step ((fail)))
  refine wpQuiet_nil ?_
  intro w3 hl3
  have hb3 := laters_ext hl3
  have X3 := X1.trans hb3
  clear hl3 hb3 l_0 q_0 l_1 q_1 l_2 q_2 l_3 q_3 l_4 q_4 l_5 q_5
  go_wp2_with fail
  refine (C.out _ X3).mono ?_
  rintro e w2 ⟨rfl, lv', B2, T2, A2⟩
  have HG2 := Lib.hid (HG.out _ w2 lv' X3 B2 T2 A2)
  clear B2 T2 A2
  go_wp2
  first
    | (go_ret2; exact HG2.out)
    | exact HG2.out
set_option maxRecDepth 100000 in
theorem model_Write_yes (b : Nat) (r : RY) (y : LY) (W : Int) (f : Nat → Int) (lv : Value) (log : List Acc) (d : DoR) (w : World) (h : RB w b r f lv log) (R : Rel y r W) (hW : W = 32 ∨ W = 64) (N : Nar y W f) (hl : log.length ≤ 1000) (fr : ∀ i, i < y.m → 0 ≤ f i ∧ f i < 18446744073709551616) (o0 : 0 ≤ d.o) (z0 : 0 ≤ d.z) (hd : d.k = 7) (hk : kd y d.c = 2) : Calls Tryz.prog 15 #[.pointer (some ⟨b, 0, none⟩), .agg #[.int .i64 d.t, .int .i64 d.k, .int .i64 d.c, .int .i64 d.n, .int .u64 d.o, .int .u64 d.z]] w (RDoes b r lv (.tuple #[.int .u64 (0), .bool false]) (upd f d.c.toNat (cutS W d.z)) (log ++ [⟨d.t, 7, d.c, f d.c.toNat, cutS W d.z⟩]) w) := by
  rw [hd]
  obtain ⟨c, hc⟩ : ∃ c : Nat, d.c = c := ⟨d.c.toNat, by have := kd_in (y := y) (c := d.c) (by rw [hk]; decide); omega⟩
  have hcm : c < y.m := by have := kd_in (y := y) (c := d.c) (by rw [hk]; decide); omega
  obtain ⟨f0, f1⟩ := fr c hcm
  rw [hc] at hk ⊢
  rw [show ((c : Nat) : Int).toNat = c by omega]
  have hcr : c < r.m := by rw [R.m]; exact hcm
  have hi : isK r c 2 = true := by rw [isK_kd R (by decide)]; simpa using hk
  have CC := Lib.hid (fun w => rCutW W d.z w hW z0)
  have C := Lib.hid (fun w' (hx : Ext w w') => rWrite_yes b r f lv log d.t (cutS W d.z) c w' (h.ext hx) hi hcr hl)
  have HG : Hid (∀ w1 w2 lv', Ext w w1 → RB w2 b r (upd f c (cutS W d.z)) lv' (log ++ [⟨d.t, 7, (c : Int), f c, cutS W d.z⟩]) → But (Own b r.gh lv) w1 w2 → (lv'.ownBlock = lv.ownBlock ∨ ∃ j, lv'.ownBlock = some j ∧ w1.heap.size ≤ j) → (RDoes b r lv (.tuple #[.int .u64 (0), .bool false]) (upd f c (cutS W d.z)) (log ++ [⟨d.t, 7, (c : Int), f c, cutS W d.z⟩]) w) (.returned (.tuple #[.int .u64 (0), .bool false])) w2) := Lib.hid (fun w1 w2 lv' a1 a2 a3 a4 => rdoes_wrap a1 a2 a3 a4 (Ext.refl _))
  have q1 := h.q1
  rw [R.w] at q1
  have pb : b < w.heap.size := tag_lt h.tb
  have rb := Nat.lt_succ_of_lt pb
  clear h R N fr o0 z0 hd hl
  go_enter Tryz.func15, Tryz.ntmps15
  go_upto_region 14 with (fail)
  refine settle_wp ?_
  intro w1 hb1
  have q_0 : w1.cell? ⟨w.heap.size, 0, none⟩ = some (.int .i64 d.t) := hb1.cell (by simp [go_sem])
  have q_1 : w1.cell? ⟨w.heap.size, 1, none⟩ = some (.int .i64 7) := hb1.cell (by simp [go_sem])
  have q_2 : w1.cell? ⟨w.heap.size, 2, none⟩ = some (.int .i64 (c : Int)) := hb1.cell (by simp [go_sem])
  have q_3 : w1.cell? ⟨w.heap.size, 3, none⟩ = some (.int .i64 d.n) := hb1.cell (by simp [go_sem])
  have q_4 : w1.cell? ⟨w.heap.size, 4, none⟩ = some (.int .u64 d.o) := hb1.cell (by simp [go_sem])
  have q_5 : w1.cell? ⟨w.heap.size, 5, none⟩ = some (.int .u64 d.z) := hb1.cell (by simp [go_sem])
  have X1 : Ext w w1 := Ext.trans ((Ext.refl w).alloc _) hb1
  clear hb1
  refine wp_region_later_tail 9 (by kernel_rfl) (by kernel_rfl) ?_
  simp only [List.take_succ_cons, List.take_zero, List.drop_succ_cons, List.drop_zero]
  have l_0 := fun (g : Later w1) => g.ok.cell q_0
  have l_1 := fun (g : Later w1) => g.ok.cell q_1
  have l_2 := fun (g : Later w1) => g.ok.cell q_2
  have l_3 := fun (g : Later w1) => g.ok.cell q_3
  have l_4 := fun (g : Later w1) => g.ok.cell q_4
  have l_5 := fun (g : Later w1) => g.ok.cell q_5
  repeat (go_big_quiet_step ((fail)))
  go_big_quiet_step ((go_at_call 59; exact laterS (CC.out _)))
  repeat (go_big_quiet_step ((fail)))
  refine wpQuiet_nil ?_
  intro w3 hl3
  have hb3 := laters_ext hl3
  have X3 := X1.trans hb3
  clear hl3 hb3 l_0 q_0 l_1 q_1 l_2 q_2 l_3 q_3 l_4 q_4 l_5 q_5
  go_wp2_with fail
  refine (C.out _ X3).mono ?_
  rintro e w2 ⟨rfl, lv', B2, T2, A2⟩
  have HG2 := Lib.hid (HG.out _ w2 lv' X3 B2 T2 A2)
  clear B2 T2 A2
  go_wp2
  first
    | (go_ret2; exact HG2.out)
    | exact HG2.out
set_option maxRecDepth 100000 in
theorem model_Get_no (b : Nat) (r : RY) (y : LY) (W : Int) (f : Nat → Int) (lv : Value) (log : List Acc) (d : DoR) (w : World) (h : RB w b r f lv log) (R : Rel y r W) (hW : W = 32 ∨ W = 64) (N : Nar y W f) (hl : log.length ≤ 1000) (fr : ∀ i, i < y.m → 0 ≤ f i ∧ f i < 18446744073709551616) (o0 : 0 ≤ d.o) (z0 : 0 ≤ d.z) (hd : d.k = 8) (hk : kd y (plc y.Sl y.C d.c) ≠ 3) : Calls Tryz.prog 15 #[.pointer (some ⟨b, 0, none⟩), .agg #[.int .i64 d.t, .int .i64 d.k, .int .i64 d.c, .int .i64 d.n, .int .u64 d.o, .int .u64 d.z]] w (RDoes b r lv (.tuple #[.int .u64 (0), .bool false]) f log w) := by
  rw [hd]
  have hp : plc y.Sl r.C d.c = -1 := by
    rcases slot_kd R d.c with ⟨a, _⟩ | ⟨_, a⟩
    · exact absurd a hk
    · exact a
  have C := Lib.hid (fun w' (hx : Ext w w') => rGet_no b r f lv log d.t d.c w' (h.ext hx) y.Sl (by rw [R.c, R.m]; exact R.sl) R.sl0 (by rw [R.c]; exact R.c0) (by rw [R.m]; exact R.m1) hp)
  have HG : Hid (∀ w1 w2 lv', Ext w w1 → RB w2 b r f lv' log → But (Own b r.gh lv) w1 w2 → (lv'.ownBlock = lv.ownBlock ∨ ∃ j, lv'.ownBlock = some j ∧ w1.heap.size ≤ j) → (RDoes b r lv (.tuple #[.int .u64 (0), .bool false]) f log w) (.returned (.tuple #[.int .u64 (0), .bool false])) w2) := Lib.hid (fun w1 w2 lv' a1 a2 a3 a4 => rdoes_wrap a1 a2 a3 a4 (Ext.refl _))
  have q1 := h.q1
  rw [R.w] at q1
  have pb : b < w.heap.size := tag_lt h.tb
  have rb := Nat.lt_succ_of_lt pb
  clear hp
  clear h R N fr o0 z0 hd hl
  go_enter Tryz.func15, Tryz.ntmps15
  go_wp2_with fail
  refine (C.out _ ((Ext.refl w).alloc _)).mono ?_
  rintro e w2 ⟨rfl, lv', B2, T2, A2⟩
  have HG2 := Lib.hid (HG.out _ w2 lv' ((Ext.refl w).alloc _) B2 T2 A2)
  clear B2 T2 A2
  go_wp2
  first
    | (go_ret2; exact HG2.out)
    | exact HG2.out
set_option maxRecDepth 100000 in
theorem model_Get_yes (b : Nat) (r : RY) (y : LY) (W : Int) (f : Nat → Int) (lv : Value) (log : List Acc) (d : DoR) (w : World) (h : RB w b r f lv log) (R : Rel y r W) (hW : W = 32 ∨ W = 64) (N : Nar y W f) (hl : log.length ≤ 1000) (fr : ∀ i, i < y.m → 0 ≤ f i ∧ f i < 18446744073709551616) (o0 : 0 ≤ d.o) (z0 : 0 ≤ d.z) (hd : d.k = 8) (hk : kd y (plc y.Sl y.C d.c) = 3) : Calls Tryz.prog 15 #[.pointer (some ⟨b, 0, none⟩), .agg #[.int .i64 d.t, .int .i64 d.k, .int .i64 d.c, .int .i64 d.n, .int .u64 d.o, .int .u64 d.z]] w (RDoes b r lv (.tuple #[.int .u64 (f (plc y.Sl y.C d.c).toNat), .bool false]) f (log ++ [⟨d.t, 6, plc y.Sl y.C d.c, f (plc y.Sl y.C d.c).toNat, f (plc y.Sl y.C d.c).toNat⟩]) w) := by
  rw [hd]
  obtain ⟨hp1, hp2, hp3⟩ : plc y.Sl r.C d.c = plc y.Sl y.C d.c ∧ 0 ≤ plc y.Sl y.C d.c ∧ plc y.Sl y.C d.c < y.m := by
    rcases slot_kd R d.c with ⟨_, a, b, c⟩ | ⟨a, _⟩
    · exact ⟨a, b, c⟩
    · exact absurd hk a
  obtain ⟨c, hc⟩ : ∃ c : Nat, plc y.Sl y.C d.c = c := ⟨(plc y.Sl y.C d.c).toNat, by omega⟩
  have hcm : c < y.m := by omega
  obtain ⟨f0, f1⟩ := fr c hcm
  rw [hc] at hp1 hk ⊢
  rw [show ((c : Nat) : Int).toNat = c by omega]
  have hcr : c < r.m := by rw [R.m]; exact hcm
  have C := Lib.hid (fun w' (hx : Ext w w') => rGet_yes b r f lv log d.t d.c c w' (h.ext hx) y.Sl (by rw [R.c, R.m]; exact R.sl) R.sl0 (by rw [R.c]; exact R.c0) (by rw [R.m]; exact R.m1) hp1 hcr hl)
  have HG : Hid (∀ w1 w2 lv', Ext w w1 → RB w2 b r f lv' (log ++ [⟨d.t, 6, (c : Int), f c, f c⟩]) → But (Own b r.gh lv) w1 w2 → (lv'.ownBlock = lv.ownBlock ∨ ∃ j, lv'.ownBlock = some j ∧ w1.heap.size ≤ j) → (RDoes b r lv (.tuple #[.int .u64 (f c), .bool false]) f (log ++ [⟨d.t, 6, (c : Int), f c, f c⟩]) w) (.returned (.tuple #[.int .u64 (f c), .bool false])) w2) := Lib.hid (fun w1 w2 lv' a1 a2 a3 a4 => rdoes_wrap a1 a2 a3 a4 (Ext.refl _))
  have q1 := h.q1
  have hwb := wrap_back f0 f1
  rw [R.w] at q1
  have pb : b < w.heap.size := tag_lt h.tb
  have rb := Nat.lt_succ_of_lt pb
  generalize wrap64 (f c) = wv at *
  clear hc hp1 hp2 hp3
  clear h R N fr o0 z0 hd hl
  go_enter Tryz.func15, Tryz.ntmps15
  go_wp2_with fail
  refine (C.out _ ((Ext.refl w).alloc _)).mono ?_
  rintro e w2 ⟨rfl, lv', B2, T2, A2⟩
  have HG2 := Lib.hid (HG.out _ w2 lv' ((Ext.refl w).alloc _) B2 T2 A2)
  clear B2 T2 A2
  go_wp2
  first
    | (go_ret2; exact HG2.out)
    | exact HG2.out
set_option maxRecDepth 100000 in
theorem model_Set_no (b : Nat) (r : RY) (y : LY) (W : Int) (f : Nat → Int) (lv : Value) (log : List Acc) (d : DoR) (w : World) (h : RB w b r f lv log) (R : Rel y r W) (hW : W = 32 ∨ W = 64) (N : Nar y W f) (hl : log.length ≤ 1000) (fr : ∀ i, i < y.m → 0 ≤ f i ∧ f i < 18446744073709551616) (o0 : 0 ≤ d.o) (z0 : 0 ≤ d.z) (hd : d.k = 9) (hk : kd y (plc y.Sl y.C d.c) ≠ 3) : Calls Tryz.prog 15 #[.pointer (some ⟨b, 0, none⟩), .agg #[.int .i64 d.t, .int .i64 d.k, .int .i64 d.c, .int .i64 d.n, .int .u64 d.o, .int .u64 d.z]] w (RDoes b r lv (.tuple #[.int .u64 (0), .bool false]) f log w) := by
  rw [hd]
  have hp : plc y.Sl r.C d.c = -1 := by
    rcases slot_kd R d.c with ⟨a, _⟩ | ⟨_, a⟩
    · exact absurd a hk
    · exact a
  have C := Lib.hid (fun w' (hx : Ext w w') => rSet_no b r f lv log d.t d.c d.n w' (h.ext hx) y.Sl (by rw [R.c, R.m]; exact R.sl) R.sl0 (by rw [R.c]; exact R.c0) (by rw [R.m]; exact R.m1) hp)
  have HG : Hid (∀ w1 w2 lv', Ext w w1 → RB w2 b r f lv' log → But (Own b r.gh lv) w1 w2 → (lv'.ownBlock = lv.ownBlock ∨ ∃ j, lv'.ownBlock = some j ∧ w1.heap.size ≤ j) → (RDoes b r lv (.tuple #[.int .u64 (0), .bool false]) f log w) (.returned (.tuple #[.int .u64 (0), .bool false])) w2) := Lib.hid (fun w1 w2 lv' a1 a2 a3 a4 => rdoes_wrap a1 a2 a3 a4 (Ext.refl _))
  have q1 := h.q1
  rw [R.w] at q1
  have pb : b < w.heap.size := tag_lt h.tb
  have rb := Nat.lt_succ_of_lt pb
  clear hp
  clear h R N fr o0 z0 hd hl
  go_enter Tryz.func15, Tryz.ntmps15
  go_wp2_with fail
  refine (C.out _ ((Ext.refl w).alloc _)).mono ?_
  rintro e w2 ⟨rfl, lv', B2, T2, A2⟩
  have HG2 := Lib.hid (HG.out _ w2 lv' ((Ext.refl w).alloc _) B2 T2 A2)
  clear B2 T2 A2
  go_wp2
  first
    | (go_ret2; exact HG2.out)
    | exact HG2.out
set_option maxRecDepth 100000 in
theorem model_Set_yes (b : Nat) (r : RY) (y : LY) (W : Int) (f : Nat → Int) (lv : Value) (log : List Acc) (d : DoR) (w : World) (h : RB w b r f lv log) (R : Rel y r W) (hW : W = 32 ∨ W = 64) (N : Nar y W f) (hl : log.length ≤ 1000) (fr : ∀ i, i < y.m → 0 ≤ f i ∧ f i < 18446744073709551616) (o0 : 0 ≤ d.o) (z0 : 0 ≤ d.z) (hd : d.k = 9) (hk : kd y (plc y.Sl y.C d.c) = 3) : Calls Tryz.prog 15 #[.pointer (some ⟨b, 0, none⟩), .agg #[.int .i64 d.t, .int .i64 d.k, .int .i64 d.c, .int .i64 d.n, .int .u64 d.o, .int .u64 d.z]] w (RDoes b r lv (.tuple #[.int .u64 (0), .bool false]) (upd f (plc y.Sl y.C d.c).toNat (U64 d.n)) (log ++ [⟨d.t, 7, plc y.Sl y.C d.c, f (plc y.Sl y.C d.c).toNat, U64 d.n⟩]) w) := by
  rw [hd]
  obtain ⟨hp1, hp2, hp3⟩ : plc y.Sl r.C d.c = plc y.Sl y.C d.c ∧ 0 ≤ plc y.Sl y.C d.c ∧ plc y.Sl y.C d.c < y.m := by
    rcases slot_kd R d.c with ⟨_, a, b, c⟩ | ⟨a, _⟩
    · exact ⟨a, b, c⟩
    · exact absurd hk a
  obtain ⟨c, hc⟩ : ∃ c : Nat, plc y.Sl y.C d.c = c := ⟨(plc y.Sl y.C d.c).toNat, by omega⟩
  have hcm : c < y.m := by omega
  obtain ⟨f0, f1⟩ := fr c hcm
  rw [hc] at hp1 hk ⊢
  rw [show ((c : Nat) : Int).toNat = c by omega]
  have hcr : c < r.m := by rw [R.m]; exact hcm
  have C := Lib.hid (fun w' (hx : Ext w w') => rSet_yes b r f lv log d.t d.c d.n c w' (h.ext hx) y.Sl (by rw [R.c, R.m]; exact R.sl) R.sl0 (by rw [R.c]; exact R.c0) (by rw [R.m]; exact R.m1) hp1 hcr hl)
  have HG : Hid (∀ w1 w2 lv', Ext w w1 → RB w2 b r (upd f c (U64 d.n)) lv' (log ++ [⟨d.t, 7, (c : Int), f c, U64 d.n⟩]) → But (Own b r.gh lv) w1 w2 → (lv'.ownBlock = lv.ownBlock ∨ ∃ j, lv'.ownBlock = some j ∧ w1.heap.size ≤ j) → (RDoes b r lv (.tuple #[.int .u64 (0), .bool false]) (upd f c (U64 d.n)) (log ++ [⟨d.t, 7, (c : Int), f c, U64 d.n⟩]) w) (.returned (.tuple #[.int .u64 (0), .bool false])) w2) := Lib.hid (fun w1 w2 lv' a1 a2 a3 a4 => rdoes_wrap a1 a2 a3 a4 (Ext.refl _))
  have q1 := h.q1
  rw [R.w] at q1
  have pb : b < w.heap.size := tag_lt h.tb
  have rb := Nat.lt_succ_of_lt pb
  clear hc hp1 hp2 hp3
  clear h R N fr o0 z0 hd hl
  go_enter Tryz.func15, Tryz.ntmps15
  go_wp2_with fail
  refine (C.out _ ((Ext.refl w).alloc _)).mono ?_
  rintro e w2 ⟨rfl, lv', B2, T2, A2⟩
  have HG2 := Lib.hid (HG.out _ w2 lv' ((Ext.refl w).alloc _) B2 T2 A2)
  clear B2 T2 A2
  go_wp2
  first
    | (go_ret2; exact HG2.out)
    | exact HG2.out
set_option maxRecDepth 100000 in
theorem model_none (b : Nat) (r : RY) (y : LY) (W : Int) (f : Nat → Int) (lv : Value) (log : List Acc) (d : DoR) (w : World) (h : RB w b r f lv log) (R : Rel y r W) (hW : W = 32 ∨ W = 64) (N : Nar y W f) (hl : log.length ≤ 1000) (fr : ∀ i, i < y.m → 0 ≤ f i ∧ f i < 18446744073709551616) (o0 : 0 ≤ d.o) (z0 : 0 ≤ d.z) (h1 : d.k ≠ 1) (h2 : d.k ≠ 2) (h3 : d.k ≠ 3) (h4 : d.k ≠ 4) (h6 : d.k ≠ 6) (h7 : d.k ≠ 7) (h8 : d.k ≠ 8) (h9 : d.k ≠ 9) : Calls Tryz.prog 15 #[.pointer (some ⟨b, 0, none⟩), .agg #[.int .i64 d.t, .int .i64 d.k, .int .i64 d.c, .int .i64 d.n, .int .u64 d.o, .int .u64 d.z]] w (RDoes b r lv (.tuple #[.int .u64 0, .bool false]) f log w) := by
  have HG2 : Hid ((RDoes b r lv (.tuple #[.int .u64 0, .bool false]) f log w) (.returned (.tuple #[.int .u64 0, .bool false])) (w.alloc (.cells #[.int .i64 d.t, .int .i64 d.k, .int .i64 d.c, .int .i64 d.n, .int .u64 d.o, .int .u64 d.z] 45))) := Lib.hid (rdoes_same h ((Ext.refl w).alloc _))
  have q1 := h.q1
  have pb : b < w.heap.size := tag_lt h.tb
  have rb := Nat.lt_succ_of_lt pb
  have e1 : (d.k == 1) = false := by simpa using h1
  have e2 : (d.k == 2) = false := by simpa using h2
  have e3 : (d.k == 3) = false := by simpa using h3
  have e4 : (d.k == 4) = false := by simpa using h4
  have e6 : (d.k == 6) = false := by simpa using h6
  have e7 : (d.k == 7) = false := by simpa using h7
  have e8 : (d.k == 8) = false := by simpa using h8
  have e9 : (d.k == 9) = false := by simpa using h9
  clear h R N fr o0 z0 hl h1 h2 h3 h4 h6 h7 h8 h9
  go_enter Tryz.func15, Tryz.ntmps15
  go_wp2
  first
    | (go_ret2; exact HG2.out)
    | exact HG2.out
theorem model_step (b : Nat) (r : RY) (y : LY) (W : Int) (f : Nat → Int) (lv : Value) (log : List Acc) (d : DoR) (w : World) (h : RB w b r f lv log) (R : Rel y r W) (hW : W = 32 ∨ W = 64) (N : Nar y W f) (hl : log.length ≤ 1000) (fr : ∀ i, i < y.m → 0 ≤ f i ∧ f i < 18446744073709551616) (o0 : 0 ≤ d.o) (z0 : 0 ≤ d.z) : Calls Tryz.prog 15 #[.pointer (some ⟨b, 0, none⟩), .agg #[.int .i64 d.t, .int .i64 d.k, .int .i64 d.c, .int .i64 d.n, .int .u64 d.o, .int .u64 d.z]] w (RDoes b r lv (.tuple #[.int .u64 (stp y W d f log).v, .bool (stp y W d f log).b]) (stp y W d f log).f (stp y W d f log).l w) := by
  unfold stp
  by_cases k1 : d.k = 1
  · rw [if_pos k1]
    unfold lookS
    by_cases hk : kd y d.c = 1
    · rw [if_pos hk]
      exact model_Load_yes b r y W f lv log d w h R hW N hl fr o0 z0 k1 hk
    · rw [if_neg hk]
      exact model_Load_no b r y W f lv log d w h R hW N hl fr o0 z0 k1 hk
  rw [if_neg k1]
  by_cases k2 : d.k = 2
  · rw [if_pos k2]
    unfold putS
    by_cases hk : kd y d.c = 1
    · rw [if_pos hk]
      exact model_Store_yes b r y W f lv log d w h R hW N hl fr o0 z0 k2 hk
    · rw [if_neg hk]
      exact model_Store_no b r y W f lv log d w h R hW N hl fr o0 z0 k2 hk
  rw [if_neg k2]
  by_cases k3 : d.k = 3
  · rw [if_pos k3]
    unfold addS
    by_cases hk : kd y d.c = 1
    · rw [if_pos hk]
      exact model_Add_yes b r y W f lv log d w h R hW N hl fr o0 z0 k3 hk
    · rw [if_neg hk]
      exact model_Add_no b r y W f lv log d w h R hW N hl fr o0 z0 k3 hk
  rw [if_neg k3]
  by_cases k4 : d.k = 4
  · rw [if_pos k4]
    unfold swapS
    by_cases hk : kd y d.c = 1
    · rw [if_pos hk]
      by_cases ho : cutS W (f d.c.toNat) = cutS W d.o
      · rw [if_pos ho]
        exact model_Swap_yes b r y W f lv log d w h R hW N hl fr o0 z0 k4 hk ho
      · rw [if_neg ho]
        exact model_Swap_miss b r y W f lv log d w h R hW N hl fr o0 z0 k4 hk ho
    · rw [if_neg hk]
      exact model_Swap_no b r y W f lv log d w h R hW N hl fr o0 z0 k4 hk
  rw [if_neg k4]
  by_cases k6 : d.k = 6
  · rw [if_pos k6]
    unfold lookS
    by_cases hk : kd y d.c = 2
    · rw [if_pos hk]
      exact model_Read_yes b r y W f lv log d w h R hW N hl fr o0 z0 k6 hk
    · rw [if_neg hk]
      exact model_Read_no b r y W f lv log d w h R hW N hl fr o0 z0 k6 hk
  rw [if_neg k6]
  by_cases k7 : d.k = 7
  · rw [if_pos k7]
    unfold putS
    by_cases hk : kd y d.c = 2
    · rw [if_pos hk]
      exact model_Write_yes b r y W f lv log d w h R hW N hl fr o0 z0 k7 hk
    · rw [if_neg hk]
      exact model_Write_no b r y W f lv log d w h R hW N hl fr o0 z0 k7 hk
  rw [if_neg k7]
  by_cases k8 : d.k = 8
  · rw [if_pos k8]
    unfold getS
    by_cases hk : kd y (plc y.Sl y.C d.c) = 3
    · rw [if_pos hk]
      exact model_Get_yes b r y W f lv log d w h R hW N hl fr o0 z0 k8 hk
    · rw [if_neg hk]
      exact model_Get_no b r y W f lv log d w h R hW N hl fr o0 z0 k8 hk
  rw [if_neg k8]
  by_cases k9 : d.k = 9
  · rw [if_pos k9]
    unfold setS
    by_cases hk : kd y (plc y.Sl y.C d.c) = 3
    · rw [if_pos hk]
      exact model_Set_yes b r y W f lv log d w h R hW N hl fr o0 z0 k9 hk
    · rw [if_neg hk]
      exact model_Set_no b r y W f lv log d w h R hW N hl fr o0 z0 k9 hk
  rw [if_neg k9]
  exact model_none b r y W f lv log d w h R hW N hl fr o0 z0 k1 k2 k3 k4 k6 k7 k8 k9
end Go.Proofs.YtaimmpcijdpgdabGreatDoor

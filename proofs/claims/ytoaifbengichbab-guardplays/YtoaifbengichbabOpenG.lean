/- Arguments as the row hands them in, opened: what a handle is told, a slice of these; a handle of the document's. No program in sight. -/
import Derived.Test.YtoaifbengichbabOpen2
namespace Go.Proofs.Ytoaifbengichbab
open Go.Joins Go.ChangeShapes Go.WideShapes Go.ChangeAt Go.RowKit Go.Deep
set_option linter.unusedVariables false
/-- what a handle is told -/
structure GDo where
  k : Int
  n : Int
  p : Int
  op : Int
  m : Int
  a : Option Addr
  len : Nat
  cap : Nat
def gdV (d : GDo) : List Value := [.int .i64 d.k, .int .i64 d.n, .int .u64 d.p, .int .i64 d.op, .int .i64 d.m, .slice d.a d.len d.cap]
def GDoOk (d : GDo) : Prop := (Lit.int .i64 d.k).wf = true ∧ (Lit.int .i64 d.n).wf = true ∧ (Lit.int .u64 d.p).wf = true ∧ (Lit.int .i64 d.op).wf = true ∧ (Lit.int .i64 d.m).wf = true ∧ d.len ≤ maxLen
def IsGDos (w : World) (a : Option Addr) (len cap : Nat) (ds : List GDo) : Prop :=
  ds.length = len ∧ len ≤ cap ∧ cap ≤ maxLen ∧ (∀ d ∈ ds, GDoOk d) ∧ (∀ i, (hi : i < ds.length) → ∃ b off, a = some ⟨b, off, none⟩ ∧ ∀ j u, (gdV ds[i])[j]? = some u → w.cell? ⟨b, off + (i * 6 + j), none⟩ = some u)
section
variable {H : Type} {enc : TypeId × Value → H} {P : Program} {W : World} {held : Bool}
theorem gdo_cells {t s : TypeId} {f0 f1 f2 f3 g0 g1 g2 : Field} {cs : List Value} {fuel : Nat} {d : DataW H × List MemPlace} {base : Nat} {sp : Nat → Bool} (ht : P.underlying t = some (.struct #[f0, f1, f2, f3]))
    (e0 : P.underlying f0.type = some (.int .i64)) (e1 : P.underlying f1.type = some (.int .i64)) (e2 : P.underlying f2.type = some (.int .u64)) (e3 : P.underlying f3.type = some (.struct #[g0, g1, g2]))
    (c0 : P.underlying g0.type = some (.int .i64)) (c1 : P.underlying g1.type = some (.int .i64)) (c2 : P.underlying g2.type = some (.slice s))
    (o : (f0.offset = 0 ∧ P.cellsOf f0.type = 1) ∧ (f1.offset = 1 ∧ P.cellsOf f1.type = 1) ∧ (f2.offset = 2 ∧ P.cellsOf f2.type = 1) ∧ (f3.offset = 3 ∧ P.cellsOf f3.type = 3))
    (hone : oneCellFields P #[g0, g1, g2] = true) (hl6 : cs.length = 6) (hf : DataW.trod enc P W base sp held fuel t cs = some d) : ∃ x : GDo, cs = gdV x ∧ GDoOk x := by
  obtain ⟨xs, n, _, _, hl, hlen, hh⟩ := DataW.trod_struct ht hf
  have k0 := hh 0 f0 rfl
  have k1 := hh 1 f1 rfl
  have k2 := hh 2 f2 rfl
  have k3 := hh 3 f3 rfl
  clear hh hf
  have hlen' : xs.length = 4 := by simpa using hlen
  obtain ⟨⟨a0, b0⟩, ⟨a1, b1⟩, ⟨a2, b2⟩, ⟨a3, b3⟩⟩ := o
  rw [List.getElem?_eq_getElem (by omega)] at k0 k1 k2 k3
  match cs, hl6 with
  | [y0, y1, y2, y3, y4, y5], _ =>
    simp [a0, b0] at k0
    simp [a1, b1] at k1
    simp [a2, b2] at k2
    simp [a3, b3] at k3
    obtain ⟨x0, q0, _, w0⟩ := DataW.trod_int e0 k0
    obtain ⟨x1, q1, _, w1⟩ := DataW.trod_int e1 k1
    obtain ⟨x2, q2, _, w2⟩ := DataW.trod_int e2 k2
    simp at q0 q1 q2
    subst q0 q1 q2
    obtain ⟨ys, n2, _, _, _, hlen2, hh2⟩ := DataW.trod_struct e3 k3
    have m0 := hh2 0 g0 rfl
    have m1 := hh2 1 g1 rfl
    have m2 := hh2 2 g2 rfl
    clear hh2 k3
    have hlen2' : ys.length = 3 := by simpa using hlen2
    obtain ⟨r0, s0⟩ := hone_of hone 0 g0 rfl
    obtain ⟨r1, s1⟩ := hone_of hone 1 g1 rfl
    obtain ⟨r2, s2⟩ := hone_of hone 2 g2 rfl
    rw [List.getElem?_eq_getElem (by omega)] at m0 m1 m2
    simp [r0, s0] at m0
    simp [r1, s1] at m1
    simp [r2, s2] at m2
    obtain ⟨x3, q3, _, w3⟩ := DataW.trod_int c0 m0
    obtain ⟨x4, q4, _, w4⟩ := DataW.trod_int c1 m1
    simp at q3 q4
    subst q3 q4
    rcases open_slice c2 m2 with ⟨hcs', _⟩ | ⟨x, l, c, m, n', D, Pl, hcs', _, hl', hm', hmm', _⟩
    · simp at hcs'
      subst hcs'
      exact ⟨⟨x0, x1, x2, x3, x4, none, 0, 0⟩, rfl, w0, w1, w2, w3, w4, by unfold maxLen; simp⟩
    · simp at hcs'
      subst hcs'
      exact ⟨⟨x0, x1, x2, x3, x4, some x, l, c⟩, rfl, w0, w1, w2, w3, w4, Nat.le_trans hl' hm'⟩
theorem open_gdo {r : Reach} {b0 : Nat} {t s : TypeId} {f0 f1 f2 f3 g0 g1 g2 : Field} {v : Value} {d : DataW H} {p : List MemPlace} (ht : P.underlying t = some (.struct #[f0, f1, f2, f3]))
    (e0 : P.underlying f0.type = some (.int .i64)) (e1 : P.underlying f1.type = some (.int .i64)) (e2 : P.underlying f2.type = some (.int .u64)) (e3 : P.underlying f3.type = some (.struct #[g0, g1, g2]))
    (c0 : P.underlying g0.type = some (.int .i64)) (c1 : P.underlying g1.type = some (.int .i64)) (c2 : P.underlying g2.type = some (.slice s))
    (o : (f0.offset = 0 ∧ P.cellsOf f0.type = 1) ∧ (f1.offset = 1 ∧ P.cellsOf f1.type = 1) ∧ (f2.offset = 2 ∧ P.cellsOf f2.type = 1) ∧ (f3.offset = 3 ∧ P.cellsOf f3.type = 3))
    (hone : oneCellFields P #[g0, g1, g2] = true) (hC : P.cellsOf t = 6)
    (hv : Value.okWide P W r b0 t v) (h : DataW.Trod enc P W 0 (fun _ => true) held t v d p) : ∃ x : GDo, v = .agg #[.int .i64 x.k, .int .i64 x.n, .int .u64 x.p, .int .i64 x.op, .int .i64 x.m, .slice x.a x.len x.cap] ∧ GDoOk x := by
  obtain ⟨cs, rfl, hsz⟩ := okWide_struct ht hv
  obtain ⟨fuel, hf⟩ := h
  obtain ⟨x, hx, hok⟩ := gdo_cells (cs := cs.toList) ht e0 e1 e2 e3 c0 c1 c2 o hone (by simpa using hsz.trans hC) (by simpa [Value.cells] using hf)
  refine ⟨x, ?_, hok⟩
  have : cs = (gdV x).toArray := by rw [← hx]
  rw [this]
  rfl
theorem open_gdos {t e s : TypeId} {f0 f1 f2 f3 g0 g1 g2 : Field} {a : Option Addr} {len cap : Nat} {d : DataW H} {p : List MemPlace} (ht : P.underlying t = some (.slice e)) (hs : P.underlying e = some (.struct #[f0, f1, f2, f3]))
    (e0 : P.underlying f0.type = some (.int .i64)) (e1 : P.underlying f1.type = some (.int .i64)) (e2 : P.underlying f2.type = some (.int .u64)) (e3 : P.underlying f3.type = some (.struct #[g0, g1, g2]))
    (c0 : P.underlying g0.type = some (.int .i64)) (c1 : P.underlying g1.type = some (.int .i64)) (c2 : P.underlying g2.type = some (.slice s))
    (o : (f0.offset = 0 ∧ P.cellsOf f0.type = 1) ∧ (f1.offset = 1 ∧ P.cellsOf f1.type = 1) ∧ (f2.offset = 2 ∧ P.cellsOf f2.type = 1) ∧ (f3.offset = 3 ∧ P.cellsOf f3.type = 3))
    (hone : oneCellFields P #[g0, g1, g2] = true) (hC : P.cellsOf e = 6)
    (h : DataW.Trod enc P W 0 (fun _ => true) held t (.slice a len cap) d p) : ∃ ds, IsGDos W a len cap ds := by
  obtain ⟨fuel, hf⟩ := h
  rcases open_slice ht hf with ⟨hcs, _⟩ | ⟨x, l, c, m, n, D, Pl, hcs, _, hl, hm, hmm, _, hi⟩
  · simp [Value.cells] at hcs
    obtain ⟨rfl, rfl, rfl⟩ := hcs
    exact ⟨[], rfl, Nat.le_refl _, by unfold maxLen; omega, by simp, fun i hi => by simp at hi⟩
  · simp [Value.cells] at hcs
    obtain ⟨rfl, rfl, rfl⟩ := hcs
    simp at hmm
    subst hmm
    have one : ∀ i : Nat, ∃ q : GDo, i < m → GDoOk q ∧ ∀ j u, (gdV q)[j]? = some u → W.cell? (x.add (i * 6 + j)) = some u := by
      intro i
      by_cases him : i < m
      · obtain ⟨cs', hc, ht'⟩ := hi i him
        rw [hC] at hc
        obtain ⟨_, hcl, hat⟩ := World.cells?_some hc
        obtain ⟨q, hq, hok⟩ := gdo_cells (cs := cs') hs e0 e1 e2 e3 c0 c1 c2 o hone (by omega) ht'
        refine ⟨q, fun _ => ⟨hok, fun j u hu => ?_⟩⟩
        rw [← hq] at hu
        have hj : j < 6 := by
          have := (List.getElem?_eq_some_iff.1 hu).1
          omega
        have aj := hat j hj
        rw [hu] at aj
        rw [← Go.Deep.add_add]
        exact aj
      · exact ⟨⟨0, 0, 0, 0, 0, none, 0, 0⟩, fun h => absurd h him⟩
    obtain ⟨f, hf⟩ := Classical.axiomOfChoice one
    refine ⟨(List.range len).map f, by simp, hl, hm, ?_, ?_⟩
    · intro q hq
      simp at hq
      obtain ⟨i, hi, rfl⟩ := hq
      exact (hf i (by omega)).1
    · intro i hi
      have hil : i < len := by simpa using hi
      have h0 := (hf i (by omega)).2
      have h00 := (hf 0 (by omega)).2 0 _ rfl
      have hx2 : x = ⟨x.block, x.off, none⟩ := spot_none (v := .int .i64 (f 0).k) (by simpa [Addr.add] using h00)
      refine ⟨x.block, x.off, by rw [← hx2], fun j u hu => ?_⟩
      have hu2 : (gdV (f i))[j]? = some u := by simpa using hu
      have := h0 j u hu2
      rw [hx2] at this
      by_cases hz : i * 6 + j = 0
      · rw [hz] at this ⊢; simpa [Addr.add] using this
      · simpa only [Addr.add, hz, if_false] using this
/-- a handle of the document's -/
theorem open_h {r : Reach} {b0 : Nat} {t : TypeId} {f0 f1 f2 f3 f4 f5 f6 : Field} {v : Value} {d : DataW H} {p : List MemPlace} (ht : P.underlying t = some (.struct #[f0, f1, f2, f3, f4, f5, f6]))
    (e0 : P.underlying f0.type = some (.int .i64)) (e1 : P.underlying f1.type = some .bool) (e2 : P.underlying f2.type = some .bool) (e3 : P.underlying f3.type = some (.int .u64)) (e4 : P.underlying f4.type = some (.int .i64)) (e5 : P.underlying f5.type = some (.int .i64)) (e6 : P.underlying f6.type = some (.int .i64))
    (hone : oneCellFields P #[f0, f1, f2, f3, f4, f5, f6] = true) (hC : P.cellsOf t = 7)
    (hv : Value.okWide P W r b0 t v) (h : DataW.Trod enc P W 0 (fun _ => true) held t v d p) : ∃ (C : Int) (pr hd : Bool) (F N G U : Int), v = .agg #[.int .i64 C, .bool pr, .bool hd, .int .u64 F, .int .i64 N, .int .i64 G, .int .i64 U] ∧ (Lit.int .i64 C).wf = true := by
  obtain ⟨cs, rfl, hsz⟩ := okWide_struct ht hv
  obtain ⟨fuel, hf⟩ := h
  obtain ⟨xs, n, _, _, hl, hlen, hh⟩ := DataW.trod_struct ht hf
  have g0 := hh 0 f0 rfl
  have g1 := hh 1 f1 rfl
  have g2 := hh 2 f2 rfl
  have g3 := hh 3 f3 rfl
  have g4 := hh 4 f4 rfl
  have g5 := hh 5 f5 rfl
  have g6 := hh 6 f6 rfl
  clear hh hf
  have hlen' : xs.length = 7 := by simpa using hlen
  obtain ⟨o0, k0⟩ := hone_of hone 0 f0 rfl
  obtain ⟨o1, k1⟩ := hone_of hone 1 f1 rfl
  obtain ⟨o2, k2⟩ := hone_of hone 2 f2 rfl
  obtain ⟨o3, k3⟩ := hone_of hone 3 f3 rfl
  obtain ⟨o4, k4⟩ := hone_of hone 4 f4 rfl
  obtain ⟨o5, k5⟩ := hone_of hone 5 f5 rfl
  obtain ⟨o6, k6⟩ := hone_of hone 6 f6 rfl
  rw [List.getElem?_eq_getElem (by omega)] at g0 g1 g2 g3 g4 g5 g6
  have hs7 : cs.size = 7 := hsz.trans hC
  obtain ⟨l⟩ := cs
  match l, hs7 with
  | [c0, c1, c2, c3, c4, c5, c6], _ =>
    simp [Value.cells, o0, k0] at g0
    simp [Value.cells, o1, k1] at g1
    simp [Value.cells, o2, k2] at g2
    simp [Value.cells, o3, k3] at g3
    simp [Value.cells, o4, k4] at g4
    simp [Value.cells, o5, k5] at g5
    simp [Value.cells, o6, k6] at g6
    obtain ⟨x0, q0, _, w0⟩ := DataW.trod_int e0 g0
    obtain ⟨x1, q1, _⟩ := DataW.trod_bool e1 g1
    obtain ⟨x2, q2, _⟩ := DataW.trod_bool e2 g2
    obtain ⟨x3, q3, _, w3⟩ := DataW.trod_int e3 g3
    obtain ⟨x4, q4, _, w4⟩ := DataW.trod_int e4 g4
    obtain ⟨x5, q5, _, w5⟩ := DataW.trod_int e5 g5
    obtain ⟨x6, q6, _, w6⟩ := DataW.trod_int e6 g6
    simp at q0 q1 q2 q3 q4 q5 q6
    subst q0 q1 q2 q3 q4 q5 q6
    exact ⟨x0, x1, x2, x3, x4, x5, x6, rfl, w0⟩
end
end Go.Proofs.Ytoaifbengichbab

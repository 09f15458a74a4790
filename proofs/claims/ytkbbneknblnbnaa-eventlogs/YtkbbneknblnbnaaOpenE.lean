/- Arguments as the row hands them in, opened: a slice of events. -/
import Derived.Test.YtkbbneknblnbnaaOpen2
import Derived.Test.YtkbbneknblnbnaaEv1
namespace Go.Proofs.Ytkbbneknblnbnaa
open Go.Joins Go.ChangeShapes Go.WideShapes Go.ChangeAt Go.RowKit Go.Deep
set_option linter.unusedVariables false
/-- all its numbers fit -/
def EvWf (d : Ev) : Prop := (Lit.int .i64 d.k).wf = true ∧ (Lit.int .i64 d.t).wf = true ∧ (Lit.int .i64 d.o).wf = true ∧ (Lit.int .i64 d.n).wf = true ∧ (Lit.int .u64 d.p).wf = true ∧ (Lit.int .i64 d.c).wf = true ∧ d.d.length ≤ maxLen ∧ ∀ i ∈ d.d, (Lit.int .i64 i).wf = true
def IsEvs (w : World) (a : Option Addr) (len cap : Nat) (ls : List Ev) : Prop :=
  ls.length = len ∧ EvsV w w.heap.size (.slice a len cap) ls ∧ ∀ d ∈ ls, EvWf d
theorem dat_of_row {w : World} {a : Option Addr} {len cap : Nat} {zs : List Int} (h : IsRow .i64 w a len cap zs) : Dat w w.heap.size (.slice a len cap) (zs.take len) ∧ (zs.take len).length = len ∧ len ≤ maxLen ∧ ∀ i ∈ zs.take len, (Lit.int .i64 i).wf = true := by
  rcases h with ⟨rfl, rfl, rfl, rfl⟩ | ⟨x, rfl, hl, hm, hz, hc, hw⟩
  · exact ⟨.inl ⟨none, 0, rfl, rfl, fun _ => rfl⟩, rfl, Nat.zero_le _, by simp⟩
  · have hlen : (zs.take len).length = len := by rw [List.length_take]; omega
    refine ⟨?_, hlen, by omega, fun i hi => hw i (List.mem_of_mem_take hi)⟩
    by_cases h0 : len = 0
    · subst h0
      exact .inl ⟨some x, cap, rfl, by simp, fun e => by cases e⟩
    · right
      have h1 := hc 0 (by omega)
      have hx := spot_none h1
      simp [Addr.add] at hx
      have h1' : w.cell? ⟨x.block, x.off, none⟩ = some (.int .i64 (zs.getD 0 0)) := by rw [hx] at h1; simpa [Addr.add] using h1
      have hb : x.block < w.heap.size := World.block_lt_of_cell? w ⟨x.block, x.off, none⟩ h1'
      refine ⟨x.block, x.off, cap, by rw [hlen, ← hx], fun j hj => ?_, .inl hb⟩
      rw [hlen] at hj
      have h2 := hc j (by omega)
      rw [hx] at h2
      have e : (zs.take len).getD j 0 = zs.getD j 0 := by simp [hj]
      rw [e]
      by_cases hj0 : j = 0
      · subst hj0; simpa [Addr.add] using h2
      · simpa [Addr.add, hj0] using h2
section
variable {H : Type} {enc : TypeId × Value → H} {P : Program} {W : World} {held : Bool}
theorem ev_cells {t g : TypeId} {f0 f1 f2 f3 f4 f5 f6 : Field} {cs : List Value} {fuel : Nat} {d : DataW H × List MemPlace} (ht : P.underlying t = some (.struct #[f0, f1, f2, f3, f4, f5, f6]))
    (e0 : P.underlying f0.type = some (.int .i64)) (e1 : P.underlying f1.type = some (.int .i64)) (e2 : P.underlying f2.type = some (.int .i64)) (e3 : P.underlying f3.type = some (.int .i64)) (e4 : P.underlying f4.type = some (.int .u64)) (e5 : P.underlying f5.type = some (.int .i64)) (e6 : P.underlying f6.type = some (.slice g)) (eg : P.underlying g = some (.int .i64))
    (hcg : P.cellsOf g = 1) (hone : oneCellFields P #[f0, f1, f2, f3, f4, f5, f6] = true) (hl6 : cs.length = 7) (hf : DataW.trod enc P W 0 (fun _ => true) held fuel t cs = some d) : ∃ x : Ev, ∃ u, cs = evV x u ∧ EvWf x ∧ Dat W W.heap.size u x.d := by
  obtain ⟨xs, n, _, _, hl, hlen, hh⟩ := DataW.trod_struct ht hf
  have g0 := hh 0 f0 rfl
  have g1 := hh 1 f1 rfl
  have g2 := hh 2 f2 rfl
  have g3 := hh 3 f3 rfl
  have g4 := hh 4 f4 rfl
  have g5 := hh 5 f5 rfl
  have g6 := hh 6 f6 rfl
  clear hh hf
  have hlen' : xs.length = 7 := by simpa using hlen
  obtain ⟨o0, k0⟩ := hone_of hone 0 f0 rfl
  obtain ⟨o1, k1⟩ := hone_of hone 1 f1 rfl
  obtain ⟨o2, k2⟩ := hone_of hone 2 f2 rfl
  obtain ⟨o3, k3⟩ := hone_of hone 3 f3 rfl
  obtain ⟨o4, k4⟩ := hone_of hone 4 f4 rfl
  obtain ⟨o5, k5⟩ := hone_of hone 5 f5 rfl
  obtain ⟨o6, k6⟩ := hone_of hone 6 f6 rfl
  rw [List.getElem?_eq_getElem (by omega)] at g0 g1 g2 g3 g4 g5 g6
  match cs, hl6 with
  | [c0, c1, c2, c3, c4, c5, c6], _ =>
    simp [o0, k0] at g0
    simp [o1, k1] at g1
    simp [o2, k2] at g2
    simp [o3, k3] at g3
    simp [o4, k4] at g4
    simp [o5, k5] at g5
    simp [o6, k6] at g6
    obtain ⟨x0, q0, _, w0⟩ := DataW.trod_int e0 g0
    obtain ⟨x1, q1, _, w1⟩ := DataW.trod_int e1 g1
    obtain ⟨x2, q2, _, w2⟩ := DataW.trod_int e2 g2
    obtain ⟨x3, q3, _, w3⟩ := DataW.trod_int e3 g3
    obtain ⟨x4, q4, _, w4⟩ := DataW.trod_int e4 g4
    obtain ⟨x5, q5, _, w5⟩ := DataW.trod_int e5 g5
    simp at q0 q1 q2 q3 q4 q5
    subst q0 q1 q2 q3 q4 q5
    rcases open_ints e6 eg hcg g6 with ⟨hv, _⟩ | ⟨y, l', c', zs, hv, _, hl', hm', hz, _, hcell, hwz⟩
    · simp at hv
      subst hv
      exact ⟨⟨x0, x1, x2, x3, x4, x5, []⟩, _, rfl, ⟨w0, w1, w2, w3, w4, w5, Nat.zero_le _, by simp⟩, .inl ⟨none, 0, rfl, rfl, fun _ => rfl⟩⟩
    · simp at hv
      subst hv
      have hr : IsRow .i64 W (some y) l' c' zs := .inr ⟨y, rfl, hl', hm', by simpa using hz, hcell, hwz⟩
      obtain ⟨r1, r2, r3, r4⟩ := dat_of_row hr
      exact ⟨⟨x0, x1, x2, x3, x4, x5, zs.take l'⟩, _, rfl, ⟨w0, w1, w2, w3, w4, w5, by simpa [r2] using r3, r4⟩, r1⟩
theorem open_evs {t e g : TypeId} {f0 f1 f2 f3 f4 f5 f6 : Field} {a : Option Addr} {len cap : Nat} {d : DataW H} {p : List MemPlace} (ht : P.underlying t = some (.slice e)) (hs : P.underlying e = some (.struct #[f0, f1, f2, f3, f4, f5, f6]))
    (e0 : P.underlying f0.type = some (.int .i64)) (e1 : P.underlying f1.type = some (.int .i64)) (e2 : P.underlying f2.type = some (.int .i64)) (e3 : P.underlying f3.type = some (.int .i64)) (e4 : P.underlying f4.type = some (.int .u64)) (e5 : P.underlying f5.type = some (.int .i64)) (e6 : P.underlying f6.type = some (.slice g)) (eg : P.underlying g = some (.int .i64))
    (hcg : P.cellsOf g = 1) (hone : oneCellFields P #[f0, f1, f2, f3, f4, f5, f6] = true) (hC : P.cellsOf e = 7)
    (h : DataW.Trod enc P W 0 (fun _ => true) held t (.slice a len cap) d p) : ∃ ds, IsEvs W a len cap ds := by
  obtain ⟨fuel, hf⟩ := h
  rcases open_slice ht hf with ⟨hcs, _⟩ | ⟨x, l, c, m, n, D, Pl, hcs, _, hl, hm, hmm, _, hi⟩
  · simp [Value.cells] at hcs
    obtain ⟨rfl, rfl, rfl⟩ := hcs
    exact ⟨[], rfl, ⟨none, 0, rfl, Nat.le_refl _, by unfold maxLen; omega, fun _ => rfl, fun i hi => by simp at hi⟩, by simp⟩
  · simp [Value.cells] at hcs
    obtain ⟨rfl, rfl, rfl⟩ := hcs
    simp at hmm
    subst hmm
    have one : ∀ i : Nat, ∃ q : Ev × Value, i < m → EvWf q.1 ∧ Dat W W.heap.size q.2 q.1.d ∧ ∀ j u, (evV q.1 q.2)[j]? = some u → W.cell? (x.add (i * 7 + j)) = some u := by
      intro i
      by_cases him : i < m
      · obtain ⟨cs', hc, ht'⟩ := hi i him
        rw [hC] at hc
        obtain ⟨_, hcl, hat⟩ := World.cells?_some hc
        obtain ⟨q, v, hq, hok, hdv⟩ := ev_cells (cs := cs') hs e0 e1 e2 e3 e4 e5 e6 eg hcg hone (by omega) ht'
        refine ⟨(q, v), fun _ => ⟨hok, hdv, fun j u hu => ?_⟩⟩
        rw [← hq] at hu
        have hj : j < 7 := by
          have := (List.getElem?_eq_some_iff.1 hu).1
          omega
        have aj := hat j hj
        rw [hu] at aj
        rw [← Go.Deep.add_add]
        exact aj
      · exact ⟨(⟨0, 0, 0, 0, 0, 0, []⟩, undef), fun h => absurd h him⟩
    obtain ⟨f, hf⟩ := Classical.axiomOfChoice one
    refine ⟨(List.range len).map (fun i => (f i).1), by simp, ⟨some x, m, by simp, by simpa using hl, hm, fun e => (by cases e), ?_⟩, ?_⟩
    rotate_left
    · intro q hq
      simp at hq
      obtain ⟨i, hi, rfl⟩ := hq
      exact (hf i (by omega)).1
    · intro i hi
      have hil : i < len := by simpa using hi
      obtain ⟨_, hdv, h0⟩ := hf i (by omega)
      have h00 := (hf 0 (by omega)).2.2 0 _ rfl
      have hx2 : x = ⟨x.block, x.off, none⟩ := spot_none (v := .int .i64 (f 0).1.k) (by simpa [Addr.add] using h00)
      refine ⟨x.block, x.off, (f i).2, by rw [← hx2], fun j u hu => ?_, by simpa using hdv⟩
      have hu2 : (evV (f i).1 (f i).2)[j]? = some u := by simpa using hu
      have := h0 j u hu2
      rw [hx2] at this
      by_cases hz : i * 7 + j = 0
      · rw [hz] at this ⊢; simpa [Addr.add] using this
      · simpa only [Addr.add, hz, if_false] using this
end
end Go.Proofs.Ytkbbneknblnbnaa

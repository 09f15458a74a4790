/- Arguments as the row hands them in, opened: a slice of accesses; an array of three integers. -/
import Derived.Test.YtoaifbengichbaaOpen2
import Derived.Test.YtoaifbengichbaaOr1
namespace Go.Proofs.Ytoaifbengichbaa
open Go.Joins Go.ChangeShapes Go.WideShapes Go.ChangeAt Go.RowKit Go.Deep
set_option linter.unusedVariables false
/-- all its numbers fit -/
def AccWf (d : Acc) : Prop := (Lit.int .i64 d.t).wf = true ∧ (Lit.int .i64 d.k).wf = true ∧ (Lit.int .i64 d.c).wf = true ∧ (Lit.int .u64 d.o).wf = true ∧ (Lit.int .u64 d.n).wf = true
def IsAccs (w : World) (a : Option Addr) (len cap : Nat) (ls : List Acc) : Prop :=
  ls.length = len ∧ AccV w (.slice a len cap) ls ∧ ∀ d ∈ ls, AccWf d
section
variable {H : Type} {enc : TypeId × Value → H} {P : Program} {W : World} {held : Bool}
theorem acc_cells {t : TypeId} {f0 f1 f2 f3 f4 : Field} {cs : List Value} {fuel : Nat} {d : DataW H × List MemPlace} {base : Nat} {sp : Nat → Bool} (ht : P.underlying t = some (.struct #[f0, f1, f2, f3, f4]))
    (e0 : P.underlying f0.type = some (.int .i64)) (e1 : P.underlying f1.type = some (.int .i64)) (e2 : P.underlying f2.type = some (.int .i64)) (e3 : P.underlying f3.type = some (.int .u64)) (e4 : P.underlying f4.type = some (.int .u64))
    (hone : oneCellFields P #[f0, f1, f2, f3, f4] = true) (hl6 : cs.length = 5) (hf : DataW.trod enc P W base sp held fuel t cs = some d) : ∃ x : Acc, cs = acV x ∧ AccWf x := by
  obtain ⟨xs, n, _, _, hl, hlen, hh⟩ := DataW.trod_struct ht hf
  have g0 := hh 0 f0 rfl
  have g1 := hh 1 f1 rfl
  have g2 := hh 2 f2 rfl
  have g3 := hh 3 f3 rfl
  have g4 := hh 4 f4 rfl
  clear hh hf
  have hlen' : xs.length = 5 := by simpa using hlen
  obtain ⟨o0, k0⟩ := hone_of hone 0 f0 rfl
  obtain ⟨o1, k1⟩ := hone_of hone 1 f1 rfl
  obtain ⟨o2, k2⟩ := hone_of hone 2 f2 rfl
  obtain ⟨o3, k3⟩ := hone_of hone 3 f3 rfl
  obtain ⟨o4, k4⟩ := hone_of hone 4 f4 rfl
  rw [List.getElem?_eq_getElem (by omega)] at g0 g1 g2 g3 g4
  match cs, hl6 with
  | [c0, c1, c2, c3, c4], _ =>
    simp [o0, k0] at g0
    simp [o1, k1] at g1
    simp [o2, k2] at g2
    simp [o3, k3] at g3
    simp [o4, k4] at g4
    obtain ⟨x0, q0, _, w0⟩ := DataW.trod_int e0 g0
    obtain ⟨x1, q1, _, w1⟩ := DataW.trod_int e1 g1
    obtain ⟨x2, q2, _, w2⟩ := DataW.trod_int e2 g2
    obtain ⟨x3, q3, _, w3⟩ := DataW.trod_int e3 g3
    obtain ⟨x4, q4, _, w4⟩ := DataW.trod_int e4 g4
    simp at q0 q1 q2 q3 q4
    subst q0 q1 q2 q3 q4
    exact ⟨⟨x0, x1, x2, x3, x4⟩, rfl, w0, w1, w2, w3, w4⟩
theorem open_accs {t e : TypeId} {f0 f1 f2 f3 f4 : Field} {a : Option Addr} {len cap : Nat} {d : DataW H} {p : List MemPlace} (ht : P.underlying t = some (.slice e)) (hs : P.underlying e = some (.struct #[f0, f1, f2, f3, f4]))
    (e0 : P.underlying f0.type = some (.int .i64)) (e1 : P.underlying f1.type = some (.int .i64)) (e2 : P.underlying f2.type = some (.int .i64)) (e3 : P.underlying f3.type = some (.int .u64)) (e4 : P.underlying f4.type = some (.int .u64))
    (hone : oneCellFields P #[f0, f1, f2, f3, f4] = true) (hC : P.cellsOf e = 5)
    (h : DataW.Trod enc P W 0 (fun _ => true) held t (.slice a len cap) d p) : ∃ ds, IsAccs W a len cap ds := by
  obtain ⟨fuel, hf⟩ := h
  rcases open_slice ht hf with ⟨hcs, _⟩ | ⟨x, l, c, m, n, D, Pl, hcs, _, hl, hm, hmm, _, hi⟩
  · simp [Value.cells] at hcs
    obtain ⟨rfl, rfl, rfl⟩ := hcs
    exact ⟨[], rfl, ⟨none, 0, rfl, Nat.le_refl _, by unfold maxLen; omega, fun i hi => by simp at hi⟩, by simp⟩
  · simp [Value.cells] at hcs
    obtain ⟨rfl, rfl, rfl⟩ := hcs
    simp at hmm
    subst hmm
    have one : ∀ i : Nat, ∃ q : Acc, i < m → AccWf q ∧ ∀ j u, (acV q)[j]? = some u → W.cell? (x.add (i * 5 + j)) = some u := by
      intro i
      by_cases him : i < m
      · obtain ⟨cs', hc, ht'⟩ := hi i him
        rw [hC] at hc
        obtain ⟨_, hcl, hat⟩ := World.cells?_some hc
        obtain ⟨q, hq, hok⟩ := acc_cells (cs := cs') hs e0 e1 e2 e3 e4 hone (by omega) ht'
        refine ⟨q, fun _ => ⟨hok, fun j u hu => ?_⟩⟩
        rw [← hq] at hu
        have hj : j < 5 := by
          have := (List.getElem?_eq_some_iff.1 hu).1
          omega
        have aj := hat j hj
        rw [hu] at aj
        rw [← Go.Deep.add_add]
        exact aj
      · exact ⟨⟨0, 0, 0, 0, 0⟩, fun h => absurd h him⟩
    obtain ⟨f, hf⟩ := Classical.axiomOfChoice one
    refine ⟨(List.range len).map f, by simp, ⟨some x, m, by simp, by simpa using hl, hm, ?_⟩, ?_⟩
    rotate_left
    · intro q hq
      simp at hq
      obtain ⟨i, hi, rfl⟩ := hq
      exact (hf i (by omega)).1
    · intro i hi
      have hil : i < len := by simpa using hi
      have h0 := (hf i (by omega)).2
      have h00 := (hf 0 (by omega)).2 0 _ rfl
      have hx2 : x = ⟨x.block, x.off, none⟩ := spot_none (v := .int .i64 (f 0).t) (by simpa [Addr.add] using h00)
      refine ⟨x.block, x.off, by rw [← hx2], fun j u hu => ?_⟩
      have hu2 : (acV (f i))[j]? = some u := by simpa using hu
      have := h0 j u hu2
      rw [hx2] at this
      by_cases hz : i * 5 + j = 0
      · rw [hz] at this ⊢; simpa [Addr.add] using this
      · simpa only [Addr.add, hz, if_false] using this
/-- An array of three integers, by value. -/
theorem open_arr3 {base : Nat} {sp : Nat → Bool} {r : Reach} {b0 : Nat} {t e : TypeId} {k : IntKind} {v : Value} {d : DataW H} {p : List MemPlace} (ht : P.underlying t = some (.array 3 e)) (he : P.underlying e = some (.int k)) (hct : P.cellsOf t = 3) (hc : P.cellsOf e = 1)
    (hv : Value.okWide P W r b0 t v) (h : DataW.Trod enc P W base sp held t v d p) : ∃ x y z : Int, v = .agg #[.int k x, .int k y, .int k z] ∧ (Lit.int k x).wf = true ∧ (Lit.int k y).wf = true ∧ (Lit.int k z).wf = true := by
  obtain ⟨cs, rfl, hsz⟩ : ∃ cs, v = .agg cs ∧ cs.size = P.cellsOf t := by
    unfold Value.okWide at hv
    rw [ht] at hv
    cases v <;> simp_all
  rw [hct] at hsz
  obtain ⟨l⟩ := cs
  match l, hsz with
  | [c0, c1, c2], _ =>
    obtain ⟨fuel, hf⟩ := h
    obtain ⟨xs, m, _, _, _, hl, hel⟩ := DataW.trod_array ht hf
    match xs, hl with
    | [x0, x1, x2], _ =>
      have h0 := hel 0 (by omega)
      have h1 := hel 1 (by omega)
      have h2 := hel 2 (by omega)
      simp [hc, Value.cells] at h0 h1 h2
      obtain ⟨n0, e0, _, w0⟩ := DataW.trod_int he h0
      obtain ⟨n1, e1, _, w1⟩ := DataW.trod_int he h1
      obtain ⟨n2, e2, _, w2⟩ := DataW.trod_int he h2
      simp at e0 e1 e2
      subst e0 e1 e2
      exact ⟨n0, n1, n2, rfl, w0, w1, w2⟩
end
end Go.Proofs.Ytoaifbengichbaa

/- Arguments as the row hands them in, opened: an access that is asked for, a slice of these. No program in sight. -/
import Derived.Test.YtaimmpcijdpgdabGreatDoorOpenC
import Derived.Test.YtaimmpcijdpgdabGreatDoorBd7
namespace Go.Proofs.YtaimmpcijdpgdabGreatDoor
open Go.Joins Go.ChangeShapes Go.WideShapes Go.ChangeAt Go.RowKit Go.Deep
set_option linter.unusedVariables false
/-- all its numbers fit -/
def DoOk (d : DoR) : Prop := (Lit.int .i64 d.t).wf = true ∧ (Lit.int .i64 d.k).wf = true ∧ (Lit.int .i64 d.c).wf = true ∧ (Lit.int .i64 d.n).wf = true ∧ (Lit.int .u64 d.o).wf = true ∧ (Lit.int .u64 d.z).wf = true
def doV (d : DoR) : List Value := [.int .i64 d.t, .int .i64 d.k, .int .i64 d.c, .int .i64 d.n, .int .u64 d.o, .int .u64 d.z]
def IsDos (w : World) (a : Option Addr) (len cap : Nat) (ds : List DoR) : Prop :=
  ds.length = len ∧ len ≤ cap ∧ cap ≤ maxLen ∧ (∀ d ∈ ds, DoOk d) ∧ (∀ i, (hi : i < ds.length) → ∃ b off, a = some ⟨b, off, none⟩ ∧ ∀ j u, (doV ds[i])[j]? = some u → w.cell? ⟨b, off + (i * 6 + j), none⟩ = some u)
section
variable {H : Type} {enc : TypeId × Value → H} {P : Program} {W : World} {held : Bool}
theorem do_cells {t : TypeId} {f0 f1 f2 f3 f4 f5 : Field} {cs : List Value} {fuel : Nat} {d : DataW H × List MemPlace} {base : Nat} {sp : Nat → Bool} (ht : P.underlying t = some (.struct #[f0, f1, f2, f3, f4, f5]))
    (e0 : P.underlying f0.type = some (.int .i64)) (e1 : P.underlying f1.type = some (.int .i64)) (e2 : P.underlying f2.type = some (.int .i64)) (e3 : P.underlying f3.type = some (.int .i64)) (e4 : P.underlying f4.type = some (.int .u64)) (e5 : P.underlying f5.type = some (.int .u64))
    (hone : oneCellFields P #[f0, f1, f2, f3, f4, f5] = true) (hl6 : cs.length = 6) (hf : DataW.trod enc P W base sp held fuel t cs = some d) : ∃ x : DoR, cs = doV x ∧ DoOk x := by
  obtain ⟨xs, n, _, _, hl, hlen, hh⟩ := DataW.trod_struct ht hf
  have g0 := hh 0 f0 rfl
  have g1 := hh 1 f1 rfl
  have g2 := hh 2 f2 rfl
  have g3 := hh 3 f3 rfl
  have g4 := hh 4 f4 rfl
  have g5 := hh 5 f5 rfl
  clear hh hf
  have hlen' : xs.length = 6 := by simpa using hlen
  obtain ⟨o0, k0⟩ := hone_of hone 0 f0 rfl
  obtain ⟨o1, k1⟩ := hone_of hone 1 f1 rfl
  obtain ⟨o2, k2⟩ := hone_of hone 2 f2 rfl
  obtain ⟨o3, k3⟩ := hone_of hone 3 f3 rfl
  obtain ⟨o4, k4⟩ := hone_of hone 4 f4 rfl
  obtain ⟨o5, k5⟩ := hone_of hone 5 f5 rfl
  rw [List.getElem?_eq_getElem (by omega)] at g0 g1 g2 g3 g4 g5
  match cs, hl6 with
  | [c0, c1, c2, c3, c4, c5], _ =>
    simp [o0, k0] at g0
    simp [o1, k1] at g1
    simp [o2, k2] at g2
    simp [o3, k3] at g3
    simp [o4, k4] at g4
    simp [o5, k5] at g5
    obtain ⟨x0, q0, _, w0⟩ := DataW.trod_int e0 g0
    obtain ⟨x1, q1, _, w1⟩ := DataW.trod_int e1 g1
    obtain ⟨x2, q2, _, w2⟩ := DataW.trod_int e2 g2
    obtain ⟨x3, q3, _, w3⟩ := DataW.trod_int e3 g3
    obtain ⟨x4, q4, _, w4⟩ := DataW.trod_int e4 g4
    obtain ⟨x5, q5, _, w5⟩ := DataW.trod_int e5 g5
    simp at q0 q1 q2 q3 q4 q5
    subst q0 q1 q2 q3 q4 q5
    exact ⟨⟨x0, x1, x2, x3, x4, x5⟩, rfl, w0, w1, w2, w3, w4, w5⟩
/-- one, by value -/
theorem open_do {r : Reach} {b0 : Nat} {t : TypeId} {f0 f1 f2 f3 f4 f5 : Field} {v : Value} {d : DataW H} {p : List MemPlace} (ht : P.underlying t = some (.struct #[f0, f1, f2, f3, f4, f5]))
    (e0 : P.underlying f0.type = some (.int .i64)) (e1 : P.underlying f1.type = some (.int .i64)) (e2 : P.underlying f2.type = some (.int .i64)) (e3 : P.underlying f3.type = some (.int .i64)) (e4 : P.underlying f4.type = some (.int .u64)) (e5 : P.underlying f5.type = some (.int .u64))
    (hone : oneCellFields P #[f0, f1, f2, f3, f4, f5] = true) (hC : P.cellsOf t = 6)
    (hv : Value.okWide P W r b0 t v) (h : DataW.Trod enc P W 0 (fun _ => true) held t v d p) : ∃ x : DoR, v = .agg #[.int .i64 x.t, .int .i64 x.k, .int .i64 x.c, .int .i64 x.n, .int .u64 x.o, .int .u64 x.z] ∧ DoOk x := by
  obtain ⟨cs, rfl, hsz⟩ := okWide_struct ht hv
  obtain ⟨fuel, hf⟩ := h
  obtain ⟨x, hx, hok⟩ := do_cells (cs := cs.toList) ht e0 e1 e2 e3 e4 e5 hone (by simpa using hsz.trans hC) (by simpa [Value.cells] using hf)
  refine ⟨x, ?_, hok⟩
  have : cs = (doV x).toArray := by rw [← hx]
  rw [this]
  rfl
theorem open_dos {t e : TypeId} {f0 f1 f2 f3 f4 f5 : Field} {a : Option Addr} {len cap : Nat} {d : DataW H} {p : List MemPlace} (ht : P.underlying t = some (.slice e)) (hs : P.underlying e = some (.struct #[f0, f1, f2, f3, f4, f5]))
    (e0 : P.underlying f0.type = some (.int .i64)) (e1 : P.underlying f1.type = some (.int .i64)) (e2 : P.underlying f2.type = some (.int .i64)) (e3 : P.underlying f3.type = some (.int .i64)) (e4 : P.underlying f4.type = some (.int .u64)) (e5 : P.underlying f5.type = some (.int .u64))
    (hone : oneCellFields P #[f0, f1, f2, f3, f4, f5] = true) (hC : P.cellsOf e = 6)
    (h : DataW.Trod enc P W 0 (fun _ => true) held t (.slice a len cap) d p) : ∃ ds, IsDos W a len cap ds := by
  obtain ⟨fuel, hf⟩ := h
  rcases open_slice ht hf with ⟨hcs, _⟩ | ⟨x, l, c, m, n, D, Pl, hcs, _, hl, hm, hmm, _, hi⟩
  · simp [Value.cells] at hcs
    obtain ⟨rfl, rfl, rfl⟩ := hcs
    exact ⟨[], rfl, Nat.le_refl _, by unfold maxLen; omega, by simp, fun i hi => by simp at hi⟩
  · simp [Value.cells] at hcs
    obtain ⟨rfl, rfl, rfl⟩ := hcs
    simp at hmm
    subst hmm
    have one : ∀ i : Nat, ∃ q : DoR, i < m → DoOk q ∧ ∀ j u, (doV q)[j]? = some u → W.cell? (x.add (i * 6 + j)) = some u := by
      intro i
      by_cases him : i < m
      · obtain ⟨cs', hc, ht'⟩ := hi i him
        rw [hC] at hc
        obtain ⟨_, hcl, hat⟩ := World.cells?_some hc
        obtain ⟨q, hq, hok⟩ := do_cells (cs := cs') hs e0 e1 e2 e3 e4 e5 hone (by omega) ht'
        refine ⟨q, fun _ => ⟨hok, fun j u hu => ?_⟩⟩
        rw [← hq] at hu
        have hj : j < 6 := by
          have := (List.getElem?_eq_some_iff.1 hu).1
          omega
        have aj := hat j hj
        rw [hu] at aj
        rw [← Go.Deep.add_add]
        exact aj
      · exact ⟨⟨0, 0, 0, 0, 0, 0⟩, fun h => absurd h him⟩
    obtain ⟨f, hf⟩ := Classical.axiomOfChoice one
    refine ⟨(List.range len).map f, by simp, hl, hm, ?_, ?_⟩
    · intro q hq
      simp at hq
      obtain ⟨i, hi, rfl⟩ := hq
      exact (hf i (by omega)).1
    · intro i hi
      have hil : i < len := by simpa using hi
      have h0 := (hf i (by omega)).2
      have h00 := (hf 0 (by omega)).2 0 _ rfl
      have hx2 : x = ⟨x.block, x.off, none⟩ := spot_none (v := .int .i64 (f 0).t) (by simpa [Addr.add] using h00)
      refine ⟨x.block, x.off, by rw [← hx2], fun j u hu => ?_⟩
      have hu2 : (doV (f i))[j]? = some u := by simpa using hu
      have := h0 j u hu2
      rw [hx2] at this
      by_cases hz : i * 6 + j = 0
      · rw [hz] at this ⊢; simpa [Addr.add] using this
      · simpa only [Addr.add, hz, if_false] using this
end
end Go.Proofs.YtaimmpcijdpgdabGreatDoor

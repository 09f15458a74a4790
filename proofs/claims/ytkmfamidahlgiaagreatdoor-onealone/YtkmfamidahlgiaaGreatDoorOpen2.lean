/- Arguments as the row hands them in, opened: structs of two integers, slices of these. No program in sight. -/
import Derived.Test.YtkmfamidahlgiaaGreatDoorOpen
import Derived.Lib.SmallJoins
import Derived.Deep.Slices
import Derived.Deep.Fields
import Derived.ChangeSame
namespace Go.Proofs.YtkmfamidahlgiaaGreatDoor
open Go.Joins Go.ChangeShapes Go.WideShapes Go.ChangeAt Go.RowKit Go.Deep
section
variable {H : Type} {enc : TypeId × Value → H} {P : Program} {W : World} {base : Nat} {sp : Nat → Bool} {held : Bool}
/-- A struct of two integers, by value. -/
theorem open_two {r : Reach} {b0 : Nat} {t : TypeId} {f0 f1 : Field} {k : IntKind} {v : Value} {d : DataW H} {p : List MemPlace} (hs : P.underlying t = some (.struct #[f0, f1])) (he0 : P.underlying f0.type = some (.int k)) (he1 : P.underlying f1.type = some (.int k))
    (hone : oneCellFields P #[f0, f1] = true) (hC : P.cellsOf t = 2)
    (hv : Value.okWide P W r b0 t v) (h : DataW.Trod enc P W base sp held t v d p) : ∃ x y : Int, v = .agg #[.int k x, .int k y] ∧ (Lit.int k x).wf = true ∧ (Lit.int k y).wf = true := by
  obtain ⟨v0, v1, y0, y1, n, rfl, _, _, h0, h1⟩ := open_agg2 hs hone hC hv h
  obtain ⟨n0, e0, _, w0⟩ := DataW.trod_int he0 h0
  obtain ⟨n1, e1, _, w1⟩ := DataW.trod_int he1 h1
  simp at e0 e1
  subst e0 e1
  exact ⟨n0, n1, rfl, w0, w1⟩
theorem spot_none {w : World} {x : Addr} {v : Value} (h : w.cell? x = some v) : x = ⟨x.block, x.off, none⟩ := by
  obtain ⟨b, o, s⟩ := x
  cases s with
  | none => rfl
  | some s =>
    simp only [World.cell?] at h
    split at h <;> simp at h
/-- A slice of structs of two integers that came in: without elements, or a row; 'zs' are its elements. -/
def IsTwos (k : IntKind) (w : World) (a : Option Addr) (len cap : Nat) (zs : List (Int × Int)) : Prop :=
  zs.length = len ∧ len ≤ cap ∧ cap ≤ maxLen ∧ (∀ p ∈ zs, (Lit.int k p.1).wf = true ∧ (Lit.int k p.2).wf = true) ∧
  (zs = [] ∨ ∃ b off, a = some ⟨b, off, none⟩ ∧ ∀ i, i < zs.length → w.cell? ⟨b, off + i * 2, none⟩ = some (.int k (zs.getD i (0, 0)).1) ∧ w.cell? ⟨b, off + i * 2 + 1, none⟩ = some (.int k (zs.getD i (0, 0)).2))
theorem open_twos {t e : TypeId} {f0 f1 : Field} {k : IntKind} {a : Option Addr} {len cap : Nat} {d : DataW H} {p : List MemPlace} (ht : P.underlying t = some (.slice e)) (hs : P.underlying e = some (.struct #[f0, f1])) (he0 : P.underlying f0.type = some (.int k)) (he1 : P.underlying f1.type = some (.int k))
    (hone : oneCellFields P #[f0, f1] = true) (hC : P.cellsOf e = 2)
    (h : DataW.Trod enc P W 0 (fun _ => true) held t (.slice a len cap) d p) : ∃ zs, IsTwos k W a len cap zs := by
  obtain ⟨fuel, hf⟩ := h
  rcases open_slice ht hf with ⟨hcs, _⟩ | ⟨x, l, c, m, n, D, Pl, hcs, _, hl, hm, hmm, _, hi⟩
  · simp [Value.cells] at hcs
    obtain ⟨rfl, rfl, rfl⟩ := hcs
    exact ⟨[], rfl, Nat.le_refl _, by unfold maxLen; omega, by simp, .inl rfl⟩
  · simp [Value.cells] at hcs
    obtain ⟨rfl, rfl, rfl⟩ := hcs
    simp at hmm
    subst hmm
    have one : ∀ i : Nat, ∃ q : Int × Int, i < m → W.cell? (x.add (i * 2)) = some (.int k q.1) ∧ W.cell? (x.add (i * 2 + 1)) = some (.int k q.2) ∧ (Lit.int k q.1).wf = true ∧ (Lit.int k q.2).wf = true := by
      intro i
      by_cases him : i < m
      · obtain ⟨cs', hc, ht'⟩ := hi i him
        rw [hC] at hc
        obtain ⟨_, hcl, hat⟩ := World.cells?_some hc
        match cs', hcl with
        | [c0, c1], _ =>
          obtain ⟨y0, y1, n', _, _, h0, h1⟩ := trod_struct2 hs ht'
          obtain ⟨o0, k0⟩ := hone_of hone 0 f0 rfl
          obtain ⟨o1, k1⟩ := hone_of hone 1 f1 rfl
          simp [o0, k0] at h0
          simp [o1, k1] at h1
          obtain ⟨n0, e0, _, w0⟩ := DataW.trod_int he0 h0
          obtain ⟨n1, e1, _, w1⟩ := DataW.trod_int he1 h1
          simp at e0 e1
          subst e0 e1
          have a0 := hat 0 (by omega)
          have a1 := hat 1 (by omega)
          refine ⟨(n0, n1), fun _ => ⟨?_, ?_, w0, w1⟩⟩
          · simpa [Addr.add] using a0
          · rw [← Go.Deep.add_add]; simpa using a1
      · exact ⟨(0, 0), fun h => absurd h him⟩
    obtain ⟨f, hf⟩ := Classical.axiomOfChoice one
    have hget : ∀ i, i < len → ((List.range len).map f).getD i (0, 0) = f i := by
      intro i hi
      simp [hi]
    refine ⟨(List.range len).map f, by simp, hl, hm, ?_, ?_⟩
    · intro q hq
      simp at hq
      obtain ⟨i, hi, rfl⟩ := hq
      exact (hf i (by omega)).2.2
    · by_cases h0 : len = 0
      · subst h0; exact .inl rfl
      · right
        have hx := spot_none ((hf 0 (by omega)).1)
        simp [Addr.add] at hx
        refine ⟨x.block, x.off, by rw [← hx], fun i hi => ?_⟩
        simp at hi
        rw [hget i hi]
        have h1 := hf i (by omega)
        rw [hx] at h1
        refine ⟨?_, ?_⟩
        · have := h1.1
          by_cases hi0 : i = 0
          · subst hi0; simpa [Addr.add] using this
          · have hi2 : ¬ i * 2 = 0 := by omega
            simpa only [Addr.add, hi2, if_false] using this
        · have := h1.2.1; simpa [Addr.add, Nat.add_assoc] using this
end
end Go.Proofs.YtkmfamidahlgiaaGreatDoor

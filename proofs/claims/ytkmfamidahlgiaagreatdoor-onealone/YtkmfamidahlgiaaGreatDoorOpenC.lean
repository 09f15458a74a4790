/- A configuration as the row hands it in, opened: four integers, a word, a slice of slices of integers. No program in sight. -/
import Derived.Test.YtkmfamidahlgiaaGreatDoorLists
namespace Go.Proofs.YtkmfamidahlgiaaGreatDoor
open Go.Joins Go.ChangeShapes Go.WideShapes Go.ChangeAt Go.RowKit Go.Deep
set_option linter.unusedVariables false
theorem array6 {α : Type} {cs : Array α} (h : cs.size = 6) : ∃ c0 c1 c2 c3 c4 c5, cs = #[c0, c1, c2, c3, c4, c5] := by
  obtain ⟨l⟩ := cs
  match l, h with
  | [c0, c1, c2, c3, c4, c5], _ => exact ⟨c0, c1, c2, c3, c4, c5, rfl⟩
/-- lists that came in -/
structure Came (w : World) (a : Option Addr) (len cap : Nat) (ups : List (List Int)) : Prop where
  l : ListsV w (.slice a len cap) ups
  n : ups.length = len
  m : len ≤ maxLen
  each : ∀ l ∈ ups, l.length ≤ maxLen ∧ ∀ i ∈ l, (Lit.int .i64 i).wf = true
section
variable {H : Type} {enc : TypeId × Value → H} {P : Program} {W : World} {held : Bool}
theorem open_came {t s e : TypeId} {a : Option Addr} {len cap : Nat} {d : DataW H} {p : List MemPlace} (ht : P.underlying t = some (.slice s)) (hs : P.underlying s = some (.slice e)) (he : P.underlying e = some (.int .i64)) (hcs : P.cellsOf s = 1) (hce : P.cellsOf e = 1)
    (h : DataW.Trod enc P W 0 (fun _ => true) held t (.slice a len cap) d p) : ∃ ups, Came W a len cap ups := by
  obtain ⟨ups, h1, h2, h3, h4⟩ := open_lists ht hs he hcs hce h
  exact ⟨ups, h1, h2, h3, h4⟩
theorem open_conf {r : Reach} {b0 : Nat} {t : TypeId} {s e : TypeId} {f0 f1 f2 f3 f4 f5 : Field} {v : Value} {d : DataW H} {p : List MemPlace} (ht : P.underlying t = some (.struct #[f0, f1, f2, f3, f4, f5]))
    (e0 : P.underlying f0.type = some (.int .i64)) (e1 : P.underlying f1.type = some (.int .i64)) (e2 : P.underlying f2.type = some (.int .i64)) (e3 : P.underlying f3.type = some (.int .i64)) (e4 : P.underlying f4.type = some (.int .u64)) (e5 : P.underlying f5.type = some (.slice s))
    (hs : P.underlying s = some (.slice e)) (he : P.underlying e = some (.int .i64)) (hcs : P.cellsOf s = 1) (hce : P.cellsOf e = 1)
    (hone : oneCellFields P #[f0, f1, f2, f3, f4, f5] = true) (hC : P.cellsOf t = 6)
    (hv : Value.okWide P W r b0 t v) (h : DataW.Trod enc P W 0 (fun _ => true) held t v d p) :
    ∃ (x0 x1 x2 x3 x4 : Int) (a : Option Addr) (len cap : Nat) (ups : List (List Int)), v = .agg #[.int .i64 x0, .int .i64 x1, .int .i64 x2, .int .i64 x3, .int .u64 x4, .slice a len cap] ∧
      ((Lit.int .i64 x0).wf = true ∧ (Lit.int .i64 x1).wf = true ∧ (Lit.int .i64 x2).wf = true ∧ (Lit.int .i64 x3).wf = true ∧ (Lit.int .u64 x4).wf = true) ∧ Came W a len cap ups := by
  obtain ⟨cs, rfl, hsz⟩ := okWide_struct ht hv
  obtain ⟨c0, c1, c2, c3, c4, c5, rfl⟩ := array6 (hsz.trans hC)
  obtain ⟨fuel, hf⟩ := h
  obtain ⟨xs, n, _, _, hl, hlen, hh⟩ := DataW.trod_struct ht hf
  have g0 := hh 0 f0 rfl
  have g1 := hh 1 f1 rfl
  have g2 := hh 2 f2 rfl
  have g3 := hh 3 f3 rfl
  have g4 := hh 4 f4 rfl
  have g5 := hh 5 f5 rfl
  clear hh hf
  have hlen' : xs.length = 6 := by simpa using hlen
  obtain ⟨o0, k0⟩ := hone_of hone 0 f0 rfl
  obtain ⟨o1, k1⟩ := hone_of hone 1 f1 rfl
  obtain ⟨o2, k2⟩ := hone_of hone 2 f2 rfl
  obtain ⟨o3, k3⟩ := hone_of hone 3 f3 rfl
  obtain ⟨o4, k4⟩ := hone_of hone 4 f4 rfl
  obtain ⟨o5, k5⟩ := hone_of hone 5 f5 rfl
  rw [List.getElem?_eq_getElem (by omega)] at g0 g1 g2 g3 g4 g5
  simp [Value.cells, o0, k0] at g0
  simp [Value.cells, o1, k1] at g1
  simp [Value.cells, o2, k2] at g2
  simp [Value.cells, o3, k3] at g3
  simp [Value.cells, o4, k4] at g4
  simp [Value.cells, o5, k5] at g5
  obtain ⟨x0, q0, _, w0⟩ := DataW.trod_int e0 g0
  obtain ⟨x1, q1, _, w1⟩ := DataW.trod_int e1 g1
  obtain ⟨x2, q2, _, w2⟩ := DataW.trod_int e2 g2
  obtain ⟨x3, q3, _, w3⟩ := DataW.trod_int e3 g3
  obtain ⟨x4, q4, _, w4⟩ := DataW.trod_int e4 g4
  simp at q0 q1 q2 q3 q4
  subst q0 q1 q2 q3 q4
  have h5 : ∃ a l c, c5 = .slice a l c := by
    rcases open_slice e5 g5 with ⟨hcs', _⟩ | ⟨x, l, c, m, n', D, Pl, hcs', _⟩
    · simp at hcs'; exact ⟨_, _, _, hcs'⟩
    · simp at hcs'; exact ⟨_, _, _, hcs'⟩
  obtain ⟨a, l, c, rfl⟩ := h5
  generalize xs[5] = y5 at g5
  obtain ⟨ya, yb⟩ := y5
  obtain ⟨ups, hc⟩ := open_came (enc := enc) (a := a) (len := l) (cap := c) (d := _) (p := _) e5 hs he hcs hce ⟨n, by simpa [Value.cells] using g5⟩
  exact ⟨x0, x1, x2, x3, x4, a, l, c, ups, rfl, ⟨w0, w1, w2, w3, w4⟩, hc⟩
end
end Go.Proofs.YtkmfamidahlgiaaGreatDoor

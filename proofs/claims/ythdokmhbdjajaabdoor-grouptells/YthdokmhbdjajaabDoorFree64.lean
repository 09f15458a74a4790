/- A long row in the middle of a region with new variables. -/
import Derived.Test.YthdokmhbdjajaabDoorLawMakes5
import Derived.Test.YthdokmhbdjajaabDoorFree
namespace Go.Proofs.YthdokmhbdjajaabDoor
open Go.RowKit
set_option linter.unusedVariables false
set_option maxHeartbeats 1000000
theorem heap_setCell {w : World} {b o T : Nat} {C : Array Value} {v : Value} (h : w.heap[b]? = some (.cells C T)) : (w.setCell ⟨b, o, none⟩ v).heap[b]? = some (.cells (C.setIfInBounds o v) T) := by
  simp [World.setCell, Array.getElem?_modify, h]
theorem heap_setCells (b T : Nat) : ∀ (vs : List Value) (o : Nat) (w : World) (C : Array Value), w.heap[b]? = some (.cells C T) → o + vs.length ≤ C.size →
    ∃ C' : Array Value, (w.setCells b o vs).heap[b]? = some (.cells C' T) ∧ C'.size = C.size ∧ (∀ j, j < o → C'[j]? = C[j]?) ∧ ∀ j, j < vs.length → C'[o + j]? = vs[j]?
  | [], o, w, C, h, hs => ⟨C, h, rfl, fun _ _ => rfl, fun j hj => by cases hj⟩
  | v :: r, o, w, C, h, hs => by
    simp only [List.length_cons] at hs
    obtain ⟨C', h1, h2, h3, h4⟩ := heap_setCells b T r (o + 1) (w.setCell ⟨b, o, none⟩ v) (C.setIfInBounds o v) (heap_setCell h) (by simp; omega)
    refine ⟨C', h1, by simpa using h2, fun j hj => ?_, fun j hj => ?_⟩
    · rw [h3 j (by omega), Array.getElem?_setIfInBounds_ne (by omega)]
    · cases j with
      | zero => rw [Nat.add_zero, h3 o (by omega)]; simp [show o < C.size by omega]
      | succ j =>
        have := h4 j (by simp at hj; omega)
        rw [show o + 1 + j = o + (j + 1) by omega] at this
        simpa using this
theorem but_setCells (b : Nat) : ∀ (vs : List Value) (o : Nat) (w : World), But (· = b) w (w.setCells b o vs)
  | [], _, w => But.refl _ w
  | v :: r, o, w => (but_setCell w ⟨b, o, none⟩ v).trans (but_setCells b r (o + 1) _)
theorem heap_fill {w : World} {b T : Nat} {C : Array Value} {cs : List Value} (h : w.heap[b]? = some (.cells C T)) (hs : C.size = cs.length) : (w.setCells b 0 cs).heap[b]? = some (.cells cs.toArray T) := by
  obtain ⟨C', h1, h2, _, h4⟩ := heap_setCells b T cs 0 w C h (by omega)
  rw [h1]
  congr 2
  apply Array.ext
  · simp; omega
  · intro j h5 h6
    have := h4 j (by simpa using h6)
    rw [Nat.zero_add, Array.getElem?_eq_getElem h5, List.getElem?_eq_getElem (by simpa using h6)] at this
    simpa using this
theorem ba_of_heap {w : World} {b T : Nat} {f : Nat → Bool} (h : w.heap[b]? = some (.cells (bl f).toArray T)) : BA w b f := by
  refine ⟨fun i hi => ?_, fun i hi => ?_⟩
  · simp only [World.cell?, h]
    simp [bl_get f i hi]
  · simp only [World.frozen?, h]
    simp
/-- 64 truths go into a new block -/
theorem store64 {op : Oper} {ρ : Operand → Value} {p q : Operand} {b : Nat} {f : Nat → Bool} (ho : op.op = .store 30 p q) (hp : ρ p = .pointer (some ⟨b, 0, none⟩)) (hq : ρ q = .agg (bl f).toArray) {w : World} (h : w.heap[b]? = some (.cells #[.bool false, .bool false, .bool false, .bool false, .bool false, .bool false, .bool false, .bool false, .bool false, .bool false, .bool false, .bool false, .bool false, .bool false, .bool false, .bool false, .bool false, .bool false, .bool false, .bool false, .bool false, .bool false, .bool false, .bool false, .bool false, .bool false, .bool false, .bool false, .bool false, .bool false, .bool false, .bool false, .bool false, .bool false, .bool false, .bool false, .bool false, .bool false, .bool false, .bool false, .bool false, .bool false, .bool false, .bool false, .bool false, .bool false, .bool false, .bool false, .bool false, .bool false, .bool false, .bool false, .bool false, .bool false, .bool false, .bool false, .bool false, .bool false, .bool false, .bool false, .bool false, .bool false, .bool false, .bool false] 30)) :
    ∃ r w', (execOp ρ op).run Tryd.prog w = .ok r w' ∧ (r = .skip ∨ ∃ u, r = .value u) ∧ w'.heap[b]? = some (.cells (bl f).toArray 30) ∧ But (· = b) w w' := by
  have B : BA w b (fun _ => false) := ba_of_heap (T := 30) h
  have hr := run_storeAt_mid (P := Tryd.prog) w b 0 30 (bl f).toArray (B.there (by simp [bl_len])) (by rw [show (bl f).toArray.size = 64 by simp [bl_len]]; exact S5_size) (bl_one f)
  refine ⟨.skip, w.setCells b 0 (bl f), ?_, .inl rfl, heap_fill h (by rw [bl_len]; rfl), but_setCells b _ _ _⟩
  unfold execOp
  simp only [ho, hp, hq, Sem.run_bind, hr, Result.andThen_ok]
  simp
end Go.Proofs.YthdokmhbdjajaabDoor

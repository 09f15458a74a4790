/- Rows of 64 truths in memory. No program in sight. -/
import Derived.Test.YthdokmhbdjajaabDoorExt
import Derived.Deep.MidRow
import Derived.RangeFuncRecord
namespace Go.Proofs.YthdokmhbdjajaabDoor
open Go.RowKit
set_option linter.unusedVariables false
/-- 64 truths -/
def bl (f : Nat → Bool) : List Value := (List.range 64).map fun i => .bool (f i)
theorem bl_len (f : Nat → Bool) : (bl f).length = 64 := by simp [bl]
theorem bl_get (f : Nat → Bool) (i : Nat) (h : i < 64) : (bl f)[i]? = some (.bool (f i)) := by simp [bl, h]
theorem bl_congr {f g : Nat → Bool} (h : ∀ i, i < 64 → f i = g i) : bl f = bl g := by
  unfold bl
  apply List.map_congr_left
  intro i hi
  rw [h i (by simpa using hi)]
theorem bl_one (f : Nat → Bool) : (bl f).toArray.all (·.oneCell') = true := all_oneCell_toArray (by
  intro v hv
  simp only [bl, List.mem_map] at hv
  obtain ⟨i, _, rfl⟩ := hv
  rfl)
/-- block b is 64 truths, and may be written -/
structure BA (w : World) (b : Nat) (f : Nat → Bool) : Prop where
  c : ∀ i, i < 64 → w.cell? ⟨b, i, none⟩ = some (.bool (f i))
  z : ∀ i, i < 64 → w.frozen? ⟨b, i, none⟩ = false
theorem BA.ext {w w' : World} {b : Nat} {f : Nat → Bool} (h : BA w b f) (hx : Ext w w') : BA w' b f := ⟨fun i hi => hx.cell (h.c i hi), fun i hi => hx.frozen (h.c i hi) (h.z i hi)⟩
theorem BA.congr {w : World} {b : Nat} {f g : Nat → Bool} (h : BA w b f) (e : ∀ i, i < 64 → f i = g i) : BA w b g := ⟨fun i hi => by rw [← e i hi]; exact h.c i hi, h.z⟩
theorem BA.there {w : World} {b : Nat} {f : Nat → Bool} (h : BA w b f) {n : Nat} (hn : n = 64) : w.there b 0 n := fun j hj => by
  subst hn
  rw [Nat.zero_add]
  exact ⟨by rw [h.c j hj]; rfl, h.z j hj⟩
theorem BA.range {w : World} {b : Nat} {f : Nat → Bool} (h : BA w b f) : w.rangeAt b 0 (bl f) := fun j v hv => by
  have hj : j < 64 := by
    have := (List.getElem?_eq_some_iff.1 hv).1
    rwa [bl_len] at this
  rw [bl_get f j hj] at hv
  cases hv
  rw [Nat.zero_add]
  exact h.c j hj
theorem BA.lt {w : World} {b : Nat} {f : Nat → Bool} (h : BA w b f) : b < w.heap.size := World.block_lt_of_cell? w ⟨b, 0, none⟩ (h.c 0 (by decide))
theorem ba_new (w : World) (T : Nat) (C : Array Value) (f : Nat → Bool) (h : C = (bl f).toArray) : BA (w.alloc (.cells C T)) w.heap.size f := by
  have hh : (w.alloc (.cells C T)).heap[w.heap.size]? = some (.cells C T) := World.alloc_heap_new w _
  refine ⟨fun i hi => ?_, fun i hi => ?_⟩
  · simp only [World.cell?, hh]
    simp [h, bl_get f i hi]
  · simp only [World.frozen?, hh]
    simp
theorem ba_setCells {w : World} {b : Nat} {f : Nat → Bool} (h : BA w b f) (g : Nat → Bool) (cs : List Value) (hc : cs = bl g) : BA (w.setCells b 0 cs) b g := by
  subst hc
  refine ⟨fun i hi => ?_, fun i hi => ?_⟩
  · have := World.rangeAt_setCells_same w b 0 (bl g) (h.there (bl_len g)) i _ (bl_get g i hi)
    rwa [Nat.zero_add] at this
  · rw [World.frozen?_setCells]; exact h.z i hi
theorem ba_setCells_off {w : World} {b b' : Nat} {f : Nat → Bool} (h : BA w b f) (hne : b ≠ b') (cs : List Value) : BA (w.setCells b' 0 cs) b f := by
  refine ⟨fun i hi => ?_, fun i hi => ?_⟩
  · rw [World.cell?_setCells_out b' cs 0 w ⟨b, i, none⟩ (fun e _ => absurd e hne)]; exact h.c i hi
  · rw [World.frozen?_setCells]; exact h.z i hi
theorem ext_setCells {a : World} (b : Nat) (hb : a.heap.size ≤ b) : ∀ (cs : List Value) (o : Nat) (w : World), Ext a w → Ext a (w.setCells b o cs)
  | [], _, _, h => h
  | v :: r, o, w, h => ext_setCells b hb r (o + 1) _ (h.setCell hb v)
theorem ba_set {w : World} {b i : Nat} {f : Nat → Bool} (h : BA w b f) (v : Bool) (hi : i < 64) : BA (w.setCell ⟨b, i, none⟩ (.bool v)) b (fun j => if j = i then v else f j) := by
  refine ⟨fun j hj => ?_, fun j hj => ?_⟩
  · by_cases e : j = i
    · subst e
      rw [if_pos rfl]
      exact World.cell?_setCell_same _ _ _ (h.c j hj)
    · rw [if_neg e, World.cell?_setCell_other _ _ _ _ (by intro e'; cases e'; exact e rfl)]
      exact h.c j hj
  · rw [World.frozen?_setCell]; exact h.z j hj
theorem ba_set_off {w : World} {b b' i : Nat} {f : Nat → Bool} (h : BA w b f) (hne : b ≠ b') (v : Value) : BA (w.setCell ⟨b', i, none⟩ v) b f := by
  refine ⟨fun j hj => ?_, fun j hj => ?_⟩
  · rw [World.cell?_setCell_other _ _ _ _ (by intro e'; cases e'; exact hne rfl)]
    exact h.c j hj
  · rw [World.frozen?_setCell]; exact h.z j hj
end Go.Proofs.YthdokmhbdjajaabDoor

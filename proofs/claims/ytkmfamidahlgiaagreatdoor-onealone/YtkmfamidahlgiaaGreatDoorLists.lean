/- Slices of slices of numbers, as they are read; opened as the row hands them in. Blocks of the call's own with any one-cell values. No program in sight. -/
import Derived.Test.YtkmfamidahlgiaaGreatDoorInts
import Derived.Test.YtkmfamidahlgiaaGreatDoorOpen2
import Derived.Deep.MidRow
import Derived.RangeFuncRecord
namespace Go.Proofs.YtkmfamidahlgiaaGreatDoor
open Go.Joins Go.ChangeShapes Go.WideShapes Go.ChangeAt Go.RowKit Go.Deep
set_option linter.unusedVariables false
theorem IntsV.form {w : World} {v : Value} {xs : List Int} (h : IntsV w v xs) : ∃ a cap, v = .slice a xs.length cap ∧ ∀ j, j < xs.length → ∃ b off, a = some ⟨b, off, none⟩ ∧ w.cell? ⟨b, off + j, none⟩ = some (.int .i64 (xs.getD j 0)) := by
  rcases h with ⟨a, cap, hv, hx⟩ | ⟨b, off, cap, hv, hc⟩
  · subst hx; exact ⟨a, cap, hv, fun j hj => by simp at hj⟩
  · exact ⟨_, cap, hv, fun j hj => ⟨b, off, rfl, hc j hj⟩⟩
/-- as long as its room, at most -/
def capOk : Value → Prop
  | .slice _ l c => l ≤ c
  | _ => True
/-- a slice of slices reads as these lists -/
def ListsV (w : World) (v : Value) (ups : List (List Int)) : Prop :=
  ∃ a cap, v = .slice a ups.length cap ∧ ∀ j, j < ups.length → ∃ b off u, a = some ⟨b, off, none⟩ ∧ w.cell? ⟨b, off + j, none⟩ = some u ∧ IntsV w u (ups.getD j []) ∧ capOk u
theorem ListsV.ext {w w' : World} {v : Value} {ups : List (List Int)} (h : ListsV w v ups) (hx : Ext w w') : ListsV w' v ups := by
  obtain ⟨a, cap, hv, hc⟩ := h
  refine ⟨a, cap, hv, fun j hj => ?_⟩
  obtain ⟨b, off, u, h1, h2, h3, h4⟩ := hc j hj
  exact ⟨b, off, u, h1, hx.cell h2, h3.ext hx, h4⟩
theorem ListsV.capAt {w : World} {a : Option Addr} {n cap : Nat} {ups : List (List Int)} (h : ListsV w (.slice a n cap) ups) {w' : World} (hx : Ext w w') {c : Nat} (hc : c < ups.length) :
    ∃ b off u cu, a = some ⟨b, off, none⟩ ∧ w'.cell? ⟨b, off + c, none⟩ = some (.slice u (ups.getD c []).length cu) ∧ IntsV w' (.slice u (ups.getD c []).length cu) (ups.getD c []) ∧ (ups.getD c []).length ≤ cu := by
  obtain ⟨a', cap', hv, hh⟩ := h
  cases hv
  obtain ⟨b, off, v, h1, h2, h3, h4⟩ := hh c hc
  obtain ⟨u, cu, rfl, _⟩ := h3.form
  exact ⟨b, off, u, cu, h1, hx.cell h2, h3.ext hx, h4⟩
theorem ListsV.at {w : World} {a : Option Addr} {n cap : Nat} {ups : List (List Int)} (h : ListsV w (.slice a n cap) ups) {w' : World} (hx : Ext w w') {c : Nat} (hc : c < ups.length) :
    ∃ b off u cu, a = some ⟨b, off, none⟩ ∧ w'.cell? ⟨b, off + c, none⟩ = some (.slice u (ups.getD c []).length cu) ∧ IntsV w' (.slice u (ups.getD c []).length cu) (ups.getD c []) := by
  obtain ⟨b, off, u, cu, h1, h2, h3, _⟩ := h.capAt hx hc
  exact ⟨b, off, u, cu, h1, h2, h3⟩
/-- the front of a slice -/
theorem intsV_front {w : World} {b o m cu k : Nat} {xs : List Int} (h : IntsV w (.slice (some ⟨b, o, none⟩) m cu) xs) (hk : k < xs.length) (k' : Nat) (hk' : k' ≤ xs.length) : IntsV w (.slice (some ⟨b, o, none⟩) k' cu) (xs.take k') := by
  obtain ⟨a, cap, e, hf⟩ := h.form
  cases e
  have hl : (xs.take k').length = k' := by rw [List.length_take]; omega
  refine .inr ⟨b, o, cu, by rw [hl], fun j hj => ?_⟩
  rw [hl] at hj
  obtain ⟨b', o', e, hc⟩ := hf j (by omega)
  cases e
  rw [hc, show (xs.take k').getD j 0 = xs.getD j 0 by simp [hj]]
section
variable {H : Type} {enc : TypeId × Value → H} {P : Program} {W : World} {base : Nat} {sp : Nat → Bool} {held : Bool}
theorem open_lists {t s e : TypeId} {a : Option Addr} {len cap : Nat} {d : DataW H} {p : List MemPlace} (ht : P.underlying t = some (.slice s)) (hs : P.underlying s = some (.slice e)) (he : P.underlying e = some (.int .i64)) (hcs : P.cellsOf s = 1) (hce : P.cellsOf e = 1)
    (h : DataW.Trod enc P W 0 (fun _ => true) held t (.slice a len cap) d p) : ∃ ups, ListsV W (.slice a len cap) ups ∧ ups.length = len ∧ len ≤ maxLen ∧ ∀ l ∈ ups, l.length ≤ maxLen ∧ ∀ i ∈ l, (Lit.int .i64 i).wf = true := by
  obtain ⟨fuel, hf⟩ := h
  rcases open_slice ht hf with ⟨hcs', _⟩ | ⟨x, l, c, m, n, D, Pl, hcs', _, hl, hm, hmm, _, hi⟩
  · simp [Value.cells] at hcs'
    obtain ⟨rfl, rfl, rfl⟩ := hcs'
    exact ⟨[], ⟨none, 0, rfl, fun j hj => by simp at hj⟩, rfl, Nat.zero_le _, fun l hl => by simp at hl⟩
  · simp [Value.cells] at hcs'
    obtain ⟨rfl, rfl, rfl⟩ := hcs'
    simp at hmm
    subst hmm
    have one : ∀ i : Nat, ∃ q : List Int × Value, i < m → W.cell? (x.add i) = some q.2 ∧ (IntsV W q.2 q.1 ∧ capOk q.2) ∧ q.1.length ≤ maxLen ∧ ∀ i ∈ q.1, (Lit.int .i64 i).wf = true := by
      intro i
      by_cases him : i < m
      · obtain ⟨cs', hc, ht'⟩ := hi i him
        rw [hcs] at hc
        obtain ⟨_, hcl, hat⟩ := World.cells?_some hc
        match cs', hcl with
        | [c0], _ =>
          have a0 := hat 0 (by omega)
          have hadd : (x.add (i * 1)).add 0 = x.add i := by rw [Nat.mul_one]; simp [Addr.add]
          rw [hadd] at a0
          simp at a0
          rcases open_ints hs he hce ht' with ⟨hv, _⟩ | ⟨y, l', c', zs, hv, _, hl', hm', hz, _, hcell, hwz⟩
          · simp at hv
            subst hv
            exact ⟨([], _), fun _ => ⟨a0, ⟨.inl ⟨none, 0, rfl, rfl⟩, Nat.le_refl _⟩, Nat.zero_le _, fun i hi => by simp at hi⟩⟩
          · simp at hv
            subst hv
            have hr : IsRow .i64 W (some y) l' c' zs := .inr ⟨y, rfl, hl', hm', by simpa using hz, hcell, hwz⟩
            obtain ⟨r1, r2, r3⟩ := intsV_of_row hr
            exact ⟨(zs.take l', _), fun _ => ⟨a0, ⟨r1, hl'⟩, by simp only []; omega, r3⟩⟩
      · exact ⟨([], .nilFunc), fun h => absurd h him⟩
    obtain ⟨f, hf⟩ := Classical.axiomOfChoice one
    have hget : ∀ i, i < len → ((List.range len).map (fun i => (f i).1)).getD i [] = (f i).1 := by
      intro i hi
      simp [hi]
    refine ⟨(List.range len).map (fun i => (f i).1), ⟨some x, m, by simp, fun j hj => ?_⟩, by simp, by omega, ?_⟩
    · have hj' : j < len := by simpa using hj
      rw [hget j hj']
      obtain ⟨h1, h2, _⟩ := hf j (by omega)
      have h0 := (hf 0 (by omega)).1
      have hx := spot_none h0
      simp [Addr.add] at hx
      refine ⟨x.block, x.off, (f j).2, by rw [← hx], ?_, h2⟩
      rw [hx] at h1
      by_cases hj0 : j = 0
      · subst hj0; simpa [Addr.add] using h1
      · simpa [Addr.add, hj0] using h1
    · intro l hl'
      simp at hl'
      obtain ⟨i, hi', rfl⟩ := hl'
      exact (hf i (by omega)).2.2
end
/-- n one-cell values -/
def vl (n : Nat) (f : Nat → Value) : List Value := (List.range n).map f
theorem vl_len (n : Nat) (f : Nat → Value) : (vl n f).length = n := by simp [vl]
theorem vl_get {n : Nat} (f : Nat → Value) (i : Nat) (h : i < n) : (vl n f)[i]? = some (f i) := by simp [vl, h]
theorem vl_congr {n : Nat} {f g : Nat → Value} (h : ∀ i, i < n → f i = g i) : vl n f = vl n g := by
  unfold vl
  apply List.map_congr_left
  intro i hi
  rw [h i (by simpa using hi)]
theorem vl_one {n : Nat} {f : Nat → Value} (h : ∀ i, i < n → (f i).oneCell' = true) : (vl n f).toArray.all (·.oneCell') = true := all_oneCell_toArray (by
  intro v hv
  simp only [vl, List.mem_map] at hv
  obtain ⟨i, hi, rfl⟩ := hv
  exact h i (by simpa using hi))
/-- block b is n values, and may be written -/
structure VA (n : Nat) (w : World) (b : Nat) (f : Nat → Value) : Prop where
  c : ∀ i, i < n → w.cell? ⟨b, i, none⟩ = some (f i)
  z : ∀ i, i < n → w.frozen? ⟨b, i, none⟩ = false
theorem VA.ext {n : Nat} {w w' : World} {b : Nat} {f : Nat → Value} (h : VA n w b f) (hx : Ext w w') : VA n w' b f := ⟨fun i hi => hx.cell (h.c i hi), fun i hi => hx.frozen (h.c i hi) (h.z i hi)⟩
theorem VA.congr {n : Nat} {w : World} {b : Nat} {f g : Nat → Value} (h : VA n w b f) (e : ∀ i, i < n → f i = g i) : VA n w b g := ⟨fun i hi => by rw [← e i hi]; exact h.c i hi, h.z⟩
theorem VA.there {n : Nat} {w : World} {b : Nat} {f : Nat → Value} (h : VA n w b f) : w.there b 0 n := fun j hj => by
  rw [Nat.zero_add]
  exact ⟨by rw [h.c j hj]; rfl, h.z j hj⟩
theorem VA.range {n : Nat} {w : World} {b : Nat} {f : Nat → Value} (h : VA n w b f) : w.rangeAt b 0 (vl n f) := fun j v hv => by
  have hj : j < n := by
    have := (List.getElem?_eq_some_iff.1 hv).1
    rwa [vl_len] at this
  rw [vl_get f j hj] at hv
  cases hv
  rw [Nat.zero_add]
  exact h.c j hj
theorem va_new {n : Nat} (w : World) (T : Nat) (C : Array Value) (f : Nat → Value) (h : C = (vl n f).toArray) : VA n (w.alloc (.cells C T)) w.heap.size f := by
  have hh : (w.alloc (.cells C T)).heap[w.heap.size]? = some (.cells C T) := World.alloc_heap_new w _
  refine ⟨fun i hi => ?_, fun i hi => ?_⟩
  · simp only [World.cell?, hh]
    simp [h, vl_get f i hi]
  · simp only [World.frozen?, hh]
    simp
theorem va_setCells {n : Nat} {w : World} {b : Nat} {f : Nat → Value} (h : VA n w b f) (g : Nat → Value) (cs : List Value) (hc : cs = vl n g) : VA n (w.setCells b 0 cs) b g := by
  subst hc
  refine ⟨fun i hi => ?_, fun i hi => ?_⟩
  · have := World.rangeAt_setCells_same w b 0 (vl n g) (by rw [vl_len]; exact h.there) i _ (vl_get g i hi)
    rwa [Nat.zero_add] at this
  · rw [World.frozen?_setCells]; exact h.z i hi
theorem va_setCells_off {n : Nat} {w : World} {b b' : Nat} {f : Nat → Value} (h : VA n w b f) (hne : b ≠ b') (cs : List Value) : VA n (w.setCells b' 0 cs) b f := by
  refine ⟨fun i hi => ?_, fun i hi => ?_⟩
  · rw [World.cell?_setCells_out b' cs 0 w ⟨b, i, none⟩ (fun e _ => absurd e hne)]; exact h.c i hi
  · rw [World.frozen?_setCells]; exact h.z i hi
theorem ext_setCells {a : World} (b : Nat) (hb : a.heap.size ≤ b) : ∀ (cs : List Value) (o : Nat) (w : World), Ext a w → Ext a (w.setCells b o cs)
  | [], _, _, h => h
  | v :: r, o, w, h => ext_setCells b hb r (o + 1) _ (h.setCell hb v)
theorem va_set {n : Nat} {w : World} {b i : Nat} {f : Nat → Value} (h : VA n w b f) (v : Value) (hi : i < n) : VA n (w.setCell ⟨b, i, none⟩ v) b (fun j => if j = i then v else f j) := by
  refine ⟨fun j hj => ?_, fun j hj => ?_⟩
  · by_cases e : j = i
    · subst e
      rw [if_pos rfl]
      exact World.cell?_setCell_same _ _ _ (h.c j hj)
    · rw [if_neg e, World.cell?_setCell_other _ _ _ _ (by intro e'; cases e'; exact e rfl)]
      exact h.c j hj
  · rw [World.frozen?_setCell]; exact h.z j hj
theorem va_set_off {n : Nat} {w : World} {b b' i : Nat} {f : Nat → Value} (h : VA n w b f) (hne : b ≠ b') (v : Value) : VA n (w.setCell ⟨b', i, none⟩ v) b f := by
  refine ⟨fun j hj => ?_, fun j hj => ?_⟩
  · rw [World.cell?_setCell_other _ _ _ _ (by intro e'; cases e'; exact hne rfl)]
    exact h.c j hj
  · rw [World.frozen?_setCell]; exact h.z j hj
theorem results_cell {P : Program} {fn : Func} {tmps : Array Value} {w : World} {a b : Nat} {t : TypeId} {v : Value} (hr : fn.results = #[.cell a t]) (ht : tmps[a]?.getD undef = .pointer (some ⟨b, 0, none⟩)) (hl : (loadVar t ⟨b, 0, none⟩).run P w = .ok v w) :
    (results fn tmps).run P w = .ok v w := by
  unfold results
  rw [hr]
  simp [ht, asAddr, hl]
end Go.Proofs.YtkmfamidahlgiaaGreatDoor

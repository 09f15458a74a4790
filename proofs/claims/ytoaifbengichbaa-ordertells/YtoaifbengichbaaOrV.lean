/- Rows of slices; a map from cells to the last atomic write. -/
import Derived.Test.YtoaifbengichbaaOrM
import Derived.Deep.MidRow
import Derived.Maps.OwnSet
import Derived.Maps.OwnOps
namespace Go.Proofs.Ytoaifbengichbaa
open Go.RowKit
set_option linter.unusedVariables false
set_option linter.unusedSimpArgs false
theorem info_ints : (Try.prog.info? 27).map (fun i => (i.zero, i.size, i.bytes)) = some (some (.slice none 0 0), 1, 24) := by kernel_rfl
/-- n one-cell values -/
def vl (n : Nat) (f : Nat → Value) : List Value := (List.range n).map f
theorem vl_len (n : Nat) (f : Nat → Value) : (vl n f).length = n := by simp [vl]
theorem vl_get {n : Nat} (f : Nat → Value) (i : Nat) (h : i < n) : (vl n f)[i]? = some (f i) := by simp [vl, h]
theorem vl_congr {n : Nat} {f g : Nat → Value} (h : ∀ i, i < n → f i = g i) : vl n f = vl n g := by
  unfold vl
  apply List.map_congr_left
  intro i hi
  rw [h i (by simpa using hi)]
theorem vl_one {n : Nat} {f : Nat → Value} (h : ∀ i, i < n → (f i).oneCell' = true) : (vl n f).toArray.all (·.oneCell') = true := all_oneCell_toArray (by
  intro v hv
  simp only [vl, List.mem_map] at hv
  obtain ⟨i, hi, rfl⟩ := hv
  exact h i (by simpa using hi))
/-- block b is n values, and may be written -/
structure VA (n : Nat) (w : World) (b : Nat) (f : Nat → Value) : Prop where
  c : ∀ i, i < n → w.cell? ⟨b, i, none⟩ = some (f i)
  z : ∀ i, i < n → w.frozen? ⟨b, i, none⟩ = false
theorem VA.ext {n : Nat} {w w' : World} {b : Nat} {f : Nat → Value} (h : VA n w b f) (hx : Ext w w') : VA n w' b f := ⟨fun i hi => hx.cell (h.c i hi), fun i hi => hx.frozen (h.c i hi) (h.z i hi)⟩
theorem VA.congr {n : Nat} {w : World} {b : Nat} {f g : Nat → Value} (h : VA n w b f) (e : ∀ i, i < n → f i = g i) : VA n w b g := ⟨fun i hi => by rw [← e i hi]; exact h.c i hi, h.z⟩
theorem VA.there {n : Nat} {w : World} {b : Nat} {f : Nat → Value} (h : VA n w b f) : w.there b 0 n := fun j hj => by
  rw [Nat.zero_add]
  exact ⟨by rw [h.c j hj]; rfl, h.z j hj⟩
theorem VA.range {n : Nat} {w : World} {b : Nat} {f : Nat → Value} (h : VA n w b f) : w.rangeAt b 0 (vl n f) := fun j v hv => by
  have hj : j < n := by
    have := (List.getElem?_eq_some_iff.1 hv).1
    rwa [vl_len] at this
  rw [vl_get f j hj] at hv
  cases hv
  rw [Nat.zero_add]
  exact h.c j hj
theorem va_new {n : Nat} (w : World) (T : Nat) (C : Array Value) (f : Nat → Value) (h : C = (vl n f).toArray) : VA n (w.alloc (.cells C T)) w.heap.size f := by
  have hh : (w.alloc (.cells C T)).heap[w.heap.size]? = some (.cells C T) := World.alloc_heap_new w _
  refine ⟨fun i hi => ?_, fun i hi => ?_⟩
  · simp only [World.cell?, hh]
    simp [h, vl_get f i hi]
  · simp only [World.frozen?, hh]
    simp
theorem va_setCells {n : Nat} {w : World} {b : Nat} {f : Nat → Value} (h : VA n w b f) (g : Nat → Value) (cs : List Value) (hc : cs = vl n g) : VA n (w.setCells b 0 cs) b g := by
  subst hc
  refine ⟨fun i hi => ?_, fun i hi => ?_⟩
  · have := World.rangeAt_setCells_same w b 0 (vl n g) (by rw [vl_len]; exact h.there) i _ (vl_get g i hi)
    rwa [Nat.zero_add] at this
  · rw [World.frozen?_setCells]; exact h.z i hi
theorem va_setCells_off {n : Nat} {w : World} {b b' : Nat} {f : Nat → Value} (h : VA n w b f) (hne : b ≠ b') (cs : List Value) : VA n (w.setCells b' 0 cs) b f := by
  refine ⟨fun i hi => ?_, fun i hi => ?_⟩
  · rw [World.cell?_setCells_out b' cs 0 w ⟨b, i, none⟩ (fun e _ => absurd e hne)]; exact h.c i hi
  · rw [World.frozen?_setCells]; exact h.z i hi
theorem ext_setCells {a : World} (b : Nat) (hb : a.heap.size ≤ b) : ∀ (cs : List Value) (o : Nat) (w : World), Ext a w → Ext a (w.setCells b o cs)
  | [], _, _, h => h
  | v :: r, o, w, h => ext_setCells b hb r (o + 1) _ (h.setCell hb v)
theorem va_set {n : Nat} {w : World} {b i : Nat} {f : Nat → Value} (h : VA n w b f) (v : Value) (hi : i < n) : VA n (w.setCell ⟨b, i, none⟩ v) b (fun j => if j = i then v else f j) := by
  refine ⟨fun j hj => ?_, fun j hj => ?_⟩
  · by_cases e : j = i
    · subst e
      rw [if_pos rfl]
      exact World.cell?_setCell_same _ _ _ (h.c j hj)
    · rw [if_neg e, World.cell?_setCell_other _ _ _ _ (by intro e'; cases e'; exact e rfl)]
      exact h.c j hj
  · rw [World.frozen?_setCell]; exact h.z j hj
theorem va_set_off {n : Nat} {w : World} {b b' i : Nat} {f : Nat → Value} (h : VA n w b f) (hne : b ≠ b') (v : Value) : VA n (w.setCell ⟨b', i, none⟩ v) b f := by
  refine ⟨fun j hj => ?_, fun j hj => ?_⟩
  · rw [World.cell?_setCell_other _ _ _ _ (by intro e'; cases e'; exact hne rfl)]
    exact h.c j hj
  · rw [World.frozen?_setCell]; exact h.z j hj
theorem row_lower {w : World} {base b e sz : Nat} {v : Value} {n : Nat} {xs : List Value} (h : w.ownsRow base e sz v n xs) (hb : b ≤ base) : w.ownsRow b e sz v n xs := by
  refine ⟨h.1, ?_⟩
  rcases h.2 with hn | ⟨g, cap, cur, h1, h2, rest⟩
  · exact .inl hn
  · exact .inr ⟨g, cap, cur, h1, Nat.le_trans hb h2, rest⟩
theorem RI.lower {w : World} {base b : Nat} {v : Value} {xs : List Int} (h : RI w base v xs) (hb : b ≤ base) : RI w b v xs := row_lower h hb
theorem made_vl (z : Value) (hz : z.cells = #[z]) (n : Nat) : madeCells #[z] n = (vl n (fun _ => z)).toArray := by
  apply Array.ext'
  rw [toList_madeCells_one]
  unfold vl
  simp only []
  apply List.ext_getElem
  · simp
  · intro i h1 h2; simp
theorem VA.but {n : Nat} {w w' : World} {b : Nat} {f : Nat → Value} {S : Nat → Prop} (h : VA n w b f) (hb : But S w w') (hs : ¬ S b) : VA n w' b f := ⟨fun i hi => hb.cell (h.c i hi) hs, fun i hi => hb.frozen (h.c i hi) (h.z i hi) hs⟩
theorem VA.lt {n : Nat} {w : World} {b : Nat} {f : Nat → Value} (h : VA n w b f) (hn : 0 < n) : b < w.heap.size := World.block_lt_of_cell? w _ (h.c 0 hn)
/-- block b has n slices, the first m of which are these numbers, in rows from B on -/
structure RWS (w : World) (b n B m : Nat) (f : Nat → Value) (c : Nat → List Int) : Prop where
  va : VA n w b f
  ri : ∀ i, i < m → RI w B (f i) (c i)
theorem RWS.ext {w w' : World} {b n B m : Nat} {f : Nat → Value} {c : Nat → List Int} (h : RWS w b n B m f c) (hx : Ext w w') : RWS w' b n B m f c := ⟨h.va.ext hx, fun i hi => (h.ri i hi).ext hx⟩
/-- a write to a block below the rows -/
theorem RWS.low {w : World} {b n B m x o : Nat} {f : Nat → Value} {c : Nat → List Int} (h : RWS w b n B m f c) (hx : x < B) (hne : b ≠ x) (u : Value) : RWS (w.setCell ⟨x, o, none⟩ u) b n B m f c := by
  have hb := but_setCell w ⟨x, o, none⟩ u
  refine ⟨h.va.but hb hne, fun i hi => hb.row (h.ri i hi) fun g hg e => ?_⟩
  have := (World.ownsRow.lt (h.ri i hi) g hg).1
  simp at e
  omega
theorem RWS.set {w : World} {b n B m i : Nat} {f : Nat → Value} {c : Nat → List Int} (h : RWS w b n B m f c) (hb : b < B) (hi : i < n) {u : Value} {xs : List Int} (hu : RI w B u xs) :
    RWS (w.setCell ⟨b, i, none⟩ u) b n B m (fun j => if j = i then u else f j) (fun j => if j = i then xs else c j) := by
  have hbt := but_setCell w ⟨b, i, none⟩ u
  refine ⟨va_set h.va u hi, fun j hj => ?_⟩
  by_cases e : j = i
  · subst e
    simp only [if_true]
    exact hbt.row hu fun g hg e => by have := (World.ownsRow.lt hu g hg).1; simp at e; omega
  · simp only [if_neg e]
    exact hbt.row (h.ri j hj) fun g hg e => by have := (World.ownsRow.lt (h.ri j hj) g hg).1; simp at e; omega
theorem RWS.set_new {w : World} {b n B m : Nat} {f : Nat → Value} {c : Nat → List Int} (h : RWS w b n B m f c) (hb : b < B) (hi : m < n) {u : Value} (hu : RI w B u (c m)) :
    RWS (w.setCell ⟨b, m, none⟩ u) b n B (m + 1) (fun j => if j = m then u else f j) c := by
  have hbt := but_setCell w ⟨b, m, none⟩ u
  refine ⟨va_set h.va u hi, fun j hj => ?_⟩
  by_cases e : j = m
  · subst e
    simp only [if_true]
    exact hbt.row hu fun g hg e => by have := (World.ownsRow.lt hu g hg).1; simp at e; omega
  · simp only [if_neg e]
    exact hbt.row (h.ri j (by omega)) fun g hg e' => by have := (World.ownsRow.lt (h.ri j (by omega)) g hg).1; simp at e'; omega
theorem RI.off_map {w : World} {B : Nat} {v : Value} {xs : List Int} (h : RI w B v xs) {bm : Nat} {es : Array MapEntry} {ck : Nat} (hm : w.heap[bm]? = some (.map es ck)) {g : Nat} (hg : v.ownBlock = some g) : g ≠ bm := fun e => by
  subst e
  unfold RI at h
  rcases h.2 with ⟨e1, _⟩ | ⟨g', cap', cur, e1, _, hgo, _⟩
  · rw [e1] at hg; cases hg
  · rw [e1] at hg; cases hg; rw [hgo] at hm; cases hm
theorem VA.off_map {n : Nat} {w : World} {b : Nat} {f : Nat → Value} (h : VA n w b f) {bm : Nat} {es : Array MapEntry} {ck : Nat} (hm : w.heap[bm]? = some (.map es ck)) {i : Nat} (hi : i < n) : b ≠ bm := fun e => by
  subst e
  have := h.c i hi
  simp [World.cell?, hm] at this
theorem RWS.map {w w' : World} {b n B m : Nat} {f : Nat → Value} {c : Nat → List Int} (h : RWS w b n B m f c) {bm : Nat} {es : Array MapEntry} {ck : Nat} (hm : w.heap[bm]? = some (.map es ck)) (hg : w.grownBy w' (some bm)) : RWS w' b n B m f c := by
  have hb := but_grown hg
  refine ⟨⟨fun i hi => hb.cell (h.va.c i hi) (fun e => h.va.off_map hm hi (Option.some.inj e).symm), fun i hi => hb.frozen (h.va.c i hi) (h.va.z i hi) (fun e => h.va.off_map hm hi (Option.some.inj e).symm)⟩, fun i hi => hb.row (h.ri i hi) fun g hg' e => ?_⟩
  exact (h.ri i hi).off_map hm hg' (Option.some.inj e).symm
/-- slices of numbers, as they read -/
def CkV (w : World) (v : Value) (cs : List (List Int)) : Prop :=
  ∃ a cap, v = .slice a cs.length cap ∧ ∀ i, i < cs.length → ∃ b off u, a = some ⟨b, off, none⟩ ∧ w.cell? ⟨b, off + i, none⟩ = some u ∧ IntsV w u (cs.getD i [])
theorem CkV.ext {w w' : World} {v : Value} {cs : List (List Int)} (h : CkV w v cs) (hx : Ext w w') : CkV w' v cs := by
  obtain ⟨a, cap, e, hc⟩ := h
  refine ⟨a, cap, e, fun i hi => ?_⟩
  obtain ⟨b, off, u, ea, q, hI⟩ := hc i hi
  exact ⟨b, off, u, ea, hx.cell q, hI.ext hx⟩
theorem CkV.at {w : World} {a : Option Addr} {m cap : Nat} {cs : List (List Int)} (h : CkV w (.slice a m cap) cs) {w' : World} (hx : Ext w w') {i : Nat} (hi : i < cs.length) : ∃ b off u, a = some ⟨b, off, none⟩ ∧ w'.cell? ⟨b, off + i, none⟩ = some u ∧ IntsV w' u (cs.getD i []) := by
  obtain ⟨a', cap', e, hc⟩ := h
  cases e
  obtain ⟨b, off, u, ea, q, hI⟩ := hc i hi
  exact ⟨b, off, u, ea, hx.cell q, hI.ext hx⟩
theorem RWS.ckv {w : World} {b n B : Nat} {f : Nat → Value} {cs : List (List Int)} (h : RWS w b n B n f (fun i => cs.getD i [])) (hn : cs.length = n) (cap : Nat) : CkV w (.slice (some ⟨b, 0, none⟩) n cap) cs :=
  ⟨_, cap, by rw [hn], fun i hi => ⟨b, 0, f i, rfl, by rw [Nat.zero_add]; exact h.va.c i (by omega), (h.ri i (by omega)).ints⟩⟩
theorem law_int : Maps.Keyed Try.prog 3 := Maps.int_keyed Try.underlying3
theorem zero_int (w : World) : (zeroValue 3).run Try.prog w = .ok (.int .i64 0) w := by kernel_rfl
/-- a map from cells to the last atomic write among the first m -/
def WM (w : World) (bm : Nat) (ls : List Acc) (m : Nat) : Prop :=
  ∃ D : DataW Unit, w.ownsMap Try.prog 3 (plainElem Try.prog 3) bm m D ∧ ∀ c : Int, Maps.has D (.int .i64 c) = decide (0 ≤ awr ls c m) ∧ (0 ≤ awr ls c m → D.atKey (.int .i64 c) (.lit (.int .i64 0)) = .lit (.int .i64 (awr ls c m)))
theorem WM.heap {w : World} {bm : Nat} {ls : List Acc} {m : Nat} (h : WM w bm ls m) : ∃ es ck, w.heap[bm]? = some (.map es ck) := by
  obtain ⟨D, ⟨es, ck, hb, _⟩, _⟩ := h
  exact ⟨es, ck, hb⟩
theorem WM.but {S : Nat → Prop} {w w' : World} {bm : Nat} {ls : List Acc} {m : Nat} (h : WM w bm ls m) (hb : But S w w') (hs : ¬ S bm) : WM w' bm ls m := by
  obtain ⟨D, ⟨es, ck, h1, h2⟩, h3⟩ := h
  exact ⟨D, ⟨es, ck, hb.heap h1 hs, h2⟩, h3⟩
theorem WM.ext {w w' : World} {bm : Nat} {ls : List Acc} {m : Nat} (h : WM w bm ls m) (hx : Ext w w') : WM w' bm ls m := h.but (hx.but (fun _ => False)) (fun h => h)
theorem WM.made (w : World) (ls : List Acc) : WM (w.alloc (.map #[] 0)) w.heap.size ls 0 :=
  ⟨.map [], World.ownsMap_made _ _ _ _, fun c => ⟨rfl, fun h => absurd h (by show ¬ (0 ≤ (-1 : Int)); omega)⟩⟩
theorem awr_succ (ls : List Acc) (c : Int) (m : Nat) : awr ls c (m + 1) = if (A ls m).c = c ∧ atB (A ls m).k = true ∧ wrB (A ls m).k = true then (m : Int) else awr ls c m := by
  have e : awr ls c (m + 1) = if (decide ((A ls m).c = c) && (atB (A ls m).k && wrB (A ls m).k)) = true then (m : Int) else awr ls c m := rfl
  rw [e]
  by_cases h : (A ls m).c = c ∧ atB (A ls m).k = true ∧ wrB (A ls m).k = true
  · rw [if_pos h, if_pos (by simp [h])]
  · rw [if_neg h, if_neg (by simpa using h)]
theorem WM.skip {w : World} {bm : Nat} {ls : List Acc} {m : Nat} (h : WM w bm ls m) (hn : ¬ (atB (A ls m).k = true ∧ wrB (A ls m).k = true)) : WM w bm ls (m + 1) := by
  obtain ⟨D, h1, h2⟩ := h
  refine ⟨D, h1.mono (Nat.le_succ _), fun c => ?_⟩
  rw [awr_succ, if_neg (fun h => hn h.2)]
  exact h2 c
theorem WM.look {w : World} {bm : Nat} {ls : List Acc} {m : Nat} (h : WM w bm ls m) {c : Int} (hc : (Lit.int .i64 c).wf = true) : ∃ x : Int, (Instr.lookup 58 (.map (some bm)) (.int .i64 c) true).run Try.prog w = .ok (.tuple #[.int .i64 x, .bool (decide (0 ≤ awr ls c m))]) w ∧ (0 ≤ awr ls c m → x = awr ls c m) := by
  obtain ⟨D, h1, h2⟩ := h
  obtain ⟨v, ps, hrun, hv⟩ := h1.look_ok law_int Try.underlying58 (zero_int w) (plainElem_int (H := Unit) Try.underlying3 (by decide)) (Maps.keyOf_int_mk Try.underlying3 hc)
  obtain ⟨x, rfl, hx, _⟩ := plainElem_int_inv Try.underlying3 hv
  refine ⟨x, by rw [← (h2 c).1]; exact hrun, fun h0 => ?_⟩
  have h4 := (h2 c).2 h0
  have h5 := congrArg Prod.fst hx
  dsimp only at h5
  rw [h5] at h4
  simpa using h4
theorem WM.put {w : World} {bm : Nat} {ls : List Acc} {m : Nat} (h : WM w bm ls m) (hc : (Lit.int .i64 (A ls m).c).wf = true) (hm : m ≤ 1000) (hw : atB (A ls m).k = true ∧ wrB (A ls m).k = true) :
    ∃ w', (Instr.mapUpdate 58 (.map (some bm)) (.int .i64 (A ls m).c) (.int .i64 m)).run Try.prog w = .ok () w' ∧ WM w' bm ls (m + 1) ∧ w.grownBy w' (some bm) := by
  obtain ⟨D, h1, h2⟩ := h
  have hk : keyOf Try.prog 3 (.int .i64 (A ls m).c) = some (.int .i64 (A ls m).c) := Maps.keyOf_int_mk Try.underlying3 hc
  obtain ⟨w', hrun, h3, hg⟩ := h1.update law_int Try.underlying58 (by unfold maxLen; omega) hk (plainElem_int (H := Unit) Try.underlying3 (a := (m : Int)) (WalkArith.wf_i64 (by omega)))
  refine ⟨w', hrun, ⟨_, h3, fun c => ?_⟩, hg⟩
  rw [awr_succ]
  by_cases e : (A ls m).c = c
  · subst e
    rw [if_pos ⟨rfl, hw⟩, Maps.has_put_same h1.isMap (law_int.key hk), Maps.atKey_put_same h1.isMap (law_int.key hk)]
    exact ⟨by simp, fun _ => rfl⟩
  · rw [if_neg (fun h => e h.1)]
    have hne : (Lit.int .i64 c) ≠ (Lit.int .i64 (A ls m).c) := fun h => e (by cases h; rfl)
    rw [Maps.has_put_other hne, Maps.atKey_put_other hne]
    exact h2 c
end Go.Proofs.Ytoaifbengichbaa

/- Events in memory: slices that are read, rows of one's own; what append makes of them; event.with. -/
import Derived.Test.YtkbbneknblnbnaaInts
import Derived.Test.YtkbbneknblnbnaaLists
import Derived.Test.YtkbbneknblnbnaaSeq
import Derived.Maps.AppendAt
import Derived.Laws.AppendOwnNone
import Derived.Deep.AppendLies
import Derived.Lib.Hide
namespace Go.Proofs.Ytkbbneknblnbnaa
open Go.RowKit
set_option linter.unusedVariables false
set_option linter.unusedSimpArgs false
set_option maxHeartbeats 1000000
attribute [local go_sem] later_cell later_frozen later_const
theorem info_int15 : (Try.prog.info? 3).map (fun i => (i.zero, i.size, i.bytes)) = some (some (.int .i64 0), 1, 8) := by kernel_rfl
theorem info_ev15 : (Try.prog.info? 31).map (fun i => (i.zero, i.size, i.bytes)) = some (some (.agg #[.int .i64 0, .int .i64 0, .int .i64 0, .int .i64 0, .int .u64 0, .int .i64 0, .slice none 0 0]), 7, 72) := by kernel_rfl
theorem row_ext {a b : World} (h : Ext a b) {base e sz : Nat} {v : Value} {n : Nat} {xs : List Value} (hr : a.ownsRow base e sz v n xs) : b.ownsRow base e sz v n xs := by
  refine ⟨hr.1, ?_⟩
  rcases hr.2 with hn | ⟨g, cap, cur, rfl, hb, hg, rest⟩
  · exact .inl hn
  · exact .inr ⟨g, cap, cur, rfl, hb, (h.block g (Array.getElem?_eq_some_iff.1 hg).1).trans hg, rest⟩
/-- a block's element type is known -/
def TagE (w : World) (b t : Nat) : Prop := ∃ cur, w.heap[b]? = some (.cells cur t (0, 0))
theorem TagE.ne {w : World} {a b s t : Nat} (h1 : TagE w a s) (h2 : TagE w b t) (h : s ≠ t) : a ≠ b := fun e => by
  subst e
  obtain ⟨c1, h1⟩ := h1
  obtain ⟨c2, h2⟩ := h2
  rw [h1] at h2
  cases h2
  exact h rfl
theorem TagE.but {S : Nat → Prop} {w w' : World} {b t : Nat} (h : TagE w b t) (hb : But S w w') (hs : ¬ S b) : TagE w' b t := by
  obtain ⟨cur, h⟩ := h
  exact ⟨cur, hb.heap h hs⟩
theorem TagE.ext {w w' : World} {b t : Nat} (h : TagE w b t) (hx : Ext w w') : TagE w' b t := h.but (hx.but fun _ => False) id
theorem TagE.lt {w : World} {b t : Nat} (h : TagE w b t) : b < w.heap.size := by
  obtain ⟨cur, h⟩ := h
  exact (Array.getElem?_eq_some_iff.1 h).1
theorem row_tagE {w : World} {base t s n : Nat} {v : Value} {xs : List Value} (h : w.ownsRow base t s v n xs) {k : Nat} (hk : v.ownBlock = some k) : TagE w k t := by
  rcases h.2 with ⟨e1, _⟩ | ⟨g', cap', cur, e1, _, hgo, _⟩
  · rw [e1] at hk; cases hk
  · rw [e1] at hk; cases hk; exact ⟨_, hgo⟩
/-- what is in an event: kind, thread, op, number, position, code, data -/
structure Ev where
  k : Int
  t : Int
  o : Int
  n : Int
  p : Int
  c : Int
  d : List Int
  deriving DecidableEq
/-- its cells, and itself as a value; the data lie at u -/
def evV (e : Ev) (u : Value) : List Value := [.int .i64 e.k, .int .i64 e.t, .int .i64 e.o, .int .i64 e.n, .int .u64 e.p, .int .i64 e.c, u]
def evA (e : Ev) (u : Value) : Value := .agg #[.int .i64 e.k, .int .i64 e.t, .int .i64 e.o, .int .i64 e.n, .int .u64 e.p, .int .i64 e.c, u]
/-- data that are read: in a block from ahead of B, or one of integers -/
def Dat (w : World) (B : Nat) (u : Value) (d : List Int) : Prop :=
  (∃ a cap, u = .slice a 0 cap ∧ d = [] ∧ (a = none → cap = 0)) ∨
  ∃ b off cap, u = .slice (some ⟨b, off, none⟩) d.length cap ∧ (∀ j, j < d.length → w.cell? ⟨b, off + j, none⟩ = some (.int .i64 (d.getD j 0))) ∧ (b < B ∨ TagE w b 3)
theorem Dat.ints {w : World} {B : Nat} {u : Value} {d : List Int} (h : Dat w B u d) : IntsV w u d := by
  rcases h with ⟨a, cap, h1, h2, _⟩ | ⟨b, off, cap, h1, h2, _⟩
  · exact .inl ⟨a, cap, h1, h2⟩
  · exact .inr ⟨b, off, cap, h1, h2⟩
theorem Dat.len {w : World} {B : Nat} {u : Value} {d : List Int} (h : Dat w B u d) : ∃ a cap, u = .slice a d.length cap := by
  rcases h with ⟨a, cap, h1, h2, _⟩ | ⟨b, off, cap, h1, h2, _⟩
  · subst h2; exact ⟨_, _, h1⟩
  · exact ⟨_, _, h1⟩
theorem Dat.one {w : World} {B : Nat} {u : Value} {d : List Int} (h : Dat w B u d) : u.oneCell' = true := by
  obtain ⟨a, cap, rfl⟩ := h.len
  rfl
theorem Dat.but {S : Nat → Prop} {w w' : World} {B : Nat} {u : Value} {d : List Int} (h : Dat w B u d) (hb : But S w w') (hs : ∀ k, S k → k < w.heap.size → B ≤ k ∧ TagE w k 31) : Dat w' B u d := by
  rcases h with h | ⟨b, off, cap, h1, h2, h3⟩
  · exact .inl h
  · by_cases h0 : d.length = 0
    · refine .inl ⟨_, cap, by rw [h1, h0], List.eq_nil_of_length_eq_zero h0, fun e => by cases e⟩
    have nb : ¬ S b := fun hs' => by
      obtain ⟨k1, k2⟩ := hs b hs' (World.block_lt_of_cell? w _ (h2 0 (by omega)))
      rcases h3 with h3 | h3
      · omega
      · exact h3.ne k2 (by decide) rfl
    exact .inr ⟨b, off, cap, h1, fun j hj => hb.cell (h2 j hj) nb, h3.imp id fun t => t.but hb nb⟩
theorem Dat.ext {w w' : World} {B : Nat} {u : Value} {d : List Int} (h : Dat w B u d) (hx : Ext w w') : Dat w' B u d := h.but (hx.but fun _ => False) (fun _ h => h.elim)
theorem Dat.up {w : World} {B B' : Nat} {u : Value} {d : List Int} (h : Dat w B u d) (hB : B ≤ B') : Dat w B' u d := by
  rcases h with h | ⟨b, off, cap, h1, h2, h3⟩
  · exact .inl h
  · exact .inr ⟨b, off, cap, h1, h2, h3.imp (fun h => by omega) id⟩
/-- a row of numbers of one's own -/
def RJ (w : World) (B : Nat) (u : Value) (d : List Int) : Prop := w.ownsRow B 3 1 u d.length (d.map (Value.int .i64))
theorem RJ.dat {w : World} {B B' : Nat} {u : Value} {d : List Int} (h : RJ w B u d) : Dat w B' u d := by
  have ht := fun k hk => row_tagE h (k := k) hk
  rcases h.2 with ⟨rfl, h0⟩ | ⟨g, cap, cur, rfl, hb, hg, hn, hm, hs, hc⟩
  · exact .inl ⟨none, 0, rfl, List.eq_nil_of_length_eq_zero h0, fun _ => rfl⟩
  · refine .inr ⟨g, 0, cap, rfl, fun j hj => ?_, .inr (ht g rfl)⟩
    rw [Nat.zero_add]
    have e : (d.map (Value.int .i64))[j]? = some (.int .i64 (d.getD j 0)) := by simp [hj]
    rw [← hc, List.getElem?_take] at e
    rw [if_pos (by omega)] at e
    simp only [World.cell?, hg]
    simpa using e
theorem RJ.ext {w w' : World} {B : Nat} {u : Value} {d : List Int} (h : RJ w B u d) (hx : Ext w w') : RJ w' B u d := row_ext hx h
theorem RJ.set {w : World} {B b j : Nat} {u x : Value} {d : List Int} (h : RJ w B u d) (hn : ∀ k, u.ownBlock = some k → k ≠ b) : RJ (w.setCell ⟨b, j, none⟩ x) B u d := (but_setCell w ⟨b, j, none⟩ x).row h hn
theorem RJ.nil (w : World) (B : Nat) : RJ w B (.slice none 0 0) [] := World.ownsRow_nil w B 3 1
section
variable {ops : Array Oper} {rest : List Oper} {o : Oper} {a : Act} {Q : Exit → Act → World → Prop}
/-- numbers put behind one's own -/
theorem appJ (w : World) (hgd : o.guard = none) (s x : Operand) (ho : o.op = .call { callee := .builtin .append, args := #[s, x], argTypes := #[23, 23] }) (B : Nat) (v : Value) (xs : List Int) (hs : a.eval s = v) (hown : RJ w B v xs) (hB : B ≤ w.heap.size)
    (y : Value) (zs : List Int) (hx : a.eval x = y) {B' : Nat} (hy : Dat w B' y zs) (hl : xs.length + zs.length ≤ 1000000)
    (h : ∀ v' w', RJ w' B v' (xs ++ zs) → w.grownBy w' v.ownBlock → (v'.ownBlock = v.ownBlock ∨ v'.ownBlock = some w.heap.size) → wpList Try.prog ops Q rest (a.put o.dst v') w') : wpList Try.prog ops Q (o :: rest) a w := by
  obtain ⟨i0, hi, hz0, hz1, hz2⟩ := info_parts info_int15
  have fin : ∀ (ad : Addr) (c : Nat), y = .slice (some ad) zs.length c → (∀ j u, (zs.map (Value.int .i64))[j]? = some u → w.cell? (ad.add j) = some u) → wpList Try.prog ops Q (o :: rest) a w := by
    intro ad c e hc
    refine wpList_append_own_at w hgd s x 23 ho B 3 i0 (.int .i64 0) 1 8 Try.underlying23 hi hz0 hz1 hz2 rfl (by decide) v xs.length (xs.map (Value.int .i64)) hs hown ad zs.length c (zs.map (Value.int .i64)) (hx.trans e) (by simp) hc (by intro u hu; obtain ⟨x, _, rfl⟩ := List.mem_map.1 hu; rfl) (by unfold maxLen; omega) (by omega) hB ?_
    intro v' w' h1 h2 h3 h4
    refine h v' w' ?_ h2 h4
    unfold RJ
    rw [List.length_append, List.map_append]
    exact h1
  rcases hy with ⟨p, cap, e, e2, e3⟩ | ⟨b, off, cap, e, hc, _⟩
  · subst e2
    cases p with
    | none =>
      obtain rfl := e3 rfl
      refine wpList_append_own_none hgd s x 23 ho B 3 i0 1 Try.underlying23 hi v xs.length (xs.map (Value.int .i64)) hs hown (hx.trans e) (h v w (by rw [List.append_nil]; exact hown) ⟨rfl, rfl, rfl, Nat.le_refl _, fun _ _ _ => rfl⟩ (.inl rfl))
    | some ad => exact fin ad cap e (fun j u hu => by simp at hu)
  · refine fin ⟨b, off, none⟩ cap e fun j u hu => ?_
    have hj : j < zs.length := by simpa using (List.getElem?_eq_some_iff.1 hu).1
    have e2 : u = .int .i64 (zs.getD j 0) := by
      rw [List.getElem?_map] at hu
      simp [hj] at hu
      rw [← hu]
      simp [hj]
    rw [e2]
    have := hc j hj
    simp only [Addr.add]
    split
    · rename_i e; subst e; exact this
    · simpa using this
end
/-! rows of events -/
def rowE (l : List (Ev × Value)) : List Value := l.flatMap fun p => evV p.1 p.2
theorem rowE_app (a b : List (Ev × Value)) : rowE (a ++ b) = rowE a ++ rowE b := List.flatMap_append
theorem rowE_len (l : List (Ev × Value)) : (rowE l).length = l.length * 7 := by
  induction l with
  | nil => rfl
  | cons d l ih => show (evV d.1 d.2 ++ rowE l).length = _; rw [List.length_append, ih]; simp [evV]; omega
theorem rowE_at (l : List (Ev × Value)) (i j : Nat) (hi : i < l.length) (hj : j < 7) : (rowE l)[i * 7 + j]? = (evV l[i].1 l[i].2)[j]? := by
  induction l generalizing i with
  | nil => simp at hi
  | cons d l ih =>
    show (evV d.1 d.2 ++ rowE l)[i * 7 + j]? = _
    have hd : (evV d.1 d.2).length = 7 := rfl
    cases i with
    | zero => rw [List.getElem?_append_left (by omega)]; simp
    | succ i =>
      rw [List.getElem?_append_right (by omega), hd, show (i + 1) * 7 + j - 7 = i * 7 + j by omega, ih i (by simpa using hi)]
      rfl
/-- a slice of events that is read -/
def EvsV (w : World) (B : Nat) (v : Value) (L : List Ev) : Prop :=
  ∃ a cap, v = .slice a L.length cap ∧ L.length ≤ cap ∧ cap ≤ maxLen ∧ (a = none → cap = 0) ∧ ∀ i, (hi : i < L.length) → ∃ b off u, a = some ⟨b, off, none⟩ ∧ (∀ j x, (evV L[i] u)[j]? = some x → w.cell? ⟨b, off + (i * 7 + j), none⟩ = some x) ∧ Dat w B u L[i].d
theorem EvsV.ext {w w' : World} {B : Nat} {v : Value} {L : List Ev} (h : EvsV w B v L) (hx : Ext w w') : EvsV w' B v L := by
  obtain ⟨a, cap, e, h1, h2, h4, h3⟩ := h
  refine ⟨a, cap, e, h1, h2, h4, fun i hi => ?_⟩
  obtain ⟨b, off, u, ea, hc, hd⟩ := h3 i hi
  exact ⟨b, off, u, ea, fun j u hu => hx.cell (hc j u hu), hd.ext hx⟩
theorem EvsV.up {w : World} {B B' : Nat} {v : Value} {L : List Ev} (h : EvsV w B v L) (hB : B ≤ B') : EvsV w B' v L := by
  obtain ⟨a, cap, e, h1, h2, h4, h3⟩ := h
  refine ⟨a, cap, e, h1, h2, h4, fun i hi => ?_⟩
  obtain ⟨b, off, u, ea, hc, hd⟩ := h3 i hi
  exact ⟨b, off, u, ea, hc, hd.up hB⟩
theorem EvsV.form {w : World} {B : Nat} {v : Value} {L : List Ev} (h : EvsV w B v L) : ∃ a cap, v = .slice a L.length cap ∧ L.length ≤ cap ∧ cap ≤ maxLen := by
  obtain ⟨a, cap, e, h1, h2, _⟩ := h
  exact ⟨a, cap, e, h1, h2⟩
/-- an event's cells in every later world -/
structure AtE (w : World) (B b o : Nat) (u : Value) (e : Ev) : Prop where
  c0 : w.cell? ⟨b, o, none⟩ = some (.int .i64 e.k)
  c1 : w.cell? ⟨b, o + 1, none⟩ = some (.int .i64 e.t)
  c2 : w.cell? ⟨b, o + 2, none⟩ = some (.int .i64 e.o)
  c3 : w.cell? ⟨b, o + 3, none⟩ = some (.int .i64 e.n)
  c4 : w.cell? ⟨b, o + 4, none⟩ = some (.int .u64 e.p)
  c5 : w.cell? ⟨b, o + 5, none⟩ = some (.int .i64 e.c)
  c6 : w.cell? ⟨b, o + 6, none⟩ = some u
  d : Dat w B u e.d
theorem AtE.ext {w w' : World} {B b o : Nat} {u : Value} {e : Ev} (h : AtE w B b o u e) (hx : Ext w w') : AtE w' B b o u e :=
  ⟨hx.cell h.c0, hx.cell h.c1, hx.cell h.c2, hx.cell h.c3, hx.cell h.c4, hx.cell h.c5, hx.cell h.c6, h.d.ext hx⟩
theorem EvsV.at {w : World} {B : Nat} {a : Option Addr} {m cap : Nat} {L : List Ev} (h : EvsV w B (.slice a m cap) L) {w' : World} (hx : Ext w w') {i : Nat} (hi : i < L.length) : ∃ b off u, a = some ⟨b, off, none⟩ ∧ AtE w' B b (off + i * 7) u L[i] := by
  obtain ⟨a', cap', e, _, _, _, h3⟩ := h
  cases e
  obtain ⟨b, off, u, ea, hc, hd⟩ := h3 i hi
  refine ⟨b, off, u, ea, ⟨hx.cell (hc 0 _ rfl), hx.cell (hc 1 _ rfl), hx.cell (hc 2 _ rfl), hx.cell (hc 3 _ rfl), hx.cell (hc 4 _ rfl), hx.cell (hc 5 _ rfl), hx.cell (hc 6 _ rfl), hd.ext hx⟩⟩
/-- events in memory of one's own -/
def RE (w : World) (B : Nat) (v : Value) (L : List Ev) : Prop := ∃ l : List (Ev × Value), l.map Prod.fst = L ∧ w.ownsRow B 31 7 v l.length (rowE l) ∧ ∀ p ∈ l, Dat w B p.2 p.1.d
theorem RE.nil (w : World) (B : Nat) : RE w B (.slice none 0 0) [] := ⟨[], rfl, World.ownsRow_nil w B 31 7, by simp⟩
theorem RE.lt {w : World} {B : Nat} {v : Value} {L : List Ev} (h : RE w B v L) {k : Nat} (hk : v.ownBlock = some k) : B ≤ k ∧ k < w.heap.size ∧ TagE w k 31 := by
  obtain ⟨l, _, hr, _⟩ := h
  have := World.ownsRow.lt hr k hk
  exact ⟨this.1, this.2, row_tagE hr hk⟩
theorem RE.but {S : Nat → Prop} {w w' : World} {B : Nat} {v : Value} {L : List Ev} (h : RE w B v L) (hb : But S w w') (hs : ∀ k, S k → k < w.heap.size → B ≤ k ∧ TagE w k 31) (hv : ∀ k, v.ownBlock = some k → ¬ S k) : RE w' B v L := by
  obtain ⟨l, e, hr, hd⟩ := h
  exact ⟨l, e, hb.row hr hv, fun p hp => (hd p hp).but hb hs⟩
theorem RE.ext {w w' : World} {B : Nat} {v : Value} {L : List Ev} (h : RE w B v L) (hx : Ext w w') : RE w' B v L := h.but (hx.but fun _ => False) (fun _ h => h.elim) (fun _ _ h => h)
theorem RE.evs {w : World} {B : Nat} {v : Value} {L : List Ev} (h : RE w B v L) : EvsV w B v L := by
  obtain ⟨l, e, hr, hd⟩ := h
  subst e
  rcases hr.2 with ⟨rfl, h0⟩ | ⟨g, cap, cur, rfl, hb, hg, hn, hm, hs, ht⟩
  · exact ⟨none, 0, by rw [List.length_map, h0], by rw [List.length_map]; omega, by unfold maxLen; omega, fun _ => rfl, fun i hi => by rw [List.length_map] at hi; omega⟩
  · refine ⟨_, cap, by rw [List.length_map], by simpa using hn, hm, fun e => (by cases e), fun i hi => ?_⟩
    have hi' : i < l.length := by simpa using hi
    refine ⟨g, 0, l[i].2, rfl, fun j u hu => ?_, ?_⟩
    · have hj : j < 7 := (List.getElem?_eq_some_iff.1 hu).1
      have h1 := rowE_at l i j hi' hj
      rw [List.getElem_map] at hu
      rw [hu, ← ht, List.getElem?_take, if_pos (by omega)] at h1
      rw [Nat.zero_add]
      simp only [World.cell?, hg]
      simpa using h1
    · rw [List.getElem_map]
      exact hd _ (List.getElem_mem hi')
theorem RE.len {w : World} {B : Nat} {v : Value} {L : List Ev} (h : RE w B v L) : ∃ a cap, v = .slice a L.length cap := by
  obtain ⟨a, cap, e, _⟩ := h.evs
  exact ⟨a, cap, e⟩
section
variable {ops : Array Oper} {rest : List Oper} {o : Oper} {a : Act} {Q : Exit → Act → World → Prop}
/-- events put behind one's own -/
theorem appEs (w : World) (hgd : o.guard = none) (s x : Operand) (ho : o.op = .call { callee := .builtin .append, args := #[s, x], argTypes := #[22, 22] }) (B : Nat) (v : Value) (L : List Ev) (hs : a.eval s = v) (hown : RE w B v L) (hB : B ≤ w.heap.size)
    (y : Value) (zs : List Ev) (hx : a.eval x = y) (hy : EvsV w B y zs) (hl : L.length + zs.length ≤ 1000000)
    (h : ∀ v' w', RE w' B v' (L ++ zs) → w.grownBy w' v.ownBlock → (v'.ownBlock = v.ownBlock ∨ v'.ownBlock = some w.heap.size) → wpList Try.prog ops Q rest (a.put o.dst v') w') : wpList Try.prog ops Q (o :: rest) a w := by
  obtain ⟨i0, hi, hz0, hz1, hz2⟩ := info_parts info_ev15
  obtain ⟨l, e, hr, hd⟩ := id hown
  obtain ⟨p, cap, ey, hc1, hc2, hnil, hcell⟩ := hy
  have hbk : ∀ k, v.ownBlock = some k → B ≤ k ∧ TagE w k 31 := fun k hk => ⟨(hown.lt hk).1, (hown.lt hk).2.2⟩
  have hel : L.length = l.length := by rw [← e, List.length_map]
  cases p with
  | none =>
    obtain rfl := hnil rfl
    have h0 : zs.length = 0 := by omega
    have hz : zs = [] := List.eq_nil_of_length_eq_zero h0
    subst hz
    refine wpList_append_own_none hgd s x 22 ho B 31 i0 7 Try.underlying22 hi v l.length (rowE l) hs hr (hx.trans ey) (h v w (by rw [List.append_nil]; exact hown) ⟨rfl, rfl, rfl, Nat.le_refl _, fun _ _ _ => rfl⟩ (.inl rfl))
  | some ad =>
    have hch : ∀ i, ∃ u, (hi : i < zs.length) → (∀ j q, (evV zs[i] u)[j]? = some q → w.cell? (ad.add (i * 7 + j)) = some q) ∧ Dat w B u zs[i].d := by
      intro i
      by_cases hi : i < zs.length
      · obtain ⟨b, off, u, ea, hc, hdd⟩ := hcell i hi
        refine ⟨u, fun _ => ⟨fun j q hq => ?_, hdd⟩⟩
        cases ea
        have := hc j q hq
        simp only [Addr.add]
        split
        · rename_i e; rw [e] at this; exact this
        · simpa using this
      · exact ⟨undef, fun h => absurd h hi⟩
    obtain ⟨U, hU⟩ := Classical.axiomOfChoice hch
    let m : List (Ev × Value) := zs.zipIdx.map fun q => (q.1, U q.2)
    have hml : m.length = zs.length := by simp [m]
    have hmf : m.map Prod.fst = zs := by
      simp only [m, List.map_map]
      apply List.ext_getElem (by simp)
      intro i h1 h2
      simp
    have hmi : ∀ i (hi : i < m.length), m[i] = (zs[i]'(by omega), U i) := by
      intro i hi
      simp [m]
    refine wpList_append_own_at w hgd s x 22 ho B 31 i0 (.agg #[.int .i64 0, .int .i64 0, .int .i64 0, .int .i64 0, .int .u64 0, .int .i64 0, .slice none 0 0]) 7 72 Try.underlying22 hi hz0 hz1 hz2 rfl (by decide) v l.length (rowE l) hs hr ad zs.length cap (rowE m) (hx.trans ey) (by rw [rowE_len, hml]) ?_ ?_ (by unfold maxLen; omega) (by omega) hB ?_
    · intro j q hq
      have hj : j < m.length * 7 := by have := (List.getElem?_eq_some_iff.1 hq).1; rwa [rowE_len] at this
      have h1 := rowE_at m (j / 7) (j % 7) (by omega) (by omega)
      rw [show j / 7 * 7 + j % 7 = j by omega, hq, hmi (j / 7) (by omega)] at h1
      have := (hU (j / 7) (by omega)).1 (j % 7) q h1.symm
      rwa [show j / 7 * 7 + j % 7 = j by omega] at this
    · intro u hu
      obtain ⟨i, hi2, hiu⟩ := List.getElem_of_mem hu
      rw [rowE_len] at hi2
      have h1 := rowE_at m (i / 7) (i % 7) (by omega) (by omega)
      rw [show i / 7 * 7 + i % 7 = i by omega, List.getElem?_eq_getElem (by rw [rowE_len]; omega), hiu, hmi (i / 7) (by omega)] at h1
      have hm2 := List.mem_of_getElem? h1.symm
      have h3 := (hU (i / 7) (by omega)).2.one
      simp only [evV, List.mem_cons, List.mem_nil_iff, or_false] at hm2
      rcases hm2 with rfl | rfl | rfl | rfl | rfl | rfl | rfl
      · rfl
      · rfl
      · rfl
      · rfl
      · rfl
      · rfl
      · exact h3
    · intro v' w' h1 h2 _ h4
      refine h v' w' ⟨l ++ m, by rw [List.map_append, e, hmf], ?_, ?_⟩ h2 h4
      · rw [List.length_append, rowE_app, hml]
        exact h1
      · have bt := but_grown h2
        intro q hq
        rcases List.mem_append.1 hq with hq | hq
        · exact (hd q hq).but bt fun k hk _ => hbk k hk
        · obtain ⟨i, hi2, rfl⟩ := List.getElem_of_mem hq
          rw [hmi i hi2]
          exact ((hU i (by omega)).2).but bt fun k hk _ => hbk k hk
/-- one event put behind one's own -/
theorem appE (w : World) (hgd : o.guard = none) (s x : Operand) (ho : o.op = .call { callee := .builtin .append, args := #[s, x], argTypes := #[22, 22] }) (B : Nat) (v : Value) (L : List Ev) (hs : a.eval s = v) (hown : RE w B v L) (hB : B ≤ w.heap.size)
    (g : Nat) (z : Ev) (u : Value) (hx : a.eval x = .slice (some ⟨g, 0, none⟩) 1 1) (hc : AtE w B g 0 u z) (hl : L.length ≤ 900000)
    (h : ∀ v' w', RE w' B v' (L ++ [z]) → w.grownBy w' v.ownBlock → (v'.ownBlock = v.ownBlock ∨ v'.ownBlock = some w.heap.size) → wpList Try.prog ops Q rest (a.put o.dst v') w') : wpList Try.prog ops Q (o :: rest) a w := by
  refine appEs w hgd s x ho B v L hs hown hB _ [z] hx ⟨_, 1, rfl, Nat.le_refl _, by unfold maxLen; omega, fun e => (by cases e), fun i hi => ?_⟩ (by simp; omega) h
  obtain rfl : i = 0 := by simpa using hi
  refine ⟨g, 0, u, rfl, fun j q hq => ?_, hc.d⟩
  match j, hq with
  | 0, hq => simp [evV] at hq; subst hq; exact hc.c0
  | 1, hq => simp [evV] at hq; subst hq; exact hc.c1
  | 2, hq => simp [evV] at hq; subst hq; exact hc.c2
  | 3, hq => simp [evV] at hq; subst hq; exact hc.c3
  | 4, hq => simp [evV] at hq; subst hq; exact hc.c4
  | 5, hq => simp [evV] at hq; subst hq; exact hc.c5
  | 6, hq => simp [evV] at hq; subst hq; exact hc.c6
  | j + 7, hq => simp [evV] at hq
end
theorem cellE {w : World} {b T : Nat} {cs : Array Value} {j : Nat} {v : Value} (h : w.heap[b]? = some (.cells cs T)) (hv : cs[j]? = some v) : w.cell? ⟨b, j, none⟩ = some v ∧ w.frozen? ⟨b, j, none⟩ = false := by
  constructor
  · simp [World.cell?, h, hv]
  · simp [World.frozen?, h]
/-- a box with an event, which may be written -/
structure BE (w : World) (b : Nat) (k t o n p c : Int) (u : Value) : Prop where
  c0 : w.cell? ⟨b, 0, none⟩ = some (.int .i64 k)
  c1 : w.cell? ⟨b, 1, none⟩ = some (.int .i64 t)
  c2 : w.cell? ⟨b, 2, none⟩ = some (.int .i64 o)
  c3 : w.cell? ⟨b, 3, none⟩ = some (.int .i64 n)
  c4 : w.cell? ⟨b, 4, none⟩ = some (.int .u64 p)
  c5 : w.cell? ⟨b, 5, none⟩ = some (.int .i64 c)
  c6 : w.cell? ⟨b, 6, none⟩ = some u
  z0 : w.frozen? ⟨b, 0, none⟩ = false
  z1 : w.frozen? ⟨b, 1, none⟩ = false
  z2 : w.frozen? ⟨b, 2, none⟩ = false
  z3 : w.frozen? ⟨b, 3, none⟩ = false
  z4 : w.frozen? ⟨b, 4, none⟩ = false
  z5 : w.frozen? ⟨b, 5, none⟩ = false
  z6 : w.frozen? ⟨b, 6, none⟩ = false
theorem BE.of {w : World} {b T : Nat} {k t o n p c : Int} {u : Value} (h : w.heap[b]? = some (.cells #[.int .i64 k, .int .i64 t, .int .i64 o, .int .i64 n, .int .u64 p, .int .i64 c, u] T)) : BE w b k t o n p c u :=
  ⟨(cellE h rfl).1, (cellE h rfl).1, (cellE h rfl).1, (cellE h rfl).1, (cellE h rfl).1, (cellE h rfl).1, (cellE h rfl).1, (cellE (j := 0) h rfl).2, (cellE (j := 1) h rfl).2, (cellE (j := 2) h rfl).2, (cellE (j := 3) h rfl).2, (cellE (j := 4) h rfl).2, (cellE (j := 5) h rfl).2, (cellE (j := 6) h rfl).2⟩
theorem BE.but {S : Nat → Prop} {w w' : World} {b : Nat} {k t o n p c : Int} {u : Value} (h : BE w b k t o n p c u) (hb : But S w w') (hs : ¬ S b) : BE w' b k t o n p c u :=
  ⟨hb.cell h.c0 hs, hb.cell h.c1 hs, hb.cell h.c2 hs, hb.cell h.c3 hs, hb.cell h.c4 hs, hb.cell h.c5 hs, hb.cell h.c6 hs, hb.frozen h.c0 h.z0 hs, hb.frozen h.c1 h.z1 hs, hb.frozen h.c2 h.z2 hs, hb.frozen h.c3 h.z3 hs, hb.frozen h.c4 h.z4 hs, hb.frozen h.c5 h.z5 hs, hb.frozen h.c6 h.z6 hs⟩
theorem BE.ext {w w' : World} {b : Nat} {k t o n p c : Int} {u : Value} (h : BE w b k t o n p c u) (hx : Ext w w') : BE w' b k t o n p c u := h.but (hx.but fun _ => False) id
theorem BE.at {w : World} {b B : Nat} {e : Ev} {u : Value} (h : BE w b e.k e.t e.o e.n e.p e.c u) (hd : Dat w B u e.d) : AtE w B b 0 u e := ⟨h.c0, h.c1, h.c2, h.c3, h.c4, h.c5, h.c6, hd⟩
/-- the cells of a block just made -/
theorem at_new {w : World} {B : Nat} {T : Nat} {z : Ev} {u : Value} (hd : Dat w B u z.d) : AtE (w.alloc (.cells (evV z u).toArray T)) B w.heap.size 0 u z := by
  have h0 : (w.alloc (.cells (evV z u).toArray T)).heap[w.heap.size]? = some (.cells (evV z u).toArray T) := World.alloc_heap_new w _
  exact ⟨(cellE h0 rfl).1, (cellE h0 rfl).1, (cellE h0 rfl).1, (cellE h0 rfl).1, (cellE h0 rfl).1, (cellE h0 rfl).1, (cellE h0 rfl).1, hd.ext ((Ext.refl w).alloc _)⟩
/-- an event with a copy of some data -/
def GivesE (w : World) (e : Ev) (end_ : Ending) (w' : World) : Prop := ∃ u, end_ = .returned (evA e u) ∧ RJ w' w.heap.size u e.d ∧ Ext w w'
theorem eWith (x : Ev) (u0 v : Value) (d : List Int) (w : World) {B : Nat} (hv : Dat w B v d) (hl : d.length ≤ 1000000) : Calls Try.prog 34 #[evA x u0, v] w (GivesE w { x with d := d }) := by
  have HV := Lib.hid hv
  have HL := Lib.hid hl
  clear hv hl
  have HG : Hid (∀ u w', RJ w' w.heap.size u d → Ext w w' → GivesE w { x with d := d } (.returned (.agg #[.int .i64 x.k, .int .i64 x.t, .int .i64 x.o, .int .i64 x.n, .int .u64 x.p, .int .i64 x.c, u])) w') := Lib.hid (fun u w' h1 h2 => ⟨u, rfl, h1, h2⟩)
  generalize GivesE w { x with d := d } = G at *
  unfold evA
  generalize x.k = k at *
  generalize x.t = t at *
  generalize x.o = o at *
  generalize x.n = n at *
  generalize x.p = p at *
  generalize x.c = c at *
  go_enter Try.func34, Try.ntmps34
  go_wp2_with (at_builtin; refine appJ _ rfl _ _ rfl w.heap.size (.slice none 0 0) [] rfl (RJ.nil _ _) (by simp; omega) v d rfl (HV.out.ext (((Ext.refl w).alloc _).alloc _)) (by have := HL.out; simpa using this) ?_)
  intro v' w' h1 h2 h4
  have h5 : ∀ k, v'.ownBlock = some k → k = w.heap.size + 1 + 1 := fun k hk => by
    rcases h4 with h4 | h4
    · rw [hk] at h4; cases h4
    · rw [hk] at h4; simpa using h4
  have H5 := Lib.hid h5
  clear h4 h5
  have X2 : Ext w w' := (((Ext.refl w).alloc _).alloc _).grown h2 (fun k hk => by cases hk)
  have X3 := (Ext.refl ((w.alloc (.cells #[.int .i64 k, .int .i64 t, .int .i64 o, .int .i64 n, .int .u64 p, .int .i64 c, u0] 31)).alloc (.cells #[.int .i64 0, .int .i64 0, .int .i64 0, .int .i64 0, .int .u64 0, .int .i64 0, .slice none 0 0] 31))).grown h2 (fun k hk => by cases hk)
  obtain ⟨p', c', rfl⟩ := (h1.dat (B' := 0)).len
  have H1 := Lib.hid h1
  clear h2 h1
  obtain ⟨q0, q1, q2, q3, q4, q5, q6, z0, z1, z2, z3, z4, z5, z6⟩ := (BE.of ((heap_alloc_old _ _ (by simp)).trans (World.alloc_heap_new w _)) : BE ((w.alloc (.cells #[.int .i64 k, .int .i64 t, .int .i64 o, .int .i64 n, .int .u64 p, .int .i64 c, u0] 31)).alloc (.cells #[.int .i64 0, .int .i64 0, .int .i64 0, .int .i64 0, .int .u64 0, .int .i64 0, .slice none 0 0] 31)) w.heap.size k t o n p c u0).ext X3
  have b1 := World.alloc_heap_new (w.alloc (.cells #[.int .i64 k, .int .i64 t, .int .i64 o, .int .i64 n, .int .u64 p, .int .i64 c, u0] 31)) (.cells #[.int .i64 0, .int .i64 0, .int .i64 0, .int .i64 0, .int .u64 0, .int .i64 0, .slice none 0 0] 31)
  rw [show (w.alloc (.cells #[.int .i64 k, .int .i64 t, .int .i64 o, .int .i64 n, .int .u64 p, .int .i64 c, u0] 31)).heap.size = w.heap.size + 1 by simp] at b1
  obtain ⟨r0, r1, r2, r3, r4, r5, r6, y0, y1, y2, y3, y4, y5, y6⟩ := (BE.of b1).ext X3
  clear b1 X3
  go_wp2
  refine bodyPost_ret (v := .agg #[.int .i64 k, .int .i64 t, .int .i64 o, .int .i64 n, .int .u64 p, .int .i64 c, .slice p' d.length c']) (by simp [results, Try.results34, go_sem, r0, r1, r2, r3, r4, r5, r6]) rfl (HG.out _ _ ?_ ?_)
  · repeat refine RJ.set ?_ (fun k hk => by have := H5.out k hk; omega)
    exact H1.out
  · repeat (first | with_reducible exact Ext.refl _ | with_reducible assumption | with_reducible refine Ext.alloc ?_ _ | with_reducible refine Ext.drew ?_ | with_reducible refine Ext.drewN ?_ _ | with_reducible refine Ext.setCell ?_ (by simp <;> omega) _ | with_reducible refine Ext.trans ?_ (by assumption))
end Go.Proofs.Ytkbbneknblnbnaa

/- Puts that go on made one: on lists; rows of events whose data lie apart, in memory of one's own. -/
import Derived.Test.YtkbbneknblnbnaaEv1
import Derived.Test.YtkbbneknblnbnaaWMath
import Derived.Laws.OwnMore
namespace Go.Proofs.Ytkbbneknblnbnaa
open Go.RowKit
set_option linter.unusedVariables false
set_option linter.unusedSimpArgs false
set_option maxHeartbeats 1000000
def plusW (W p n : Int) : Int := if W = 32 then (p + n) % 4294967296 else U64 (p + n)
/-- is the second one a put that begins where the first one ends? -/
def goOn (W : Int) (x y : Ev) : Bool := decide (x.k = 5) && (decide (y.k = 5) && (decide (x.t = y.t) && decide (y.p = plusW W x.p x.n)))
def addE (x y : Ev) : Ev := { x with n := D64 (x.n + y.n), d := x.d ++ y.d }
def mst (W : Int) (s : List Ev × Option Ev) (e : Ev) : List Ev × Option Ev :=
  match s.2 with
  | none => (s.1, some e)
  | some l => if goOn W l e = true then (s.1, some (addE l e)) else (s.1 ++ [l], some e)
theorem mst_yes {W : Int} {D : List Ev} {l e : Ev} (h : goOn W l e = true) : mst W (D, some l) e = (D, some (addE l e)) := if_pos h
theorem mst_no {W : Int} {D : List Ev} {l e : Ev} (h : ¬ goOn W l e = true) : mst W (D, some l) e = (D ++ [l], some e) := if_neg h
def outM (s : List Ev × Option Ev) : List Ev := s.1 ++ s.2.toList
def mrun (W : Int) (L : List Ev) : List Ev × Option Ev := L.foldl (mst W) ([], none)
def merged (W : Int) (L : List Ev) : List Ev := outM (mrun W L)
theorem mrun_snoc (W : Int) {L : List Ev} {k : Nat} (hk : k < L.length) : mrun W (L.take (k + 1)) = mst W (mrun W (L.take k)) L[k] := by
  unfold mrun
  rw [List.take_succ_eq_append_getElem hk, List.foldl_append]
  rfl
def tot (L : List Ev) : Nat := (L.map fun e => e.d.length).sum
theorem tot_app (a b : List Ev) : tot (a ++ b) = tot a + tot b := by simp [tot]
theorem tot_one (e : Ev) : tot [e] = e.d.length := by simp [tot]
theorem tot_mem {L : List Ev} {e : Ev} (h : e ∈ L) : e.d.length ≤ tot L := by
  induction L with
  | nil => cases h
  | cons a l ih =>
    have : tot (a :: l) = a.d.length + tot l := by simp [tot]
    rcases List.mem_cons.1 h with rfl | h
    · omega
    · have := ih h; omega
theorem tot_take (L : List Ev) (k : Nat) : tot (L.take k) ≤ tot L := by
  have := tot_app (L.take k) (L.drop k)
  rw [List.take_append_drop] at this
  omega
theorem mst_tot (W : Int) (s : List Ev × Option Ev) (e : Ev) : tot (outM (mst W s e)) = tot (outM s) + e.d.length := by
  obtain ⟨D, c⟩ := s
  cases c with
  | none => show tot (D ++ [e]) = tot (D ++ []) + _; rw [tot_app, tot_one, List.append_nil]
  | some l =>
    by_cases h : goOn W l e = true
    · rw [mst_yes h]
      show tot (D ++ [addE l e]) = tot (D ++ [l]) + _
      rw [tot_app, tot_app, tot_one, tot_one]
      simp [addE]
      omega
    · rw [mst_no h]
      show tot (D ++ [l] ++ [e]) = tot (D ++ [l]) + _
      rw [tot_app (D ++ [l]), tot_one]
theorem mrun_tot (W : Int) (L : List Ev) : tot (merged W L) = tot L := by
  have : ∀ (l : List Ev) (s : List Ev × Option Ev), tot (outM (l.foldl (mst W) s)) = tot (outM s) + tot l := by
    intro l
    induction l with
    | nil => intro s; simp [tot]
    | cons a l ih =>
      intro s
      rw [List.foldl_cons, ih, mst_tot]
      have : tot (a :: l) = a.d.length + tot l := by simp [tot]
      omega
  unfold merged mrun
  rw [this]
  simp [outM, tot]
theorem mst_len (W : Int) (s : List Ev × Option Ev) (e : Ev) : (outM (mst W s e)).length ≤ (outM s).length + 1 := by
  obtain ⟨D, c⟩ := s
  cases c with
  | none => show (D ++ [e]).length ≤ (D ++ []).length + 1; simp
  | some l =>
    by_cases h : goOn W l e = true
    · rw [mst_yes h]; show (D ++ [addE l e]).length ≤ (D ++ [l]).length + 1; simp
    · rw [mst_no h]; show (D ++ [l] ++ [e]).length ≤ (D ++ [l]).length + 1; simp
theorem mrun_len (W : Int) (L : List Ev) : (merged W L).length ≤ L.length := by
  have : ∀ (l : List Ev) (s : List Ev × Option Ev), (outM (l.foldl (mst W) s)).length ≤ (outM s).length + l.length := by
    intro l
    induction l with
    | nil => intro s; simp
    | cons a l ih =>
      intro s
      rw [List.foldl_cons]
      have h1 := ih (mst W s a)
      have h2 := mst_len W s a
      simp
      omega
  have := this L ([], none)
  simpa [merged, mrun, outM] using this
/-- no two neighbours go on -/
def noGo (W : Int) : List Ev → Prop
  | [] => True
  | [_] => True
  | x :: y :: l => goOn W x y = false ∧ noGo W (y :: l)
theorem noGo_snoc {W : Int} {a b : Ev} : ∀ {D : List Ev}, noGo W (D ++ [a]) → goOn W a b = false → noGo W (D ++ [a] ++ [b])
  | [], _, h => ⟨h, trivial⟩
  | [x], h0, h => ⟨h0.1, h, trivial⟩
  | x :: y :: D, h0, h => ⟨h0.1, noGo_snoc (D := y :: D) h0.2 h⟩
theorem noGo_last {W : Int} {a b : Ev} (h : ∀ x, goOn W x b = goOn W x a) : ∀ {D : List Ev}, noGo W (D ++ [a]) → noGo W (D ++ [b])
  | [], _ => trivial
  | [x], h0 => ⟨(h x).trans h0.1, trivial⟩
  | x :: y :: D, h0 => ⟨h0.1, noGo_last h (D := y :: D) h0.2⟩
theorem mst_noGo {W : Int} {s : List Ev × Option Ev} {e : Ev} (h : noGo W (outM s)) (h0 : s.2 = none → s.1 = []) : noGo W (outM (mst W s e)) ∧ ((mst W s e).2 = none → (mst W s e).1 = []) := by
  obtain ⟨D, c⟩ := s
  cases c with
  | none =>
    have : D = [] := h0 rfl
    subst this
    exact ⟨trivial, fun h => by cases h⟩
  | some l =>
    by_cases hg : goOn W l e = true
    · rw [mst_yes hg]
      exact ⟨noGo_last (fun x => rfl) (D := D) (a := l) (b := addE l e) h, fun h => by cases h⟩
    · rw [mst_no hg]
      exact ⟨noGo_snoc (D := D) h (by simpa using hg), fun h => by cases h⟩
theorem merged_noGo (W : Int) (L : List Ev) : noGo W (merged W L) := by
  have : ∀ (l : List Ev) (s : List Ev × Option Ev), noGo W (outM s) → (s.2 = none → s.1 = []) → noGo W (outM (l.foldl (mst W) s)) := by
    intro l
    induction l with
    | nil => intro s h _; exact h
    | cons a l ih =>
      intro s h h0
      obtain ⟨h1, h2⟩ := mst_noGo (e := a) h h0
      exact ih _ h1 h2
  exact this L ([], none) trivial (fun _ => rfl)
theorem fold_noGo {W : Int} : ∀ (l : List Ev) (D : List Ev) (a : Ev), noGo W (a :: l) → outM (l.foldl (mst W) (D, some a)) = D ++ a :: l
  | [], D, a, _ => rfl
  | b :: l, D, a, h => by
    have e : mst W (D, some a) b = (D ++ [a], some b) := mst_no (by simp [h.1])
    rw [List.foldl_cons, e, fold_noGo l (D ++ [a]) b h.2]
    simp
/-- merged once more nothing changes -/
theorem merged_again (W : Int) (L : List Ev) : merged W (merged W L) = merged W L := by
  have h := merged_noGo W L
  generalize merged W L = M at *
  cases M with
  | nil => rfl
  | cons a l =>
    show outM (l.foldl (mst W) (mst W ([], none) a)) = _
    exact fold_noGo l [] a h
/-! in memory -/
def Apart (l : List (Ev × Value)) : Prop := ∀ (i j : Nat) (p q : Ev × Value), i ≠ j → l[i]? = some p → l[j]? = some q → ∀ g, p.2.ownBlock = some g → q.2.ownBlock ≠ some g
/-- events in memory of one's own, each one's data too, apart -/
def RM (w : World) (B : Nat) (v : Value) (L : List Ev) : Prop := ∃ l : List (Ev × Value), l.map Prod.fst = L ∧ w.ownsRow B 31 7 v l.length (rowE l) ∧ (∀ p ∈ l, RJ w B p.2 p.1.d) ∧ Apart l
theorem RM.nil (w : World) (B : Nat) : RM w B (.slice none 0 0) [] := ⟨[], rfl, World.ownsRow_nil w B 31 7, by simp, fun i j p q _ h => by simp at h⟩
theorem RM.re {w : World} {B : Nat} {v : Value} {L : List Ev} (h : RM w B v L) : RE w B v L := by
  obtain ⟨l, e, hr, hd, _⟩ := h
  exact ⟨l, e, hr, fun p hp => (hd p hp).dat⟩
theorem RJ.but {S : Nat → Prop} {w w' : World} {B : Nat} {u : Value} {d : List Int} (h : RJ w B u d) (hb : But S w w') (hs : ∀ g, u.ownBlock = some g → ¬ S g) : RJ w' B u d := hb.row h hs
theorem RM.ext {w w' : World} {B : Nat} {v : Value} {L : List Ev} (h : RM w B v L) (hx : Ext w w') : RM w' B v L := by
  obtain ⟨l, e, hr, hd, ha⟩ := h
  exact ⟨l, e, row_ext hx hr, fun p hp => (hd p hp).ext hx, ha⟩
theorem RJ.lower {w : World} {B B' : Nat} {u : Value} {d : List Int} (h : RJ w B u d) (hB : B' ≤ B) : RJ w B' u d := by
  refine ⟨h.1, ?_⟩
  rcases h.2 with hn | ⟨g, cap, cur, h1, h2, rest⟩
  · exact .inl hn
  · exact .inr ⟨g, cap, cur, h1, Nat.le_trans hB h2, rest⟩
theorem apart_snoc {l : List (Ev × Value)} {p : Ev × Value} (h : Apart l) (hp : ∀ q ∈ l, ∀ g, q.2.ownBlock = some g → p.2.ownBlock ≠ some g) : Apart (l ++ [p]) := by
  intro i j a b hij ha hb g hg hg'
  have key : ∀ (i : Nat) (a : Ev × Value), (l ++ [p])[i]? = some a → (i < l.length ∧ l[i]? = some a) ∨ (i = l.length ∧ a = p) := by
    intro i a h
    by_cases hi : i < l.length
    · rw [List.getElem?_append_left hi] at h
      exact .inl ⟨hi, h⟩
    · have hi2 : i < l.length + 1 := by have := (List.getElem?_eq_some_iff.1 h).1; simpa using this
      obtain rfl : i = l.length := by omega
      simp at h
      exact .inr ⟨rfl, h.symm⟩
  rcases key i a ha with ⟨_, h1⟩ | ⟨h1, h1'⟩ <;> rcases key j b hb with ⟨_, h2⟩ | ⟨h2, h2'⟩
  · exact h i j a b hij h1 h2 g hg hg'
  · subst h2'; exact hp a (List.mem_of_getElem? h1) g hg hg'
  · subst h1'; exact hp b (List.mem_of_getElem? h2) g hg' hg
  · omega
theorem apart_front {l : List (Ev × Value)} {p : Ev × Value} (h : Apart (l ++ [p])) : Apart l ∧ ∀ q ∈ l, ∀ g, q.2.ownBlock = some g → p.2.ownBlock ≠ some g := by
  refine ⟨fun i j a b hij ha hb => ?_, fun q hq g hg => ?_⟩
  · have hi := (List.getElem?_eq_some_iff.1 ha).1
    have hj := (List.getElem?_eq_some_iff.1 hb).1
    exact h i j a b hij (by rw [List.getElem?_append_left hi]; exact ha) (by rw [List.getElem?_append_left hj]; exact hb)
  · obtain ⟨i, hi, e⟩ := List.getElem_of_mem hq
    exact h i l.length q p (by omega) (by rw [List.getElem?_append_left hi, List.getElem?_eq_getElem hi, e]) (by simp) g hg
section
variable {ops : Array Oper} {rest : List Oper} {o : Oper} {a : Act} {Q : Exit → Act → World → Prop}
/-- one event with data of its own put behind one's own -/
theorem appM (w0 w : World) (hgd : o.guard = none) (s x : Operand) (ho : o.op = .call { callee := .builtin .append, args := #[s, x], argTypes := #[22, 22] }) (B : Nat) (v : Value) (L : List Ev) (hs : a.eval s = v) (hown : RM w0 B v L) (hB : B ≤ w0.heap.size) (hx0 : Ext w0 w)
    (g : Nat) (z : Ev) (u : Value) (hx : a.eval x = .slice (some ⟨g, 0, none⟩) 1 1) (hc : AtE w B g 0 u z) (hu : RJ w w0.heap.size u z.d) (hl : L.length ≤ 900000)
    (h : ∀ v' w', RM w' B v' (L ++ [z]) → w.grownBy w' v.ownBlock → wpList Try.prog ops Q rest (a.put o.dst v') w') : wpList Try.prog ops Q (o :: rest) a w := by
  obtain ⟨i0, hi, hz0, hz1, hz2⟩ := info_parts info_ev15
  have hre := (hown.ext hx0).re
  obtain ⟨l, e, hr0, hd0, ha⟩ := hown
  have hr := row_ext hx0 hr0
  have hd : ∀ p ∈ l, RJ w B p.2 p.1.d := fun p hp => (hd0 p hp).ext hx0
  have hel : L.length = l.length := by rw [← e, List.length_map]
  refine wpList_append_own_at w hgd s x 22 ho B 31 i0 (.agg #[.int .i64 0, .int .i64 0, .int .i64 0, .int .i64 0, .int .u64 0, .int .i64 0, .slice none 0 0]) 7 72 Try.underlying22 hi hz0 hz1 hz2 rfl (by decide) v l.length (rowE l) hs hr ⟨g, 0, none⟩ 1 1 (evV z u) hx rfl ?_ ?_ (by unfold maxLen; omega) (by omega) (Nat.le_trans hB hx0.size) ?_
  · intro j q hq
    have : w.cell? ⟨g, j, none⟩ = some q := by
      match j, hq with
      | 0, hq => simp [evV] at hq; subst hq; exact hc.c0
      | 1, hq => simp [evV] at hq; subst hq; exact hc.c1
      | 2, hq => simp [evV] at hq; subst hq; exact hc.c2
      | 3, hq => simp [evV] at hq; subst hq; exact hc.c3
      | 4, hq => simp [evV] at hq; subst hq; exact hc.c4
      | 5, hq => simp [evV] at hq; subst hq; exact hc.c5
      | 6, hq => simp [evV] at hq; subst hq; exact hc.c6
      | j + 7, hq => simp [evV] at hq
    simp only [Addr.add]
    split
    · rename_i e; subst e; exact this
    · simpa using this
  · intro q hq
    simp only [evV, List.mem_cons, List.mem_nil_iff, or_false] at hq
    rcases hq with rfl | rfl | rfl | rfl | rfl | rfl | rfl
    all_goals first | rfl | exact hc.d.one
  · intro v' w' h1 h2 _ h4
    have bt := but_grown h2
    have off : ∀ q d B', RJ w B' q d → ∀ k, q.ownBlock = some k → ¬ v.ownBlock = some k := fun q d B' hq k hk e => by
      exact (row_tagE hq hk).ne (hre.lt e).2.2 (by decide) rfl
    refine h v' w' ⟨l ++ [(z, u)], by rw [List.map_append, e]; rfl, ?_, ?_, ?_⟩ h2
    · rw [List.length_append, rowE_app]
      simpa [rowE] using h1
    · intro q hq
      rcases List.mem_append.1 hq with hq | hq
      · exact (hd q hq).but bt (off _ _ _ (hd q hq))
      · obtain rfl : q = (z, u) := by simpa using hq
        exact (hu.lower hB).but bt (off _ _ _ hu)
    · refine apart_snoc ha fun q hq k hk hk' => ?_
      have k1 := (World.ownsRow.lt hu k hk').1
      have k2 := (World.ownsRow.lt (hd0 q hq) k hk).2
      omega
end
theorem rowE_last_set (l0 : List (Ev × Value)) (x x' : Ev) (u u' q : Value) (j : Nat) (hj : j < 7) (h : (evV x u).set j q = evV x' u') : (rowE (l0 ++ [(x, u)])).set (l0.length * 7 + j) q = rowE (l0 ++ [(x', u')]) := by
  rw [rowE_app, rowE_app, List.set_append_right _ _ (by rw [rowE_len]; omega), rowE_len, Nat.add_sub_cancel_left]
  have e : ∀ y : Ev × Value, rowE [y] = evV y.1 y.2 := fun y => by simp [rowE]
  rw [e, e, h]
/-- the last one: where it lies, and what comes of writes to it -/
theorem RM.last {w : World} {B : Nat} {v : Value} {D : List Ev} {x : Ev} (h : RM w B v (D ++ [x])) : ∃ g cap u, v = .slice (some ⟨g, 0, none⟩) (D.length + 1) cap ∧ AtE w B g (D.length * 7) u x ∧ (∀ j, w.frozen? ⟨g, j, none⟩ = false) ∧ RJ w B u x.d ∧ B ≤ g ∧ TagE w g 31 ∧
    (∀ w', w.grownBy w' u.ownBlock → w'.cell? ⟨g, D.length * 7 + 6, none⟩ = some u ∧ w'.frozen? ⟨g, D.length * 7 + 6, none⟩ = false) ∧
    (∀ n', RM (w.setCell ⟨g, D.length * 7 + 3, none⟩ (.int .i64 n')) B v (D ++ [{ x with n := n' }])) ∧
    (∀ w' u' zs, RJ w' B u' (x.d ++ zs) → w.grownBy w' u.ownBlock → (u'.ownBlock = u.ownBlock ∨ u'.ownBlock = some w.heap.size) → RM (w'.setCell ⟨g, D.length * 7 + 6, none⟩ u') B v (D ++ [{ x with d := x.d ++ zs }])) := by
  obtain ⟨l, e, hr, hd, ha⟩ := h
  obtain ⟨l0, l1, rfl, e0, e1⟩ := List.map_eq_append_iff.1 e
  obtain ⟨⟨x', u⟩, rfl, ex⟩ : ∃ p : Ev × Value, l1 = [p] ∧ p.1 = x := by
    match l1, e1 with
    | [p], e1 => simp at e1; exact ⟨p, rfl, e1⟩
  simp only at ex
  subst ex
  have hl0 : D.length = l0.length := by rw [← e0, List.length_map]
  have hlen : (l0 ++ [(x', u)]).length = D.length + 1 := by simp [hl0]
  have hux : RJ w B u x'.d := hd (x', u) (by simp)
  rcases hr.2 with ⟨_, h0⟩ | ⟨g, cap, cur, ev, hB, hg, hn, hm, hs, ht⟩
  · rw [hlen] at h0; omega
  have tg : TagE w g 31 := ⟨_, hg⟩
  have hru : rowE (l0 ++ [(x', u)]) = rowE l0 ++ evV x' u := by rw [rowE_app]; simp [rowE]
  have cells : ∀ j q, (evV x' u)[j]? = some q → w.cell? ⟨g, D.length * 7 + j, none⟩ = some q := fun j q hq => by
    have hj : j < 7 := (List.getElem?_eq_some_iff.1 hq).1
    rw [ev] at hr
    rw [hr.cellAt (D.length * 7 + j) (by rw [hlen]; omega), hru, List.getElem?_append_right (by rw [rowE_len]; omega), rowE_len, hl0, Nat.add_sub_cancel_left]
    exact hq
  refine ⟨g, cap, u, by rw [ev, hlen], ⟨cells 0 _ rfl, cells 1 _ rfl, cells 2 _ rfl, cells 3 _ rfl, cells 4 _ rfl, cells 5 _ rfl, cells 6 _ rfl, hux.dat⟩, fun j => (by rw [ev] at hr; exact hr.frozenAt j), hux, hB, tg, fun w' hgr => ?_, fun n' => ?_, fun w' u' zs hu' hgr hat => ?_⟩
  · have bt := but_grown hgr
    have ngu : ¬ u.ownBlock = some g := fun e => (row_tagE hux e).ne tg (by decide) rfl
    have c6 := cells 6 _ rfl
    exact ⟨bt.cell c6 ngu, bt.frozen c6 (by rw [ev] at hr; exact hr.frozenAt _) ngu⟩
  · have hb := but_setCell w ⟨g, D.length * 7 + 3, none⟩ (.int .i64 n')
    refine ⟨l0 ++ [({ x' with n := n' }, u)], by rw [List.map_append, e0]; rfl, ?_, ?_, ?_⟩
    · have hr2 := hr
      rw [ev] at hr2 ⊢
      have := (hr2.stored (D.length * 7 + 3) (.int .i64 n')).1
      rw [hl0, rowE_last_set l0 x' { x' with n := n' } u u (.int .i64 n') 3 (by decide) rfl] at this
      rw [hl0]
      simpa using this
    · have key : ∀ q ∈ l0 ++ [(x', u)], RJ (w.setCell ⟨g, D.length * 7 + 3, none⟩ (.int .i64 n')) B q.2 q.1.d := fun q hq => (hd q hq).but hb fun k hk e => (row_tagE (hd q hq) hk).ne tg (by decide) (by simpa using e)
      intro q hq
      rcases List.mem_append.1 hq with hq | hq
      · exact key q (List.mem_append_left _ hq)
      · obtain rfl : q = ({ x' with n := n' }, u) := by simpa using hq
        exact key (x', u) (by simp)
    · obtain ⟨a1, a2⟩ := apart_front ha
      exact apart_snoc a1 a2
  · have bt := but_grown hgr
    have ngu : ¬ u.ownBlock = some g := fun e => (row_tagE hux e).ne tg (by decide) rfl
    have tg' : TagE w' g 31 := tg.but bt ngu
    have hb := but_setCell w' ⟨g, D.length * 7 + 6, none⟩ u'
    have hr' := bt.row hr (fun k hk => by rw [ev] at hk; simp [Value.ownBlock] at hk; subst hk; exact ngu)
    obtain ⟨a1, a2⟩ := apart_front ha
    refine ⟨l0 ++ [({ x' with d := x'.d ++ zs }, u')], by rw [List.map_append, e0]; rfl, ?_, ?_, ?_⟩
    · rw [ev] at hr' ⊢
      have := (hr'.stored (D.length * 7 + 6) u').1
      rw [hl0, rowE_last_set l0 x' { x' with d := x'.d ++ zs } u u' u' 6 (by decide) rfl] at this
      rw [hl0]
      simpa using this
    · intro q hq
      rcases List.mem_append.1 hq with hq | hq
      · have h1 := hd q (List.mem_append_left _ hq)
        have h2 : RJ w' B q.2 q.1.d := h1.but bt fun k hk e => a2 q hq k hk e
        exact h2.but hb fun k hk e => (row_tagE h2 hk).ne tg' (by decide) (by simpa using e)
      · obtain rfl : q = ({ x' with d := x'.d ++ zs }, u') := by simpa using hq
        exact hu'.but hb fun k hk e => (row_tagE hu' hk).ne tg' (by decide) (by simpa using e)
    · refine apart_snoc a1 fun q hq k hk hk' => ?_
      have k2 := (World.ownsRow.lt (hd q (List.mem_append_left _ hq)) k hk).2
      rcases hat with hat | hat
      · exact a2 q hq k hk (by rw [← hat]; exact hk')
      · rw [hat] at hk'; cases hk'; omega
theorem RM.lastM {m : Nat} {w : World} {B : Nat} {v : Value} {D : List Ev} {x : Ev} (h : RM w B v (D ++ [x])) (hm : m = D.length) : ∃ g cap u, v = .slice (some ⟨g, 0, none⟩) (m + 1) cap ∧ AtE w B g (m * 7) u x ∧ (∀ j, w.frozen? ⟨g, j, none⟩ = false) ∧ RJ w B u x.d ∧ B ≤ g ∧ TagE w g 31 ∧
    (∀ w', w.grownBy w' u.ownBlock → w'.cell? ⟨g, m * 7 + 6, none⟩ = some u ∧ w'.frozen? ⟨g, m * 7 + 6, none⟩ = false) ∧
    (∀ n', RM (w.setCell ⟨g, m * 7 + 3, none⟩ (.int .i64 n')) B v (D ++ [{ x with n := n' }])) ∧
    (∀ w' u' zs, RJ w' B u' (x.d ++ zs) → w.grownBy w' u.ownBlock → (u'.ownBlock = u.ownBlock ∨ u'.ownBlock = some w.heap.size) → RM (w'.setCell ⟨g, m * 7 + 6, none⟩ u') B v (D ++ [{ x with d := x.d ++ zs }])) := by
  subst hm
  exact h.last
end Go.Proofs.Ytkbbneknblnbnaa

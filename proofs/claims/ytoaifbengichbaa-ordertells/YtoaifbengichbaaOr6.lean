/- One place more in the map: mapEntry, then entryStore. -/
import Derived.Test.YtoaifbengichbaaOr5
namespace Go.Proofs.Ytoaifbengichbaa
open Go.RowKit Go.ChangeShapes Go.ChangeMaps
open Go.WideElems (Fit rd rg rd_key rd_val rg_of)
set_option linter.unusedVariables false
set_option linter.unusedSimpArgs false
set_option maxHeartbeats 1000000
theorem setBlock_twice (w : World) (b : Nat) (o o' : Obj) : setBlock (setBlock w b o) b o' = setBlock w b o' := by simp [setBlock]
theorem grown_setBlock {w : World} {b : Nat} {es : Array MapEntry} {ck : Nat} (hb : w.heap[b]? = some (.map es ck)) (o : Obj) : w.grownBy (setBlock w b o) (some b) :=
  ⟨rfl, rfl, rfl, by simp [setBlock], fun i _ hi => heap_setBlock_other hb _ (fun e => hi (by rw [e]))⟩
section
variable {H : Type} {P : Program} {t k e : TypeId} {R : Value → Option (DataW H × List MemPlace)} {b : Nat} {es : Array MapEntry} {ck : Nat}
theorem entry_at {kl : Lit} {key : Value} (KL : WideMaps.KeyLaw P k) (K : Maps.Keyed P k) (F : Fit P k R es ck) (hkey : keyOf P k key = some kl) {i j : Nat} {x y : MapEntry} (hx : es.toList[i]? = some x) (hy : es.toList[j]? = some y) (ex : x.key = key) (ey : y.key = key) : i = j := by
  have hp := F.apart KL
  have one : ∀ {n : Nat} {z : MapEntry}, es.toList[n]? = some z → z.key = key → (rg P k R z).1 = kl := fun {n z} hz ez => by
    obtain ⟨q, hq⟩ := F.reads z (List.mem_of_getElem? hz)
    have := rd_key hq
    rw [ez, hkey] at this
    rw [rg_of hq]
    exact (Option.some.inj this).symm
  have hi := one hx ex
  have hj := one hy ey
  rw [List.pairwise_iff_getElem] at hp
  have li := (List.getElem?_eq_some_iff.1 hx)
  have lj := (List.getElem?_eq_some_iff.1 hy)
  obtain ⟨li, ei⟩ := li
  obtain ⟨lj, ej⟩ := lj
  rcases Nat.lt_trichotomy i j with h | h | h
  · have := hp i j (by simpa using li) (by simpa using lj) h
    simp only [List.getElem_map] at this
    rw [ei, ej, hi, hj] at this
    exact absurd rfl this
  · exact h
  · have := hp j i (by simpa using lj) (by simpa using li) h
    simp only [List.getElem_map] at this
    rw [ei, ej, hi, hj] at this
    exact absurd rfl this
/-- a store into a map looks at the map alone -/
theorem update_local (KL : WideMaps.KeyLaw P k) (K : Maps.Keyed P k) (ht : P.underlying t = some (.map k e)) {w X : World} (hb : w.heap[b]? = some (.map es ck)) (hX : X.heap[b]? = some (.map es ck)) (F : Fit P k R es ck) {key val : Value} {kl : Lit} (hkey : keyOf P k key = some kl)
    {es' : Array MapEntry} {ck' : Nat} (h : (Instr.mapUpdate t (.map (some b)) key val).run P w = .ok () (setBlock w b (.map es' ck'))) : (Instr.mapUpdate t (.map (some b)) key val).run P X = .ok () (setBlock X b (.map es' ck')) := by
  have fin : ∀ (E : Array MapEntry) (C : Nat), (Instr.mapUpdate t (.map (some b)) key val).run P w = .ok () (setBlock w b (.map E C)) → (Instr.mapUpdate t (.map (some b)) key val).run P X = .ok () (setBlock X b (.map E C)) → (Instr.mapUpdate t (.map (some b)) key val).run P X = .ok () (setBlock X b (.map es' ck')) := fun E C h1 h2 => by
    rw [h1] at h
    simp only [Result.ok.injEq, true_and] at h
    have h3 := heap_setBlock_same hb (.map E C)
    rw [h, heap_setBlock_same hb] at h3
    cases h3
    exact h2
  rcases K.find w hkey es.toList F.keys with ⟨h1, h2⟩ | ⟨j, e0, h1, h2, h3⟩ <;> rcases K.find X hkey es.toList F.keys with ⟨g1, g2⟩ | ⟨j', e1, g1, g2, g3⟩
  · refine fin (es.push ⟨key, val, ck⟩) (ck + 1) ?_ ?_
    · simp [Instr.mapUpdate, run_underlying ht, MapKept.run_getObj_map hb, K.check w false hkey, h1, MapKept.run_setObj_map _ hb, Result.andThen, setBlock]
    · simp [Instr.mapUpdate, run_underlying ht, MapKept.run_getObj_map hX, K.check X false hkey, g1, MapKept.run_setObj_map _ hX, Result.andThen, setBlock]
  · exact absurd g3 (h2 e1 (List.mem_of_getElem? g2))
  · exact absurd h3 (g2 e0 (List.mem_of_getElem? h2))
  · have ej : j = j' := entry_at KL K F hkey h2 g2 h3 g3
    subst ej
    rw [h2] at g2
    cases g2
    have hj : es[j]? = some e0 := by simpa using h2
    refine fin (es.modify j (fun e' => { e' with key := key, val := val })) ck ?_ ?_
    · simp [Instr.mapUpdate, run_underlying ht, MapKept.run_getObj_map hb, K.check w false hkey, h1, hj, h3, K.stays w hkey, MapKept.run_setObj_map _ hb, Result.andThen, setBlock]
    · simp [Instr.mapUpdate, run_underlying ht, MapKept.run_getObj_map hX, K.check X false hkey, g1, hj, h3, K.stays X hkey, MapKept.run_setObj_map _ hX, Result.andThen, setBlock]
end
theorem TM.entry {w : World} {bm B : Nat} {ls : List Acc} {m : Nat} (h : TM w bm B ls m) (hm : m ≤ 1000) (wc : (Lit.int .i64 (A ls m).c).wf = true) (wt : (Lit.int .i64 (A ls m).t).wf = true) (hk : (A ls m).k = 6 ∨ (A ls m).k = 7) :
    ∃ v0 st w2, (Instr.mapEntry 68 (.map (some bm)) (tkV (A ls m).c (A ls m).t (A ls m).k)).run Try.prog w = .ok (.tuple #[v0, goInt st]) w2 ∧ w2.ownsInts B 3 .i64 v0 (pls ls (A ls m).c (A ls m).t (A ls m).k m) ∧ w.grownBy w2 (some bm) ∧
      ∀ w3 v', w2.grownBy w3 v0.ownBlock → w3.ownsInts B 3 .i64 v' (pls ls (A ls m).c (A ls m).t (A ls m).k m ++ [(m : Int)]) → (v'.ownBlock = v0.ownBlock ∨ ∃ g, v'.ownBlock = some g ∧ w2.heap.size ≤ g) →
        ∃ w4, (Instr.entryStore 68 (.map (some bm)) (goInt st) v').run Try.prog w3 = .ok () w4 ∧ TM w4 bm B ls (m + 1) ∧ w3.grownBy w4 (some bm) := by
  obtain ⟨v, hlook, hoi⟩ := h.look hm wc wt hk
  obtain ⟨D, hG, h2⟩ := h
  obtain ⟨kl, hkl⟩ := key_t (A ls m).c (A ls m).t (A ls m).k wc wt (by rcases hk with e | e <;> rw [e] <;> decide)
  obtain ⟨v1, zs, hrun1, hat, hoi1, hzl, hback⟩ := hG.at law_t Try.underlying68 (zero_ints w) (by unfold maxLen; omega) hkl
  have e1 : v1 = v := by
    rw [hrun1] at hlook
    simp only [Result.ok.injEq, and_true] at hlook
    exact hlook
  subst e1
  have hz : zs = pls ls (A ls m).c (A ls m).t (A ls m).k m := hoi1.unique hoi
  subst hz
  have hisM : Maps.IsMap D := by
    obtain ⟨es, ck, _, _, _, rfl, _⟩ := hG
    exact ⟨_, rfl⟩
  obtain ⟨es, ck, hb, F, hs, hD, hbb, hlen, hap⟩ := hG
  obtain ⟨v0, st, es1, ck1, hrun, hv0, hstore⟩ := WideElems.entry_then_store law_k Try.underlying68 zero_ints hb F hkl
  have e0 : v0 = v1 := by
    rcases Maps.fit_look false law_t Try.underlying68 (zero_ints w) hb F hkl with ⟨hr, hno, _⟩ | ⟨x, y, hx, hxk, hr, _⟩
    · rw [hr] at hrun1
      simp at hrun1
      rcases hv0 with ⟨x, hx, hxk, _⟩ | ⟨_, rfl⟩
      · exact absurd hxk (hno x hx)
      · exact hrun1
    · rw [hr] at hrun1
      simp at hrun1
      rcases hv0 with ⟨x', hx', hxk', rfl⟩ | ⟨hno, _⟩
      · obtain ⟨i, hi⟩ := List.mem_iff_getElem?.1 hx
        obtain ⟨i', hi'⟩ := List.mem_iff_getElem?.1 hx'
        have := entry_at law_k law_t F hkl hi hi' hxk hxk'
        subst this
        rw [hi] at hi'
        cases hi'
        exact hrun1
      · exact absurd hxk (hno x hx)
  subst e0
  have nb : v0.ownBlock ≠ some bm := fun e => by
    have := (hoi.1.lt bm e).1
    omega
  have g2 : w.grownBy (setBlock w bm (.map es1 ck1)) (some bm) := grown_setBlock hb _
  refine ⟨v0, st, _, hrun, hoi.kept g2 (.inr nb), g2, fun w3 v' hg3 ho3 hloc => ?_⟩
  have hw3 : w3.heap[bm]? = some (.map es1 ck1) := by
    have lt : bm < (setBlock w bm (.map es1 ck1)).heap.size := by
      have := (Array.getElem?_eq_some_iff.1 hb).1
      simpa [setBlock] using this
    rw [hg3.block bm lt (fun e => nb e.symm)]
    exact heap_setBlock_same hb _
  obtain ⟨es', ck', hst, hup⟩ := hstore w3 v' hw3
  have hX : (setBlock w3 bm (.map es ck)).heap[bm]? = some (.map es ck) := heap_setBlock_same hw3 _
  have gX : w3.grownBy (setBlock w3 bm (.map es ck)) (some bm) := grown_setBlock hw3 _
  have nb' : v'.ownBlock ≠ some bm := fun e => by
    have := (ho3.1.lt bm e).1
    omega
  have gwX : w.grownBy (setBlock w3 bm (.map es ck)) v0.ownBlock := by
    refine ⟨hg3.os.trans rfl, hg3.tape.trans rfl, hg3.output.trans rfl, ?_, fun i hi hne => ?_⟩
    · have := hg3.size
      simpa [setBlock] using this
    · by_cases ei : i = bm
      · subst ei
        rw [hX, hb]
      · rw [heap_setBlock_other hw3 _ ei, hg3.block i (by simpa [setBlock] using hi) hne, heap_setBlock_other hb _ ei]
  obtain ⟨w4', hr4, hG4, _⟩ := hback (setBlock w3 bm (.map es ck)) v' _ gwX (ho3.kept gX (.inr nb')) (by simp; omega) (by
    rcases hloc with e | ⟨g, e, hg⟩
    · exact .inl e
    · exact .inr ⟨g, e, by simpa [setBlock] using hg⟩)
  have hl := update_local law_k law_t Try.underlying68 hb hX F hkl hup
  rw [hl] at hr4
  simp only [Result.ok.injEq, true_and] at hr4
  rw [setBlock_twice] at hr4
  subst hr4
  refine ⟨_, hst, ⟨_, hG4, fun c t k kl' hkl' hk' => ?_⟩, grown_setBlock hw3 _⟩
  show ItemsAre _ (pls ls c t k m ++ _)
  by_cases ee : (A ls m).c = c ∧ (A ls m).t = t ∧ (A ls m).k = k
  · obtain ⟨rfl, rfl, rfl⟩ := ee
    rw [hkl] at hkl'
    cases hkl'
    rw [if_pos ⟨rfl, rfl, rfl⟩, Maps.atKey_put_same hisM (law_t.key hkl)]
    rcases ho3.datum (H := Unit) with ⟨a, b⟩ | a
    · exact .inl ⟨a, b⟩
    · exact .inr a
  · rw [if_neg ee, List.append_nil]
    have hne : kl' ≠ kl := fun e => by
      subst e
      have := key_inj hkl hkl'
      exact ee this
    rw [Maps.atKey_put_other hne]
    exact h2 c t k kl' hkl' hk'
end Go.Proofs.Ytoaifbengichbaa

/- Regions that draw their order, where one load may come behind the operation that makes memory: 'out = append(out, T..)'. No program in sight. -/
import Derived.Test.YtkmfamidahlgiaaGreatDoorSeq
import Derived.OrdersHeld
namespace Go.Proofs.YtkmfamidahlgiaaGreatDoor
open Go.RowKit
set_option linter.unusedVariables false
section
variable {P : Program} {ops : Array Oper} {md : Region.Mode} {K : Act → World → Prop} {C : World → Prop} {B : Nat}
/-- whatever order is picked; behind each operation ahead of number B the world is of the class -/
def anyE (P : Program) (md : Region.Mode) (ops : Array Oper) (K : Act → World → Prop) (C : World → Prop) (B : Nat) : Nat → Array Bool → Act → World → Prop
  | 0, listed, a, w => Region.ready md ops listed = [] ∧ K a w
  | f + 1, listed, a, w => (Region.ready md ops listed = [] → K a w) ∧ ∀ i ∈ Region.ready md ops listed, wpOp P ops (Off K) i (fun a' w' => (i < B → C w') ∧ anyE P md ops K C B f (listed.setIfInBounds i true) a' w') a w
theorem any_of_E : ∀ (f : Nat) (listed : Array Bool) (a : Act) (w : World), anyE P md ops K C B f listed a w → wpAny P md ops (Off K) f listed a w
  | 0, _, _, _, h => h
  | f + 1, _, _, _, h => ⟨h.1, fun i hi => wpOp_mono (fun a' w' h' => any_of_E f _ a' w' h'.2) (h.2 i hi)⟩
theorem ready_not {listed : Array Bool} {i j : Nat} {oj : Oper} (hj : j ∈ Region.ready md ops listed) (hoj : ops[j]? = some oj) (hun : listed.getD i true = false) : ∀ e ∈ oj.after, Region.binds md e = true → e.on ≠ i := by
  intro e he hb heq
  obtain ⟨_, o', ho', hall⟩ := mem_ready.1 hj
  have : o' = oj := Option.some.inj (ho'.symm.trans hoj)
  subst this
  have h1 := hall e he hb
  rw [heq, getD_both hun] at h1
  cases h1
/-- a load that everything from number B on waits for may be taken first -/
theorem E_first {i : Nat} {oi : Oper} {v : Value} (hi : ops[i]? = some oi) (hsel : ∀ (j : Nat) (o : Oper) cs b, ops[j]? = some o → o.op ≠ .select cs b) (hiB : i < B)
    (hB : ∀ j oj, ops[j]? = some oj → B ≤ j → ∃ e ∈ oj.after, Region.binds md e = true ∧ e.on = i) :
    ∀ (f : Nat) (listed : Array Bool) (a : Act) (w : World),
      (∀ j oj, ops[j]? = some oj → j ≠ i → listed.getD j true = false → (∀ e ∈ oj.after, Region.binds md e = true → e.on ≠ i) → oi.apart ops oj = true) →
      i ∈ Region.ready md ops listed → YieldsIf P ops C oi v a → C w → anyE P md ops K C B f (listed.setIfInBounds i true) (a.put oi.dst v) w → anyE P md ops K C B (f + 1) listed a w := by
  intro f
  induction f with
  | zero =>
    intro listed a w _ hr hy hC H
    refine ⟨fun h => (by rw [h] at hr; cases hr), fun j hj => ?_⟩
    by_cases hji : j = i
    · subst hji; exact hy.wpOp hi hC ⟨fun _ => hC, H⟩
    · have := ready_mono hj hji
      rw [H.1] at this
      cases this
  | succ f ih =>
    intro listed a w hfree hr hy hC H
    refine ⟨fun h => (by rw [h] at hr; cases hr), fun j hj => ?_⟩
    by_cases hji : j = i
    · subst hji; exact hy.wpOp hi hC ⟨fun _ => hC, H⟩
    · have hun := (mem_ready.1 hr).1
      obtain ⟨hjun, oj, hoj, _⟩ := mem_ready.1 hj
      have hnot := ready_not hj hoj hun
      have hjB : j < B := by
        rcases Nat.lt_or_ge j B with h | h
        · exact h
        · obtain ⟨e, he, hb, hon⟩ := hB j oj hoj h
          exact absurd hon (hnot e he hb)
      have h2 := wpOp_putIf hoj (hfree j oj hoj hji hjun hnot) (fun cs b => hsel i oi cs b hi) (fun cs b => hsel j oj cs b hoj) (fun c a w h => (h : False).elim) hy (H.2 j (ready_mono hj hji))
      refine wpOp_mono (fun a' w' h3 => ⟨h3.2.1, ih (listed.setIfInBounds j true) a' w' (fun k ok hk hki hu hno => hfree k ok hk hki ?_ hno) (ready_mono hr (Ne.symm hji)) h3.1 (h3.2.1 hjB) ?_⟩) h2
      · by_cases hjk : j = k
        · subst hjk; exact hjun
        · rwa [getD_set_ne true hjk] at hu
      · rw [Array.setIfInBounds_comm _ _ hji]
        exact h3.2.2
/-- does number t wait, over some steps, for number i -/
def needsB (md : Region.Mode) (ops : Array Oper) : Nat → Nat → Nat → Bool
  | 0, t, i => Region.waitsFor md ops t i
  | f + 1, t, i => Region.waitsFor md ops t i || (List.range t).any fun j => Region.waitsFor md ops t j && needsB md ops f j i
theorem needs_listed {listed : Array Bool} (hcl : ∀ j oj, ops[j]? = some oj → listed.getD j false = true → ∀ e ∈ oj.after, Region.binds md e = true → listed.getD e.on false = true) :
    ∀ (f t i : Nat), needsB md ops f t i = true → (∀ o, ops[t]? = some o → ∀ e ∈ o.after, Region.binds md e = true → listed.getD e.on false = true) → listed.getD i false = true := by
  have direct : ∀ t i, Region.waitsFor md ops t i = true → (∀ o, ops[t]? = some o → ∀ e ∈ o.after, Region.binds md e = true → listed.getD e.on false = true) → listed.getD i false = true := fun t i h hd => by
    obtain ⟨o, ho, e, he, hb, hon⟩ := Region.waitsFor_spec h
    rw [← hon]
    exact hd o ho e he hb
  intro f
  induction f with
  | zero => exact fun t i h hd => direct t i h hd
  | succ f ih =>
    intro t i h hd
    simp only [needsB, Bool.or_eq_true] at h
    rcases h with h | h
    · exact direct t i h hd
    · obtain ⟨j, _, hj⟩ := List.any_eq_true.1 h
      simp only [Bool.and_eq_true] at hj
      have hjl := direct t j hj.1 hd
      exact ih j i hj.2 fun o ho => hcl j o ho hjl
def allNeedB (md : Region.Mode) (ops : Array Oper) (k n : Nat) : Bool := (List.range ops.size).all fun t => decide (t < n) || (List.range n).all fun i => decide (i < k) || needsB md ops ops.size t i
/-- the last operations: those ahead of number B keep the class -/
theorem seq_E {K : Act → World → Prop} : ∀ (l2 : List Oper) (k x : Nat) (listed : Array Bool) (a : Act) (w : World), B ≤ k → (∀ j, l2[j]? = ops[k + j]?) → Region.seqB md ops l2.length k listed = true →
    wpList P ops (Off K) l2 a w → anyE P md ops K C B (x + l2.length) listed a w
  | [], k, x, listed, a, w, _, _, hB, h => by
    have hr : Region.ready md ops listed = [] := by simpa [Region.seqB] using hB
    cases x with
    | zero => exact ⟨hr, h⟩
    | succ x => exact ⟨fun _ => h, fun i hi => (by rw [hr] at hi; cases hi)⟩
  | o :: l, k, x, listed, a, w, hk, hl, hB, h => by
    have h0 : ops[k]? = some o := by simpa using (hl 0).symm
    simp only [List.length_cons, Region.seqB, Bool.and_eq_true, decide_eq_true_eq] at hB
    have hr := hB.1
    refine ⟨fun h1 => (by rw [hr] at h1; cases h1), fun i hi => ?_⟩
    rw [hr] at hi
    obtain rfl : i = k := by simpa using hi
    have hw : wpOp P ops (Off K) i (wpList P ops (Off K) l) a w := by unfold wpOp; simp only [h0]; exact h
    exact wpOp_mono (fun a' w' h' => ⟨fun hlt => by omega, seq_E l (i + 1) x _ a' w' (by omega) (fun j => by have := hl (j + 1); simpa [Nat.add_assoc, Nat.add_comm 1 j] using this) hB.2 h'⟩) hw
/-- an operation whose way on is K1, on to K2 -/
theorem op_on {i : Nat} {a : Act} {w : World} {K1 K2 E1 E2 : Act → World → Prop} (h : ∀ a w, K1 a w → K2 a w) (hh : wpOp P ops (Off E1) i K1 a w) : wpOp P ops (Off E2) i K2 a w := by
  unfold wpOp at *
  split
  · rename_i ho; simp only [ho] at hh; exact h _ _ hh
  · rename_i o ho
    simp only [ho] at hh
    split
    · rename_i hw
      simp only [hw, if_true] at hh
      rcases hh with hh | ⟨_, hh⟩
      · refine .inl ?_
        unfold Oper.wp at *
        generalize (execOp a.eval o).run P w = r at *
        cases r with
        | ok x w' =>
          cases x <;> simp only [Oper.upon] at hh ⊢
          case value v => exact h _ _ hh
          case skip => exact h _ _ hh
          case defer d => exact h _ _ hh
          case enter f args =>
            refine hh.mono fun e w'' he => ?_
            cases e with
            | returned v => exact h _ _ he
            | panicked c => exact he.elim
            | outgrown => exact (off_letsOut he).elim
          case row row args => exact hh.mono fun v w'' he => h _ _ he
        | halt x w' =>
          cases x <;> simp only [Oper.upon] at hh ⊢
          exact hh.elim
      · exact (off_letsOut hh).elim
    · rename_i hw; simp only [hw] at hh; exact h _ _ hh
/-- one of the last operations keeps the class, then the others -/
theorem seq_E1 {o : Oper} {l2 : List Oper} {n x : Nat} {listed : Array Bool} {a : Act} {w : World} (h0 : ops[n]? = some o) (hBn : B = n + 1) (hl : ∀ j, l2[j]? = ops[n + 1 + j]?) (hq : Region.seqB md ops (l2.length + 1) n listed = true)
    (h : wpList P ops (Off fun a' w' => C w' ∧ wpList P ops (Off K) l2 a' w') [o] a w) : anyE P md ops K C B (x + (l2.length + 1)) listed a w := by
  simp only [Region.seqB, Bool.and_eq_true, decide_eq_true_eq] at hq
  have hr := hq.1
  refine ⟨fun h1 => (by rw [hr] at h1; cases h1), fun i hi => ?_⟩
  rw [hr] at hi
  obtain rfl : i = n := by simpa using hi
  have hw : wpOp P ops (Off fun a' w' => C w' ∧ wpList P ops (Off K) l2 a' w') i (fun a' w' => C w' ∧ wpList P ops (Off K) l2 a' w') a w := by unfold wpOp; simp only [h0]; exact h
  exact op_on (fun a' w' h' => ⟨fun _ => h'.1, seq_E l2 (i + 1) x _ a' w' (by omega) hl hq.2 h'.2⟩) hw
theorem op_of_headE {hd : Array Oper} {n i : Nat} (hpre : ∀ i, i < n → hd[i]? = ops[i]?) (hi : i < n) {o : Oper} (ho : ops[i]? = some o) (hg : ∀ j want, o.guard = some (j, want) → j < n)
    {a : Act} {K0 : Act → Prop} {K' : Act → World → Prop} {w : World} (hC : C w) (h : ∀ a w', C w' → K0 a → K' a w') (hh : qOp P hd C i K0 a) : wpOp P ops (Off K) i K' a w := op_of_head hpre hi ho hg hC h hh
theorem head_E {hd : Array Oper} {n : Nat} {o : Oper} {l2 : List Oper} (hpre : ∀ i, i < n → hd[i]? = ops[i]?) (hhd : hd.size = n) (hb : backB md ops n = true) (hn : n < ops.size) (hneed : allNeedB md ops 1 n = true) (hBn : B = n + 1)
    (h0 : ops[n]? = some o) (hl : ∀ j, l2[j]? = ops[n + 1 + j]?) (hq : Region.seqB md ops (l2.length + 1) n (firstN ops.size n) = true) :
    ∀ (f : Nat) (listed : Array Bool) (a : Act) (w : World), HeadInv md ops n listed → listed.getD 0 true = true → C w →
      wpAnyQ P md hd C (fun a' => ∀ w', C w' → wpList P ops (Off fun a2 w2 => C w2 ∧ wpList P ops (Off K) l2 a2 w2) [o] a' w') f (listed.extract 0 n) a → anyE P md ops K C B (f + (l2.length + 1)) listed a w := by
  intro f
  induction f with
  | zero =>
    intro listed a w inv _ hC h
    have e := head_done hpre hb hn inv h.1
    exact seq_E1 (x := 0) h0 hBn hl (by rw [e]; exact hq) (h.2 w hC)
  | succ f ih =>
    intro listed a w inv hz hC h
    by_cases hr : Region.ready md hd (listed.extract 0 n) = []
    · have e := head_done hpre hb hn inv hr
      exact seq_E1 (x := f + 1) h0 hBn hl (by rw [e]; exact hq) (h.1 hr w hC)
    · obtain ⟨j, hj⟩ := List.exists_mem_of_ne_nil _ hr
      have hjn : j < n := by
        obtain ⟨_, o', ho, _⟩ := mem_ready.1 hj
        have := (Array.getElem?_eq_some_iff.1 ho).1
        omega
      have hun : listed.getD j true = false := by have := (mem_ready.1 hj).1; rwa [headOf_getD hjn] at this
      have hj0 : 1 ≤ j := by
        rcases Nat.eq_zero_or_pos j with h' | h'
        · subst h'; rw [hz] at hun; cases hun
        · exact h'
      have hjr : j ∈ Region.ready md ops listed := by
        obtain ⟨_, o', ho, hall⟩ := mem_ready.1 hj
        obtain ⟨o2, ho2, hed, _⟩ := back_spec hb hjn
        have : o2 = o' := Option.some.inj (ho2.symm.trans ((hpre j hjn).symm.trans ho))
        subst this
        refine mem_ready.2 ⟨hun, o2, ho2, fun e he hbd => ?_⟩
        have hlt := hed e he hbd
        have := hall e he hbd
        rwa [headOf_getD (by omega)] at this
      rw [show f + 1 + (l2.length + 1) = (f + (l2.length + 1)) + 1 by omega]
      refine ⟨fun h0 => (by rw [h0] at hjr; cases hjr), fun i hi => ?_⟩
      have hin : i < n := by
        rcases Nat.lt_or_ge i n with h' | h'
        · exact h'
        · obtain ⟨_, oi, hoi, hall⟩ := mem_ready.1 hi
          have hilt := (Array.getElem?_eq_some_iff.1 hoi).1
          have h1 := List.all_eq_true.1 hneed i (List.mem_range.2 hilt)
          simp only [Bool.or_eq_true, decide_eq_true_eq] at h1
          rcases h1 with h1 | h1
          · omega
          · have h2 := List.all_eq_true.1 h1 j (List.mem_range.2 hjn)
            simp only [Bool.or_eq_true, decide_eq_true_eq] at h2
            rcases h2 with h2 | h2
            · omega
            · have h3 := needs_listed inv.closed _ _ _ h2 (fun o' ho' e he hbd => by
                have : oi = o' := Option.some.inj (hoi.symm.trans ho')
                subst this
                exact hall e he hbd)
              rw [getD_both hun] at h3
              cases h3
      obtain ⟨oi, hoi, _, hg⟩ := back_spec hb hin
      refine op_of_headE hpre hin hoi hg hC (fun a' w' hC' hK => ⟨fun _ => hC', ih _ a' w' (inv.set hi hin) ?_ hC' ?_⟩) (h.2 i (ready_head hpre inv hin hi))
      · by_cases e : i = 0
        · subst e
          have : 0 < listed.size := by rw [inv.size]; omega
          simp [this]
        · rw [getD_set_ne true e]; exact hz
      · rw [set_head hin]
        exact hK
def waitAllB (md : Region.Mode) (ops : Array Oper) (B : Nat) : Bool := (List.range ops.size).all fun j => decide (j < B) || Region.waitsFor md ops j 0
/-- number 0 a load that may come late; the others ahead of number n read, or call what makes memory; number n makes memory -/
def lateB (md : Region.Mode) (ops hd : Array Oper) (n : Nat) : Bool :=
  decide (1 ≤ n) && decide (n < ops.size) && Region.noSelect ops && Region.noSelect hd && (Region.ready md ops (Array.replicate ops.size false)).contains 0 && Region.free md ops (Array.replicate ops.size false) 0 && waitAllB md ops (n + 1) &&
  backB md ops n && allNeedB md ops 1 n && Region.lexFrom md hd (n - 1) 1 ((Array.replicate n false).setIfInBounds 0 true) && Region.seqB md ops (ops.size - n) n (firstN ops.size n)
theorem any_late {l : List Oper} {o0 on : Oper} {a : Act} {w : World} (n : Nat) (v0 : Value) (hB : lateB .any l.toArray (l.take n).toArray n = true) (h0 : l[0]? = some o0) (hn0 : l[n]? = some on) (hg0 : o0.guard = none)
    (hy : ∀ w', laters w w' → (execOp a.eval o0).run P w' = .ok (.value v0) w')
    (h : wpQuiet P (l.take n).toArray (fun w' => ∃ g : Later w, w' = g.world) (fun a' => ∀ w', laters w w' → wpList P l.toArray (Off fun a2 w2 => laters w w2 ∧ wpList P l.toArray (Off K) (l.drop (n + 1)) a2 w2) [on] a' w') ((l.take n).drop 1) (a.put o0.dst v0)) :
    wpAny P .any l.toArray (Off K) l.toArray.size (Array.replicate l.toArray.size false) a w.drew := by
  simp only [lateB, Bool.and_eq_true, decide_eq_true_eq] at hB
  obtain ⟨⟨⟨⟨⟨⟨⟨⟨⟨⟨h1, hn⟩, hsel⟩, hselh⟩, hr⟩, hfree⟩, hwait⟩, hb⟩, hneed⟩, hlex⟩, hq⟩ := hB
  have hn' : n < l.length := by simpa using hn
  have htl : (l.take n).toArray.size = n := by simp; omega
  have hC0 : laters w w.drew := ⟨⟨w.drew, (Ext.refl w).drew⟩, rfl⟩
  have hd1 : ((l.take n).drop 1).length = n - 1 := by simp; omega
  have hops0 : l.toArray[0]? = some o0 := by simpa using h0
  refine any_of_E (C := laters w) (B := n + 1) _ _ _ _ ?_
  have key : anyE P .any l.toArray K (laters w) (n + 1) ((n - 1) + ((l.drop (n + 1)).length + 1)) ((Array.replicate l.toArray.size false).setIfInBounds 0 true) (a.put o0.dst v0) w.drew := by
    refine head_E (hd := (l.take n).toArray) (n := n) (o := on) (fun i hi => by simp [hi]) htl hb hn hneed rfl (by simpa using hn0) (fun j => by simp [List.getElem?_drop]) ?_ (n - 1) _ _ _ ?_ ?_ hC0 ?_
    · rw [show (l.drop (n + 1)).length + 1 = l.toArray.size - n by simp; omega]; exact hq
    · refine HeadInv.set (n := n) ⟨by simp, fun j oj _ hl => (by rw [getD_replicate_false] at hl; cases hl), fun t _ ht => getD_in (by simpa using ht) (getD_replicate_false _ _)⟩ (by simpa using hr) (by omega)
    · have : 0 < (Array.replicate l.toArray.size false).size := by simp; omega
      simp [show 0 < l.length by omega]
    · have e0 : ((Array.replicate l.toArray.size false).setIfInBounds 0 true).extract 0 n = (Array.replicate n false).setIfInBounds 0 true := by
        rw [set_head (by omega)]
        congr 1
        apply Array.ext
        · simp; omega
        · intro i h1 h2; simp
      rw [e0]
      have H := wpAnyQ_lex (md := .any) (P := P) (C := fun w' => ∃ g : Later w, w' = g.world) hselh ((l.take n).drop 1) 1 ((Array.replicate n false).setIfInBounds 0 true) (a.put o0.dst v0)
        (fun j => by simp [Nat.add_comm 1 j]) (by rw [hd1]; exact hlex) h
      rw [hd1] at H
      exact H
  have E := E_first (P := P) (md := .any) (ops := l.toArray) (K := K) (C := laters w) (B := n + 1) (v := v0) hops0 (Region.noSelect_spec hsel) (by omega) (fun j oj hoj hj => by
      have := List.all_eq_true.1 hwait j (List.mem_range.2 (Array.getElem?_eq_some_iff.1 hoj).1)
      simp only [Bool.or_eq_true, decide_eq_true_eq] at this
      rcases this with h' | h'
      · omega
      · obtain ⟨o', ho', e, he, hbd, hon⟩ := Region.waitsFor_spec h'
        have : oj = o' := Option.some.inj (hoj.symm.trans ho')
        subst this
        exact ⟨e, he, hbd, hon⟩) _ (Array.replicate l.toArray.size false) a w.drew (Region.free_spec hops0 hfree) (by simpa using hr) (.inl ⟨by simp [Region.wanted, hg0], hy⟩) hC0 key
  rwa [show ((n - 1) + ((l.drop (n + 1)).length + 1)) + 1 = l.toArray.size by simp; omega] at E
theorem region_round_late {id l0 m : Nat} {l : List Oper} {o0 on : Oper} {Q : Exit → Act → World → Prop} {a : Act} {w : World} (n : Nat) (v0 : Value) (hm : P.follows .mixedOrders = true) (hB : lateB .any l.toArray (l.take n).toArray n = true) (hnd : noDeferB l = true)
    (h0 : l[0]? = some o0) (hn0 : l[n]? = some on) (hg0 : o0.guard = none) (hy : ∀ w', laters w w' → (execOp a.eval o0).run P w' = .ok (.value v0) w')
    (h : wpQuiet P (l.take n).toArray (fun w' => ∃ g : Later w, w' = g.world) (fun a' => ∀ w', laters w w' → wpList P l.toArray (Off fun a2 w2 => laters w w2 ∧ wpList P l.toArray (Off (Q .normal)) (l.drop (n + 1)) a2 w2) [on] a' w') ((l.take n).drop 1) (a.put o0.dst v0)) :
    (Code.region id l.toArray true).wpIn (Fence.wide.inRound l0) m P Q a w :=
  wpIn_region_any hm (any_round (by simpa using hnd) _ _ _ _ (any_late n v0 hB h0 hn0 hg0 hy h))
theorem settle_wpIn {F : Fence} {m : Nat} {c : Code} {Q : Exit → Act → World → Prop} {a : Act} {W : World} (h : ∀ w', Ext W w' → c.wpIn F m P Q a w') : c.wpIn F m P Q a W := h W (Ext.refl W)
end
end Go.Proofs.YtkmfamidahlgiaaGreatDoor

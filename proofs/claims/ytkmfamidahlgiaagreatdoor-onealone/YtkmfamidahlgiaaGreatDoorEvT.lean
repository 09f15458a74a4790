/- Regions that draw their order, where loads may come behind the operation that makes memory, whose last operations write: what only computes is taken first, one by one. No program in sight. -/
import Derived.Test.YtkmfamidahlgiaaGreatDoorLate
namespace Go.Proofs.YtkmfamidahlgiaaGreatDoor
open Go.RowKit
set_option linter.unusedVariables false
section
variable {P : Program} {ops : Array Oper} {md : Region.Mode} {K : Act → World → Prop} {C : World → Prop} {D : Nat → Bool}
theorem at_dropD {i : Nat} {oi : Oper} {rest : List Oper} (h : ops.toList.drop i = oi :: rest) : ops[i]? = some oi := by
  have : (ops.toList.drop i)[0]? = some oi := by rw [h]; rfl
  rw [List.getElem?_drop] at this
  simpa using this
def Closed (md : Region.Mode) (ops : Array Oper) (listed : Array Bool) : Prop := ∀ j oj, ops[j]? = some oj → listed.getD j false = true → ∀ e ∈ oj.after, Region.binds md e = true → listed.getD e.on false = true
theorem Closed.set {listed : Array Bool} {i : Nat} (h : Closed md ops listed) (hi : i ∈ Region.ready md ops listed) : Closed md ops (listed.setIfInBounds i true) := by
  intro j oj hoj hl e he hb
  have up : ∀ k, listed.getD k false = true → (listed.setIfInBounds i true).getD k false = true := by
    intro k hk
    by_cases hik : i = k
    · subst hik
      by_cases hs : i < listed.size
      · simp [hs]
      · simp [hs] at hk
    · rw [getD_set_ne false hik]; exact hk
  apply up
  by_cases hij : i = j
  · subst hij
    obtain ⟨_, o', ho', hall⟩ := mem_ready.1 hi
    have : o' = oj := Option.some.inj (ho'.symm.trans hoj)
    subst this
    exact hall e he hb
  · rw [getD_set_ne false hij] at hl
    exact h j oj hoj hl e he hb
/-- whatever order is picked; behind each operation of D the world is of the class -/
def anyD (P : Program) (md : Region.Mode) (ops : Array Oper) (K : Act → World → Prop) (C : World → Prop) (D : Nat → Bool) : Nat → Array Bool → Act → World → Prop
  | 0, listed, a, w => Region.ready md ops listed = [] ∧ K a w
  | f + 1, listed, a, w => (Region.ready md ops listed = [] → K a w) ∧ ∀ i ∈ Region.ready md ops listed, wpOp P ops (Off K) i (fun a' w' => (D i = true → C w') ∧ anyD P md ops K C D f (listed.setIfInBounds i true) a' w') a w
theorem any_of_D : ∀ (f : Nat) (listed : Array Bool) (a : Act) (w : World), anyD P md ops K C D f listed a w → wpAny P md ops (Off K) f listed a w
  | 0, _, _, _, h => h
  | f + 1, _, _, _, h => ⟨h.1, fun i hi => wpOp_mono (fun a' w' h' => any_of_D f _ a' w' h'.2) (h.2 i hi)⟩
theorem listed_up {listed : Array Bool} {i k : Nat} (h : listed.getD k true = true) : (listed.setIfInBounds i true).getD k true = true := by
  by_cases hik : i = k
  · subst hik
    by_cases hs : i < listed.size
    · simp [hs]
    · simp [hs]
  · rw [getD_set_ne true hik]; exact h
/-- a load: whatever does not keep the class is done, or needs it -/
theorem D_take {i : Nat} {oi : Oper} {v : Value} (hi : ops[i]? = some oi) (hsel : ∀ (j : Nat) (o : Oper) cs b, ops[j]? = some o → o.op ≠ .select cs b) :
    ∀ (f : Nat) (listed : Array Bool) (a : Act) (w : World), (∀ j, j < ops.size → D j = false → listed.getD j true = true ∨ needsB md ops ops.size j i = true) → Closed md ops listed →
      (∀ j oj, ops[j]? = some oj → j ≠ i → listed.getD j true = false → (∀ e ∈ oj.after, Region.binds md e = true → e.on ≠ i) → oi.apart ops oj = true) →
      i ∈ Region.ready md ops listed → YieldsIf P ops C oi v a → C w → anyD P md ops K C D f (listed.setIfInBounds i true) (a.put oi.dst v) w → anyD P md ops K C D (f + 1) listed a w := by
  intro f
  induction f with
  | zero =>
    intro listed a w _ _ _ hr hy hC H
    refine ⟨fun h => (by rw [h] at hr; cases hr), fun j hj => ?_⟩
    by_cases hji : j = i
    · subst hji; exact hy.wpOp hi hC ⟨fun _ => hC, H⟩
    · have := ready_mono hj hji
      rw [H.1] at this
      cases this
  | succ f ih =>
    intro listed a w hB hcl hfree hr hy hC H
    refine ⟨fun h => (by rw [h] at hr; cases hr), fun j hj => ?_⟩
    by_cases hji : j = i
    · subst hji; exact hy.wpOp hi hC ⟨fun _ => hC, H⟩
    · have hun := (mem_ready.1 hr).1
      obtain ⟨hjun, oj, hoj, hall⟩ := mem_ready.1 hj
      have hnot := ready_not hj hoj hun
      have hjD : D j = true := by
        cases hd : D j with
        | true => rfl
        | false =>
          rcases hB j (Array.getElem?_eq_some_iff.1 hoj).1 hd with h | h
          · rw [h] at hjun; cases hjun
          · have h3 := needs_listed hcl _ _ _ h (fun o' ho' e he hbd => by
              have : oj = o' := Option.some.inj (hoj.symm.trans ho')
              subst this
              exact hall e he hbd)
            rw [getD_both hun] at h3
            cases h3
      have h2 := wpOp_putIf hoj (hfree j oj hoj hji hjun hnot) (fun cs b => hsel i oi cs b hi) (fun cs b => hsel j oj cs b hoj) (fun c a w h => (h : False).elim) hy (H.2 j (ready_mono hj hji))
      refine wpOp_mono (fun a' w' h3 => ⟨h3.2.1, ih (listed.setIfInBounds j true) a' w' (fun k hk hd => (hB k hk hd).imp listed_up id) (hcl.set hj) (fun k ok hk hki hu hno => hfree k ok hk hki ?_ hno) (ready_mono hr (Ne.symm hji)) h3.1 (h3.2.1 hjD) ?_⟩) h2
      · by_cases hjk : j = k
        · subst hjk; exact hjun
        · rwa [getD_set_ne true hjk] at hu
      · rw [Array.setIfInBounds_comm _ _ hji]
        exact h3.2.2
/-- what yields the same in every world -/
theorem D_pure {i : Nat} {oi : Oper} {v : Value} (hi : ops[i]? = some oi) (hsel : ∀ (j : Nat) (o : Oper) cs b, ops[j]? = some o → o.op ≠ .select cs b) (hiD : D i = false) :
    ∀ (f : Nat) (listed : Array Bool) (a : Act) (w : World),
      (∀ j oj, ops[j]? = some oj → j ≠ i → listed.getD j true = false → (∀ e ∈ oj.after, Region.binds md e = true → e.on ≠ i) → oi.apart ops oj = true) →
      i ∈ Region.ready md ops listed → YieldsIf P ops (fun _ => True) oi v a → anyD P md ops K C D f (listed.setIfInBounds i true) (a.put oi.dst v) w → anyD P md ops K C D (f + 1) listed a w := by
  intro f
  have no : ∀ {w : World}, D i = true → C w := fun h => by rw [hiD] at h; cases h
  induction f with
  | zero =>
    intro listed a w _ hr hy H
    refine ⟨fun h => (by rw [h] at hr; cases hr), fun j hj => ?_⟩
    by_cases hji : j = i
    · subst hji; exact hy.wpOp hi trivial ⟨no, H⟩
    · have := ready_mono hj hji
      rw [H.1] at this
      cases this
  | succ f ih =>
    intro listed a w hfree hr hy H
    refine ⟨fun h => (by rw [h] at hr; cases hr), fun j hj => ?_⟩
    by_cases hji : j = i
    · subst hji; exact hy.wpOp hi trivial ⟨no, H⟩
    · have hun := (mem_ready.1 hr).1
      obtain ⟨hjun, oj, hoj, hall⟩ := mem_ready.1 hj
      have hnot := ready_not hj hoj hun
      have h2 := wpOp_putIf hoj (hfree j oj hoj hji hjun hnot) (fun cs b => hsel i oi cs b hi) (fun cs b => hsel j oj cs b hoj) (fun c a w h => (h : False).elim) hy (H.2 j (ready_mono hj hji))
      refine wpOp_mono (fun a' w' h3 => ⟨h3.2.1, ih (listed.setIfInBounds j true) a' w' (fun k ok hk hki hu hno => hfree k ok hk hki ?_ hno) (ready_mono hr (Ne.symm hji)) h3.1 ?_⟩) h2
      · by_cases hjk : j = k
        · subst hjk; exact hjun
        · rwa [getD_set_ne true hjk] at hu
      · rw [Array.setIfInBounds_comm _ _ hji]
        exact h3.2.2
/-- the last operations, in their forced order -/
theorem seq_D : ∀ (l2 : List Oper) (k x : Nat) (listed : Array Bool) (a : Act) (w : World), (∀ j, k ≤ j → D j = false) → (∀ j, l2[j]? = ops[k + j]?) → Region.seqB md ops l2.length k listed = true →
    wpList P ops (Off K) l2 a w → anyD P md ops K C D (x + l2.length) listed a w
  | [], k, x, listed, a, w, _, _, hB, h => by
    have hr : Region.ready md ops listed = [] := by simpa [Region.seqB] using hB
    cases x with
    | zero => exact ⟨hr, h⟩
    | succ x => exact ⟨fun _ => h, fun i hi => (by rw [hr] at hi; cases hi)⟩
  | o :: l, k, x, listed, a, w, hk, hl, hB, h => by
    have h0 : ops[k]? = some o := by simpa using (hl 0).symm
    simp only [List.length_cons, Region.seqB, Bool.and_eq_true, decide_eq_true_eq] at hB
    have hr := hB.1
    refine ⟨fun h1 => (by rw [hr] at h1; cases h1), fun i hi => ?_⟩
    rw [hr] at hi
    obtain rfl : i = k := by simpa using hi
    have hw : wpOp P ops (Off K) i (wpList P ops (Off K) l) a w := by unfold wpOp; simp only [h0]; exact h
    exact wpOp_mono (fun a' w' h' => ⟨fun hlt => (by rw [hk i (Nat.le_refl _)] at hlt; cases hlt), seq_D l (i + 1) x _ a' w' (fun j hj => hk j (by omega)) (fun j => by have := hl (j + 1); simpa [Nat.add_assoc, Nat.add_comm 1 j] using this) hB.2 h'⟩) hw
/-- the operation that makes memory, then the last ones -/
theorem seq_D1 {o : Oper} {l2 : List Oper} {n x : Nat} {listed : Array Bool} {a : Act} {w : World} (h0 : ops[n]? = some o) (hD : ∀ j, n + 1 ≤ j → D j = false) (hl : ∀ j, l2[j]? = ops[n + 1 + j]?) (hq : Region.seqB md ops (l2.length + 1) n listed = true)
    (h : wpList P ops (Off fun a' w' => C w' ∧ wpList P ops (Off K) l2 a' w') [o] a w) : anyD P md ops K C D (x + (l2.length + 1)) listed a w := by
  simp only [Region.seqB, Bool.and_eq_true, decide_eq_true_eq] at hq
  have hr := hq.1
  refine ⟨fun h1 => (by rw [hr] at h1; cases h1), fun i hi => ?_⟩
  rw [hr] at hi
  obtain rfl : i = n := by simpa using hi
  have hw : wpOp P ops (Off fun a' w' => C w' ∧ wpList P ops (Off K) l2 a' w') i (fun a' w' => C w' ∧ wpList P ops (Off K) l2 a' w') a w := by unfold wpOp; simp only [h0]; exact h
  exact op_on (fun a' w' h' => ⟨fun _ => h'.1, seq_D l2 (i + 1) x _ a' w' hD hl hq.2 h'.2⟩) hw
/-! the same, with checks for the kernel -/
def closedB (md : Region.Mode) (ops : Array Oper) (listed : Array Bool) : Bool := (List.range ops.size).all fun j => !listed.getD j false || (match ops[j]? with | some o => o.after.all (fun e => !Region.binds md e || listed.getD e.on false) | none => true)
theorem closed_spec {listed : Array Bool} (h : closedB md ops listed = true) : Closed md ops listed := by
  intro j oj hoj hl e he hb
  have h1 := List.all_eq_true.1 h j (List.mem_range.2 (Array.getElem?_eq_some_iff.1 hoj).1)
  simp only [hl, hoj, Bool.not_true, Bool.false_or] at h1
  have := Array.all_eq_true_iff_forall_mem.1 h1 e he
  simpa [hb] using this
def needDB (md : Region.Mode) (ops : Array Oper) (D : Nat → Bool) (listed : Array Bool) (i : Nat) : Bool := (List.range ops.size).all fun j => D j || listed.getD j true || needsB md ops ops.size j i
theorem take_D {i : Nat} {oi : Oper} {d : Nat} {v : Value} {fuel : Nat} {listed : Array Bool} {ts : Array Value} {ds : List Deferred} {w : World} {rest : List Oper} (hi0 : ops.toList.drop i = oi :: rest) (hd : oi.dst = some d) (hg : oi.guard = none)
    (hs : Region.noSelect ops = true) (hf : Region.free md ops listed i = true) (hr : (Region.ready md ops listed).contains i = true) (hn : needDB md ops D listed i = true) (hc : closedB md ops listed = true)
    (hC : C w) (hy : ∀ w', C w' → (execOp (Act.eval ⟨ts, ds⟩) oi).run P w' = .ok (.value v) w')
    (h : anyD P md ops K C D fuel (listed.setIfInBounds i true) ⟨ts.setIfInBounds d v, ds⟩ w) : anyD P md ops K C D (fuel + 1) listed ⟨ts, ds⟩ w := by
  have hi := at_dropD hi0
  refine D_take hi (Region.noSelect_spec hs) fuel listed _ w (fun j hj hdj => ?_) (closed_spec hc) (Region.free_spec hi hf) (by simpa using hr) (.inl ⟨by simp [Region.wanted, hg], hy⟩) hC ?_
  · have := List.all_eq_true.1 hn j (List.mem_range.2 hj)
    simp only [hdj, Bool.false_or, Bool.or_eq_true] at this
    exact this
  · rw [hd]; exact h
theorem pure_D {i : Nat} {oi : Oper} {d : Nat} {v : Value} {fuel : Nat} {listed : Array Bool} {ts : Array Value} {ds : List Deferred} {w : World} {rest : List Oper} (hi0 : ops.toList.drop i = oi :: rest) (hd : oi.dst = some d) (hg : oi.guard = none)
    (hs : Region.noSelect ops = true) (hf : Region.free md ops listed i = true) (hr : (Region.ready md ops listed).contains i = true) (hD : D i = false)
    (hy : ∀ w', (execOp (Act.eval ⟨ts, ds⟩) oi).run P w' = .ok (.value v) w')
    (h : anyD P md ops K C D fuel (listed.setIfInBounds i true) ⟨ts.setIfInBounds d v, ds⟩ w) : anyD P md ops K C D (fuel + 1) listed ⟨ts, ds⟩ w := by
  have hi := at_dropD hi0
  refine D_pure hi (Region.noSelect_spec hs) hD fuel listed _ w (Region.free_spec hi hf) (by simpa using hr) (.inl ⟨by simp [Region.wanted, hg], fun w' _ => hy w'⟩) ?_
  rw [hd]; exact h
theorem last_D {o : Oper} {l2 : List Oper} {n fuel : Nat} {listed : Array Bool} {a : Act} {w : World} (hi0 : ops.toList.drop n = o :: l2) (hf : fuel = l2.length + 1) (hD : ∀ j, n + 1 ≤ j → D j = false) (hq : Region.seqB md ops (l2.length + 1) n listed = true)
    (h : wpList P ops (Off fun a' w' => C w' ∧ wpList P ops (Off K) l2 a' w') [o] a w) : anyD P md ops K C D fuel listed a w := by
  subst hf
  have := seq_D1 (P := P) (md := md) (ops := ops) (K := K) (C := C) (D := D) (x := 0) (listed := listed) (a := a) (w := w) (at_dropD hi0) hD (fun j => by
    have : (ops.toList.drop n)[j + 1]? = l2[j]? := by rw [hi0]; rfl
    rw [← this, List.getElem?_drop, show n + (j + 1) = n + 1 + j by omega]
    simp) hq h
  rwa [Nat.zero_add] at this
theorem wp_region_D {id : Nat} {l : List Oper} {Q : Exit → Act → World → Prop} {a : Act} {w : World} (D : Nat → Bool) (hm : P.follows .mixedOrders = true)
    (h : anyD P .any l.toArray (Q .normal) (fun w' => Ext w w') D l.toArray.size (Array.replicate l.toArray.size false) a w.drew) : (Code.region id l.toArray true).wp P Q a w :=
  wp_region_any hm (any_off _ _ _ _ (any_of_D _ _ _ _ h))
end
end Go.Proofs.YtkmfamidahlgiaaGreatDoor

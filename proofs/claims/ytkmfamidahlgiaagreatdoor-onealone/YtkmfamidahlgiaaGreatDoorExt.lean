/- Worlds that came out of one another by calls that make memory and turn nothing old; regions that draw their order, whose operations read old memory and call such functions. No program in sight. -/
import Derived.WalkKit
import Derived.ProofKit
import Derived.Below
import Derived.BigQuiet
import Derived.StillTail
import Derived.Deep.Draws
import Derived.Lib.Hide
namespace Go.Proofs.YtkmfamidahlgiaaGreatDoor
open Go.RowKit
set_option linter.unusedVariables false
/-- nothing that was there has turned; there may be more -/
def Ext (w w' : World) : Prop := Below w.heap.size w w'
theorem Ext.below {w w' : World} (h : Ext w w') : Below w.heap.size w w' := h
theorem Ext.refl (w : World) : Ext w w := Below.refl _ _
theorem Ext.trans {a b c : World} (h : Ext a b) (k : Ext b c) : Ext a c := Below.trans h (Below.mono k h.size)
theorem Ext.size {a b : World} (h : Ext a b) : a.heap.size ≤ b.heap.size := Below.size h
theorem Ext.alloc {a w : World} (h : Ext a w) (o : Obj) : Ext a (w.alloc o) := Below.alloc h h.size o
theorem Ext.drew {a w : World} (h : Ext a w) : Ext a w.drew := Below.drew h
theorem Ext.drewN {a w : World} (h : Ext a w) (n : Nat) : Ext a (w.drewN n) := ⟨h.os, h.tape, h.output, h.size, h.block⟩
theorem Ext.setCell {a w : World} (h : Ext a w) {p : Addr} (hp : a.heap.size ≤ p.block) (u : Value) : Ext a (w.setCell p u) := Below.setCell h hp u
theorem Ext.grown {a w w' : World} {row : Option Nat} (h : Ext a w) (hg : w.grownBy w' row) (hr : ∀ k, row = some k → a.heap.size ≤ k) : Ext a w' := Below.grown h hg h.size hr
/-- all old cells and marks read as before: two rules for the walk -/
theorem Ext.cells {W w1 : World} (hb : Ext W w1) : (∀ b o, b < W.heap.size → w1.cell? ⟨b, o, none⟩ = W.cell? ⟨b, o, none⟩) ∧ (∀ b o, b < W.heap.size → w1.frozen? ⟨b, o, none⟩ = W.frozen? ⟨b, o, none⟩) :=
  ⟨fun b o h => Below.cell hb (p := ⟨b, o, none⟩) h, fun b o h => Below.frozen hb (p := ⟨b, o, none⟩) h⟩
theorem Ext.cell {W w1 : World} (hb : Ext W w1) {b o : Nat} {v : Value} (h : W.cell? ⟨b, o, none⟩ = some v) : w1.cell? ⟨b, o, none⟩ = some v :=
  (Below.cell hb (p := ⟨b, o, none⟩) (World.block_lt_of_cell? W ⟨b, o, none⟩ h)).trans h
theorem Ext.frozen {W w1 : World} (hb : Ext W w1) {b o : Nat} {v : Value} (h : W.cell? ⟨b, o, none⟩ = some v) (hf : W.frozen? ⟨b, o, none⟩ = false) : w1.frozen? ⟨b, o, none⟩ = false :=
  (Below.frozen hb (p := ⟨b, o, none⟩) (World.block_lt_of_cell? W ⟨b, o, none⟩ h)).trans hf
/-- a world that came out of w -/
structure Later (w : World) where
  world : World
  ok : Ext w world
theorem later_const {w : World} {p : Prop} : (Later w → p) ↔ p := ⟨fun h => h ⟨w, Ext.refl w⟩, fun h _ => h⟩
/-- the class of worlds that came out of w -/
def laters (w : World) (w' : World) : Prop := ∃ g : Later w, w' = g.world
theorem laters_ext {w w' : World} (h : laters w w') : Ext w w' := by obtain ⟨g, rfl⟩ := h; exact g.ok
theorem later_cell (w : World) : ∀ (g : Later w) (b o : Nat), b < w.heap.size → g.world.cell? ⟨b, o, none⟩ = w.cell? ⟨b, o, none⟩ := fun g b o h => g.ok.cells.1 b o h
theorem later_frozen (w : World) : ∀ (g : Later w) (b o : Nat), b < w.heap.size → g.world.frozen? ⟨b, o, none⟩ = w.frozen? ⟨b, o, none⟩ := fun g b o h => g.ok.cells.2 b o h
/-- a callee that makes memory, met in such a region -/
theorem laterC {P : Program} {f : FuncId} {args : Array Value} {w : World} {g : Later w} {v : Value}
    (h : Calls P f args g.world fun e w' => e = .returned v ∧ Ext g.world w') : Calls P f args g.world fun e w'' => e = .returned v ∧ ∃ g' : Later w, w'' = g'.world :=
  h.mono fun _ w'' ⟨he, hm⟩ => ⟨he, ⟨w'', g.ok.trans hm⟩, rfl⟩
/-- a callee that leaves the world as it was -/
theorem laterS {P : Program} {f : FuncId} {args : Array Value} {w : World} {g : Later w} {v : Value}
    (h : Calls P f args g.world fun e w' => e = .returned v ∧ g.world = w') : Calls P f args g.world fun e w'' => e = .returned v ∧ ∃ g' : Later w, w'' = g'.world :=
  h.mono fun _ w'' ⟨he, hm⟩ => ⟨he, g, hm.symm⟩
section
variable {P : Program}
theorem settle_wp {c : Code} {Q : Exit → Act → World → Prop} {a : Act} {W : World} (h : ∀ w', Ext W w' → c.wp P Q a w') : c.wp P Q a W := h W (Ext.refl W)
theorem settle_list {ops : Array Oper} {Q : Exit → Act → World → Prop} {l : List Oper} {a : Act} {W : World} (h : ∀ w', Ext W w' → wpList P ops Q l a w') : wpList P ops Q l a W := h W (Ext.refl W)
/-- a region that draws its order, walked once, in the order of the text -/
theorem wp_region_later {id : Nat} {Q : Exit → Act → World → Prop} {a : Act} {w : World} {l : List Oper} (hm : P.follows .mixedOrders = true) (hB : Region.lexB .any l.toArray = true)
    (h : wpQuiet P l.toArray (fun w' => ∃ g : Later w, w' = g.world) (fun a' => ∀ w', laters w w' → Q .normal a' w') l a) : (Code.region id l.toArray true).wp P Q a w :=
  wp_region_quiet (C := fun w' => ∃ g : Later w, w' = g.world) hm hB ⟨⟨w.drew, (Ext.refl w).drew⟩, rfl⟩ h
/-! A region whose last operations stand in one forced order and may write: the first n are walked in the text's order, then the others. -/
variable {ops : Array Oper} {md : Region.Mode} {Q : Exit → Act → World → Prop}
theorem seq_on : ∀ (l : List Oper) (k x : Nat) (listed : Array Bool) (a : Act) (w : World), (∀ j, l[j]? = ops[k + j]?) →
    Region.seqB md ops l.length k listed = true → wpList P ops Q l a w → wpAny P md ops Q (x + l.length) listed a w
  | [], k, x, listed, a, w, _, hB, h => by
    have hr : Region.ready md ops listed = [] := by simpa [Region.seqB] using hB
    cases x with
    | zero => exact ⟨hr, h⟩
    | succ x => exact ⟨fun _ => h, fun i hi => (by rw [hr] at hi; cases hi)⟩
  | o :: l, k, x, listed, a, w, hl, hB, h => by
    have h0 : ops[k]? = some o := by simpa using (hl 0).symm
    simp only [List.length_cons, Region.seqB, Bool.and_eq_true, decide_eq_true_eq] at hB
    have hr := hB.1
    refine ⟨fun h1 => (by rw [hr] at h1; cases h1), fun i hi => ?_⟩
    rw [hr] at hi
    obtain rfl : i = k := by simpa using hi
    have hw : wpOp P ops Q i (wpList P ops Q l) a w := by unfold wpOp; simp only [h0]; exact h
    exact wpOp_mono (fun a' w' h' => seq_on l (i + 1) x _ a' w' (fun j => by have := hl (j + 1); simpa [Nat.add_assoc, Nat.add_comm 1 j] using this) hB.2 h') hw
/-- the first n are all listed, the others not -/
def firstN (size n : Nat) : Array Bool := Array.ofFn (n := size) fun i => decide (i.val < n)
/-- the edges and guards of the first n lead back, inside the first n -/
def backB (md : Region.Mode) (ops : Array Oper) (n : Nat) : Bool :=
  (List.range n).all fun i => match ops[i]? with
    | some o => o.after.all (fun e => !Region.binds md e || decide (e.on < i)) && (match o.guard with | some (j, _) => decide (j < n) | none => true)
    | none => false
def headTailB (md : Region.Mode) (ops hd : Array Oper) (n : Nat) : Bool :=
  Region.lexB md hd && decide (n < ops.size) && Region.sinkB md ops n && Region.chainB md ops n && backB md ops n && Region.seqB md ops (ops.size - n) n (firstN ops.size n)
theorem back_spec {n : Nat} (h : backB md ops n = true) {i : Nat} (hi : i < n) : ∃ o, ops[i]? = some o ∧ (∀ e ∈ o.after, Region.binds md e = true → e.on < i) ∧ ∀ j want, o.guard = some (j, want) → j < n := by
  have h1 := List.all_eq_true.1 h i (List.mem_range.2 hi)
  cases ho : ops[i]? with
  | none => simp [ho] at h1
  | some o =>
    simp only [ho, Bool.and_eq_true] at h1
    refine ⟨o, rfl, fun e he hb => ?_, fun j want hg => ?_⟩
    · have := Array.all_eq_true_iff_forall_mem.1 h1.1 e he
      simpa [hb] using this
    · have := h1.2
      rw [hg] at this
      simpa using this
theorem getD_ext {a b : Array Bool} (hs : a.size = b.size) (h : ∀ i, i < a.size → a.getD i true = b.getD i true) : a = b := by
  apply Array.ext hs
  intro i h1 h2
  have := h i h1
  simpa [h1, h2] using this
theorem headOf_getD {listed : Array Bool} {n i : Nat} (hi : i < n) (d : Bool) : (listed.extract 0 n).getD i d = listed.getD i d := by
  by_cases h : i < listed.size
  · have : i < (listed.extract 0 n).size := by simp; omega
    simp [h]; rw [Array.getElem?_eq_getElem this]; simp
  · have : ¬ i < (listed.extract 0 n).size := by simp; omega
    simp [h]; rw [Array.getElem?_eq_none (by simp; omega)]; simp
theorem wanted_head {hd : Array Oper} {n : Nat} (hpre : ∀ i, i < n → hd[i]? = ops[i]?) (o : Oper) (hg : ∀ j want, o.guard = some (j, want) → j < n) (tmps : Array Value) :
    Region.wanted o (yielded ops tmps) = Region.wanted o (yielded hd tmps) := by
  unfold Region.wanted
  cases h : o.guard with
  | none => rfl
  | some p =>
    obtain ⟨j, want⟩ := p
    have := hpre j (hg j want h)
    simp only [yielded, this]
theorem op_of_head {hd : Array Oper} {C : World → Prop} {n i : Nat} (hpre : ∀ i, i < n → hd[i]? = ops[i]?) (hi : i < n) {o : Oper} (ho : ops[i]? = some o) (hg : ∀ j want, o.guard = some (j, want) → j < n)
    {a : Act} {K : Act → Prop} {K' : Act → World → Prop} {w : World} (hC : C w) (h : ∀ a w', C w' → K a → K' a w') (hh : qOp P hd C i K a) : wpOp P ops Q i K' a w := by
  unfold qOp at hh
  unfold wpOp
  have h1 : hd[i]? = some o := (hpre i hi).trans ho
  simp only [h1] at hh
  simp only [ho]
  rw [wanted_head hpre o hg]
  split
  · rename_i hw; simp only [hw, if_true] at hh; exact .inl (Oper.wp_of_quiet hC h hh)
  · rename_i hw; simp only [hw] at hh; exact h _ _ hC hh
theorem ready_head {hd : Array Oper} {n : Nat} {listed : Array Bool} (hpre : ∀ i, i < n → hd[i]? = ops[i]?) (inv : HeadInv md ops n listed) {i : Nat} (hi : i < n) (h : i ∈ Region.ready md ops listed) : i ∈ Region.ready md hd (listed.extract 0 n) := by
  rw [mem_ready] at *
  obtain ⟨h0, o, ho, hall⟩ := h
  refine ⟨by rw [headOf_getD hi]; exact h0, o, (hpre i hi).trans ho, fun e he hb => ?_⟩
  have h1 := hall e he hb
  have hlt : e.on < n := by
    rcases Nat.lt_or_ge e.on n with h' | h'
    · exact h'
    · by_cases hs : e.on < ops.size
      · have := inv.tail e.on h' hs
        rw [getD_both this] at h1
        cases h1
      · rw [← inv.size] at hs
        simp [Array.getElem?_eq_none (Nat.not_lt.1 hs)] at h1
  rw [headOf_getD hlt]
  exact h1
/-- where no one of the first n is ready, they are all listed -/
theorem head_done {hd : Array Oper} {n : Nat} {listed : Array Bool} (hpre : ∀ i, i < n → hd[i]? = ops[i]?) (hb : backB md ops n = true) (hn : n < ops.size) (inv : HeadInv md ops n listed)
    (h : Region.ready md hd (listed.extract 0 n) = []) : listed = firstN ops.size n := by
  have all : ∀ i, i < n → listed.getD i true = true := by
    intro i
    induction i using Nat.strongRecOn with
    | _ i ih =>
      intro hi
      cases hl : listed.getD i true with
      | true => rfl
      | false =>
        obtain ⟨o, ho, hed, _⟩ := back_spec hb hi
        have hm : i ∈ Region.ready md hd (listed.extract 0 n) := by
          rw [mem_ready]
          refine ⟨by rw [headOf_getD hi]; exact hl, o, (hpre i hi).trans ho, fun e he hbd => ?_⟩
          have hlt := hed e he hbd
          rw [headOf_getD (by omega)]
          have := ih e.on hlt (by omega)
          have hsz : e.on < listed.size := by rw [inv.size]; omega
          simpa [hsz] using this
        rw [h] at hm
        cases hm
  refine getD_ext (by rw [inv.size]; simp [firstN]) fun i hi => ?_
  rw [inv.size] at hi
  by_cases hin : i < n
  · rw [all i hin]; simp [firstN, hi, hin]
  · rw [inv.tail i (by omega) hi]; simp [firstN, hi, hin]
theorem set_head {listed : Array Bool} {n i : Nat} (hi : i < n) : (listed.setIfInBounds i true).extract 0 n = (listed.extract 0 n).setIfInBounds i true := by
  refine getD_ext (by simp) fun j hj => ?_
  have hjn : j < n := by simp at hj; omega
  rw [headOf_getD hjn]
  by_cases e : i = j
  · subst e
    have h1 : i < listed.size := by simp at hj; omega
    simp [h1]
  · rw [getD_set_ne true e, getD_set_ne true e, headOf_getD hjn]
theorem head_then_tail {hd : Array Oper} {C : World → Prop} {n : Nat} {l : List Oper} (hpre : ∀ i, i < n → hd[i]? = ops[i]?) (hhd : hd.size = n) (hb : backB md ops n = true) (hn : n < ops.size)
    (hs : Region.sinkB md ops n = true) (hc : Region.chainB md ops n = true) (hl : ∀ j, l[j]? = ops[n + j]?) (hq : Region.seqB md ops l.length n (firstN ops.size n) = true) :
    ∀ (f : Nat) (listed : Array Bool) (a : Act) (w : World), HeadInv md ops n listed → C w →
      wpAnyQ P md hd C (fun a' => ∀ w', C w' → wpList P ops Q l a' w') f (listed.extract 0 n) a → wpAny P md ops Q (f + l.length) listed a w := by
  intro f
  induction f with
  | zero =>
    intro listed a w inv hC h
    have e := head_done hpre hb hn inv h.1
    exact seq_on l n 0 listed a w hl (by rw [e]; exact hq) (h.2 w hC)
  | succ f ih =>
    intro listed a w inv hC h
    by_cases hr : Region.ready md hd (listed.extract 0 n) = []
    · have e := head_done hpre hb hn inv hr
      exact seq_on l n (f + 1) listed a w hl (by rw [e]; exact hq) (h.1 hr w hC)
    · obtain ⟨j, hj⟩ := List.exists_mem_of_ne_nil _ hr
      have hjn : j < n := by
        obtain ⟨_, o, ho, _⟩ := mem_ready.1 hj
        have := (Array.getElem?_eq_some_iff.1 ho).1
        omega
      have hun : listed.getD j true = false := by have := (mem_ready.1 hj).1; rwa [headOf_getD hjn] at this
      have hjr : j ∈ Region.ready md ops listed := by
        obtain ⟨_, o, ho, hall⟩ := mem_ready.1 hj
        obtain ⟨o', ho', hed, _⟩ := back_spec hb hjn
        have : o' = o := Option.some.inj (ho'.symm.trans ((hpre j hjn).symm.trans ho))
        subst this
        refine mem_ready.2 ⟨hun, o', ho', fun e he hbd => ?_⟩
        have hlt := hed e he hbd
        have := hall e he hbd
        rwa [headOf_getD (by omega)] at this
      rw [show f + 1 + l.length = (f + l.length) + 1 by omega]
      refine ⟨fun h0 => (by rw [h0] at hjr; cases hjr), fun i hi => ?_⟩
      have hin : i < n := by
        rcases Nat.lt_or_ge i n with h' | h'
        · exact h'
        · exact absurd hi (tail_waits hs hc hn inv _ j rfl hjn hun i h')
      obtain ⟨o, ho, _, hg⟩ := back_spec hb hin
      refine op_of_head hpre hin ho hg hC (fun a' w' hC' hK => ih _ a' w' (inv.set hi hin) hC' ?_) (h.2 i (ready_head hpre inv hin hi))
      rw [set_head hin]
      exact hK
/-- the first n operations read old memory, or call what makes memory; the others stand in one forced order -/
theorem any_later_tail {a : Act} {w : World} {l : List Oper} (n : Nat) (hB : headTailB .any l.toArray (l.take n).toArray n = true)
    (h : wpQuiet P (l.take n).toArray (fun w' => ∃ g : Later w, w' = g.world) (fun a' => ∀ w', laters w w' → wpList P l.toArray Q (l.drop n) a' w') (l.take n) a) : wpAny P .any l.toArray Q l.toArray.size (Array.replicate l.toArray.size false) a w.drew := by
  simp only [headTailB, Bool.and_eq_true, decide_eq_true_eq] at hB
  obtain ⟨⟨⟨⟨⟨hlex, hn⟩, hs⟩, hc⟩, hb⟩, hq⟩ := hB
  have hn' : n < l.length := by simpa using hn
  have htl : (l.take n).toArray.size = n := by simp; omega
  have hdl : (l.drop n).length = l.toArray.size - n := by simp
  simp only [Region.lexB, Bool.and_eq_true] at hlex
  have H := wpAnyQ_lex (md := .any) (P := P) (C := fun w' => ∃ g : Later w, w' = g.world) hlex.1 (l.take n) 0 (Array.replicate (l.take n).toArray.size false) a (by simp) (by simpa using hlex.2) h
  have inv0 : HeadInv .any l.toArray n (Array.replicate l.toArray.size false) :=
    ⟨by simp, fun j oj _ hl => (by rw [getD_replicate_false] at hl; cases hl), fun t _ ht => getD_in (by simpa using ht) (getD_replicate_false _ _)⟩
  have e0 : (Array.replicate l.toArray.size false).extract 0 n = Array.replicate (l.take n).toArray.size false := by
    rw [htl]
    apply Array.ext
    · simp; omega
    · intro i h1 h2; simp
  have T := head_then_tail (P := P) (Q := Q) (md := .any) (ops := l.toArray) (hd := (l.take n).toArray) (C := fun w' => ∃ g : Later w, w' = g.world) (n := n) (l := l.drop n)
    (fun i hi => by simp [hi]) htl hb hn hs hc (fun j => by simp [List.getElem?_drop]) (by rw [hdl]; exact hq)
    (l.take n).length (Array.replicate l.toArray.size false) a w.drew inv0 ⟨⟨w.drew, (Ext.refl w).drew⟩, rfl⟩ (by rw [e0]; exact H)
  rw [show (l.take n).length + (l.drop n).length = l.toArray.size by simp; omega] at T
  exact T
theorem wp_region_later_tail {id : Nat} {a : Act} {w : World} {l : List Oper} (n : Nat) (hm : P.follows .mixedOrders = true) (hB : headTailB .any l.toArray (l.take n).toArray n = true)
    (h : wpQuiet P (l.take n).toArray (fun w' => ∃ g : Later w, w' = g.world) (fun a' => ∀ w', laters w w' → wpList P l.toArray Q (l.drop n) a' w') (l.take n) a) : (Code.region id l.toArray true).wp P Q a w :=
  wp_region_any hm (any_later_tail n hB h)
end
end Go.Proofs.YtkmfamidahlgiaaGreatDoor

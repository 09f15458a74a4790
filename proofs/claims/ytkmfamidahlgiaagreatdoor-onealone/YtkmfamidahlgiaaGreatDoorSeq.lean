/- A range over a function, in the plain calculus: the statement; a round, its regions walked by the plain laws; yield. No program in sight. -/
import Derived.Test.YtkmfamidahlgiaaGreatDoorExt
import Derived.RangeFuncRecord
import Derived.RangeFuncLeaves
import Derived.RangeFuncCalls
import Derived.RangeFuncIn
import Derived.TacticsIn
import Derived.OrdersIn
import Derived.ControlIn
namespace Go.Proofs.YtkmfamidahlgiaaGreatDoor
open Go.RowKit
set_option linter.unusedVariables false
section
variable {P : Program}
/-- off the end alone, and then K -/
def Off (K : Act → World → Prop) : Exit → Act → World → Prop
  | .normal, a, w => K a w
  | _, _, _ => False
theorem off_letsOut {K : Act → World → Prop} (h : LetsOut (Off K)) : False := by
  obtain ⟨a, w, h⟩ := h
  exact h
theorem rowsIn_wide {n : Nat} {row : String} {args : Array Value} {w : World} {R : Value → World → Prop} (h : Rows P row args w R) : RowsIn Fence.wide n P row args w R :=
  fun c cs _ => let ⟨v, w', r, s⟩ := h c cs; ⟨v, w', r, stepsIn_wide.2 s⟩
/-- an operation that is no defer, walked plainly, serves in a round -/
theorem op_round {o : Oper} {l n : Nat} (hnd : ∀ c, o.op ≠ .defer c) {a : Act} {w : World} {K K' : Act → World → Prop} {E : Act → World → Prop} {Q : Exit → Act → World → Prop} (h : ∀ a w, K a w → K' a w)
    (hh : o.wp P a w K (Off E)) : o.wpIn (Fence.wide.inRound l) n P a w K' Q := by
  refine ⟨fun _ _ => trivial, ?_⟩
  have e : o.semAt (Fence.wide.inRound l).round a.eval = execOp a.eval o := Oper.semAt_eq _ _ _ hnd
  rw [e]
  unfold Oper.wp at hh
  generalize (execOp a.eval o).run P w = r at *
  have hd : (Fence.wide.inRound l).depth.isSome = true → 1 ≤ n := fun h => by cases h
  cases r with
  | ok x w' =>
    cases x <;> simp only [Oper.upon] at hh <;> simp only [Oper.uponIn]
    case value v => exact h _ _ hh
    case skip => exact h _ _ hh
    case defer d => exact h _ _ hh
    case enter f args =>
      refine ⟨hd, CallsIn.inRound l ((callsIn_wide.2 hh).mono fun e w'' he => ?_)⟩
      cases e with
      | returned v => exact h _ _ he
      | panicked c => exact he.elim
      | outgrown => exact (off_letsOut he).elim
    case row row args => exact ⟨hd, (rowsIn_wide hh).mono fun v w'' he => h _ _ he⟩
  | halt x w' =>
    cases x <;> simp only [Oper.upon] at hh
    exact hh.elim
def noDeferB (l : List Oper) : Bool := l.all fun o => match o.op with | .defer _ => false | _ => true
theorem noDefer_spec {l : List Oper} (h : noDeferB l = true) {o : Oper} (ho : o ∈ l) : ∀ c, o.op ≠ .defer c := by
  intro c hc
  have := List.all_eq_true.1 h o ho
  simp [hc] at this
theorem opAt_round {ops : Array Oper} {l n i : Nat} (hnd : noDeferB ops.toList = true) {a : Act} {w : World} {K K' : Act → World → Prop} {E : Act → World → Prop} {Q : Exit → Act → World → Prop} (h : ∀ a w, K a w → K' a w)
    (hh : wpOp P ops (Off E) i K a w) : wpOpIn (Fence.wide.inRound l) n P ops Q i K' a w := by
  unfold wpOp at hh
  unfold wpOpIn
  split
  · rename_i ho; simp only [ho] at hh; exact h _ _ hh
  · rename_i o ho
    simp only [ho] at hh
    have hm : o ∈ ops.toList := by
      obtain ⟨hlt, rfl⟩ := Array.getElem?_eq_some_iff.1 ho
      simp
    split
    · rename_i hw
      simp only [hw, if_true] at hh
      rcases hh with hh | ⟨_, hh⟩
      · exact op_round (noDefer_spec hnd hm) h hh
      · exact (off_letsOut hh).elim
    · rename_i hw; simp only [hw] at hh; exact ⟨fun _ _ => trivial, h _ _ hh⟩
theorem any_round {ops : Array Oper} {md : Region.Mode} {l n : Nat} (hnd : noDeferB ops.toList = true) {Q : Exit → Act → World → Prop} : ∀ (f : Nat) (listed : Array Bool) (a : Act) (w : World),
    wpAny P md ops (Off (Q .normal)) f listed a w → wpAnyIn (Fence.wide.inRound l) n P md ops Q f listed a w
  | 0, _, _, _, h => ⟨h.1, h.2⟩
  | f + 1, _, _, _, h => ⟨fun h0 => h.1 h0, fun i hi => opAt_round hnd (fun a w h' => any_round hnd f _ a w h') (h.2 i hi)⟩
theorem list_round {ops : Array Oper} {l n : Nat} {Q : Exit → Act → World → Prop} : ∀ (os : List Oper) (hnd : noDeferB os = true) (a : Act) (w : World),
    wpList P ops (Off (Q .normal)) os a w → wpListIn (Fence.wide.inRound l) n P ops Q os a w
  | [], _, _, _, h => h
  | o :: os, hnd, a, w, h => by
    have h1 : noDeferB os = true := by simp [noDeferB] at hnd ⊢; exact hnd.2
    unfold wpList at h
    unfold wpListIn
    split
    · rename_i hw
      simp only [hw, if_true] at h
      rcases h with h | ⟨_, h⟩
      · exact op_round (noDefer_spec hnd (by simp)) (fun a w h' => list_round os h1 a w h') h
      · exact (off_letsOut h).elim
    · rename_i hw
      simp only [hw] at h
      exact ⟨fun _ _ => trivial, list_round os h1 _ _ h⟩
/-- a region in a round, by the plain laws -/
theorem region_round_list {id l n : Nat} {os : List Oper} {Q : Exit → Act → World → Prop} {a : Act} {w : World} (hnd : noDeferB os = true) (h : wpList P os.toArray (Off (Q .normal)) os a w) : (Code.region id os.toArray false).wpIn (Fence.wide.inRound l) n P Q a w :=
  wpIn_region_lit (list_round os hnd a w h)
theorem region_round_tail {id l m : Nat} {os : List Oper} {Q : Exit → Act → World → Prop} {a : Act} {w : World} (n : Nat) (hm : P.follows .mixedOrders = true) (hB : headTailB .any os.toArray (os.take n).toArray n = true) (hnd : noDeferB os = true)
    (h : wpQuiet P (os.take n).toArray (fun w' => ∃ g : Later w, w' = g.world) (fun a' => ∀ w', laters w w' → wpList P os.toArray (Off (Q .normal)) (os.drop n) a' w') (os.take n) a) : (Code.region id os.toArray true).wpIn (Fence.wide.inRound l) m P Q a w :=
  wpIn_region_any hm (any_round (by simpa using hnd) _ _ _ _ (any_later_tail n hB h))
/-- nothing that was there has turned but blocks of S -/
structure But (S : Nat → Prop) (w w' : World) : Prop where
  os : w'.os = w.os
  tape : w'.tape = w.tape
  output : w'.output = w.output
  size : w.heap.size ≤ w'.heap.size
  block : ∀ k, k < w.heap.size → ¬ S k → w'.heap[k]? = w.heap[k]?
theorem But.refl (S : Nat → Prop) (w : World) : But S w w := ⟨rfl, rfl, rfl, Nat.le_refl _, fun _ _ _ => rfl⟩
theorem But.trans {S : Nat → Prop} {a b c : World} (h : But S a b) (k : But S b c) : But S a c :=
  ⟨k.os.trans h.os, k.tape.trans h.tape, k.output.trans h.output, Nat.le_trans h.size k.size, fun i hi hs => (k.block i (Nat.lt_of_lt_of_le hi h.size) hs).trans (h.block i hi hs)⟩
theorem But.mono {S T : Nat → Prop} {a b : World} (h : But S a b) (hst : ∀ k, k < a.heap.size → S k → T k) : But T a b := ⟨h.os, h.tape, h.output, h.size, fun i hi hs => h.block i hi fun e => hs (hst i hi e)⟩
theorem Ext.but {a b : World} (h : Ext a b) (S : Nat → Prop) : But S a b := ⟨h.os, h.tape, h.output, h.size, fun i hi _ => h.block i hi⟩
theorem But.ext {S : Nat → Prop} {a b c : World} (h : Ext a b) (k : But S b c) (hs : ∀ i, S i → a.heap.size ≤ i) : Ext a c :=
  ⟨k.os.trans h.os, k.tape.trans h.tape, k.output.trans h.output, Nat.le_trans h.size k.size, fun i hi => (k.block i (Nat.lt_of_lt_of_le hi h.size) (fun e => by have := hs i e; omega)).trans (h.block i hi)⟩
theorem but_setCell (w : World) (p : Addr) (u : Value) : But (· = p.block) w (w.setCell p u) := ⟨rfl, rfl, rfl, by simp [World.setCell], fun k _ hk => Below.heap_setCell _ _ _ _ hk⟩
theorem but_putObj (w : World) (l : Nat) (o : Obj) : But (· = l) w (w.putObj l o) := ⟨rfl, rfl, rfl, by simp, fun k _ hk => World.putObj_heap_other hk⟩
theorem but_grown {w w' : World} {row : Option Nat} (h : w.grownBy w' row) : But (fun k => row = some k) w w' := ⟨h.os, h.tape, h.output, h.size, fun k hk hs => h.block k hk fun e => hs e.symm⟩
theorem But.heap {S : Nat → Prop} {a b : World} (h : But S a b) {k : Nat} {o : Obj} (hk : a.heap[k]? = some o) (hs : ¬ S k) : b.heap[k]? = some o :=
  (h.block k (Array.getElem?_eq_some_iff.1 hk).1 hs).trans hk
theorem But.cell {S : Nat → Prop} {a b : World} (h : But S a b) {k o : Nat} {v : Value} (hc : a.cell? ⟨k, o, none⟩ = some v) (hs : ¬ S k) : b.cell? ⟨k, o, none⟩ = some v :=
  (World.cell?_of_block (w := a) (a := ⟨k, o, none⟩) (h.block k (World.block_lt_of_cell? a ⟨k, o, none⟩ hc) hs)).trans hc
theorem But.frozen {S : Nat → Prop} {a b : World} (h : But S a b) {k o : Nat} {v : Value} (hc : a.cell? ⟨k, o, none⟩ = some v) (hf : a.frozen? ⟨k, o, none⟩ = false) (hs : ¬ S k) : b.frozen? ⟨k, o, none⟩ = false :=
  (World.frozen?_of_block (w := a) (a := ⟨k, o, none⟩) (h.block k (World.block_lt_of_cell? a ⟨k, o, none⟩ hc) hs)).trans hf
theorem But.row {S : Nat → Prop} {a b : World} (h : But S a b) {base e sz : Nat} {v : Value} {n : Nat} {xs : List Value} (hr : a.ownsRow base e sz v n xs) (hs : ∀ g, v.ownBlock = some g → ¬ S g) : b.ownsRow base e sz v n xs := by
  refine ⟨hr.1, ?_⟩
  rcases hr.2 with hn | ⟨g, cap, cur, rfl, hb, hg, rest⟩
  · exact .inl hn
  · exact .inr ⟨g, cap, cur, rfl, hb, h.heap hg (hs g rfl), rest⟩
/-- between two rounds: the loop's record and the block of deferred calls; a boxed slice of the call's own, with its row -/
structure Mid (w0 : World) (base E sz l pb : Nat) (r : Loop) (v : Value) (k : Nat) (cs : List Value) (W : World) : Prop where
  L : W.heap[l]? = some (.loop r)
  K : W.heap[r.defers]? = some (.deferred (some []))
  c : W.cell? ⟨pb, 0, none⟩ = some v
  f : W.frozen? ⟨pb, 0, none⟩ = false
  row : W.ownsRow base E sz v k cs
  b : Ext w0 W
theorem Mid.but {w0 : World} {base E sz l pb : Nat} {r : Loop} {v : Value} {k : Nat} {cs : List Value} {W W' : World} {S : Nat → Prop} (h : Mid w0 base E sz l pb r v k cs W) (hb : But S W W') (hl : ¬ S l) (hd : ¬ S r.defers) (hp : ¬ S pb)
    (hv : ∀ g, v.ownBlock = some g → ¬ S g) (h0 : ∀ i, S i → w0.heap.size ≤ i) : Mid w0 base E sz l pb r v k cs W' :=
  ⟨hb.heap h.L hl, hb.heap h.K hd, hb.cell h.c hp, hb.frozen h.c h.f hp, hb.row h.row hv, hb.ext h.b h0⟩
theorem Mid.grow {w0 : World} {base E sz l pb : Nat} {r : Loop} {v : Value} {k : Nat} {cs : List Value} {W W' : World} (h : Mid w0 base E sz l pb r v k cs W) (hb : Ext W W') : Mid w0 base E sz l pb r v k cs W' :=
  h.but (hb.but (fun _ => False)) id id id (fun _ _ => id) (fun _ h => h.elim)
/-- the statement 'for .. := range g', in the plain calculus: the iterator's contract, and then what stands behind the loop -/
def recOf (fn : FuncId) (a : Act) (ps : Array Tmp) (assign body : Code) (D : Nat) (st : LoopState) : Loop := { state := st, pending := none, fn := fn, tmps := a.tmps, params := ps, assign := assign, body := body, defers := D }
theorem wp_range {g : Operand} {ps : Array Tmp} {assign body : Code} {Q : Exit → Act → World → Prop} {a : Act} {w : World} {gf : Nat} {lb : Array Value} (hg : a.eval g = .func (.func gf) #[] lb)
    (eg : ∀ args w, (callFunc gf args).run P w = .ok (.enter gf args) w)
    (h : ∀ fn r, r = recOf fn a ps assign body w.heap.size .ready → Calls P gf (#[.func (.yield (w.heap.size + 1)) #[] #[]] ++ lb) ((w.alloc (.deferred (some []))).alloc (.loop r)) fun e W =>
      (∃ v, e = .returned v) ∧ W.heap[w.heap.size + 1]? = some (.loop r) ∧
      ∀ W' o, W' = W.putObj (w.heap.size + 1) o → Q .normal { a with defers := { target := .collected w.heap.size, args := #[] } :: a.defers } W') :
    (Code.rangeFunc g ps assign body).wp P Q a w := by
  refine (wpIn_wide (n := 3)).1 (wpIn_rangeFunc ?_)
  intro fn _
  obtain ⟨W1, hW1⟩ : ∃ W1, (w.alloc (.deferred (some []))).alloc (.loop (recOf fn a ps assign body w.heap.size .ready)) = W1 := ⟨_, rfl⟩
  refine ⟨w.heap.size + 1, [{ target := .collected w.heap.size, args := #[] }], W1, { target := .fn (.func gf) lb, args := #[.func (.yield (w.heap.size + 1)) #[] #[]] }, W1, gf,
    #[.func (.yield (w.heap.size + 1)) #[] #[]] ++ lb, W1, ?_, ?_, fun _ _ => trivial, ?_, fun _ => by omega, ?_⟩
  · rw [← hW1]; exact run_enterLoop_outer _ _ _ _ _
  · simp only [resolve, hg]
    simp [go_sem]
  · simp [invoke, go_sem, eg]
  · rw [← hW1]
    refine (callsIn_wide.2 (h fn _ rfl)).mono ?_
    rintro e W ⟨⟨v, rfl⟩, hL, hQ⟩
    exact ⟨none, _, run_endLoop hL (by simp [recOf]), hQ _ _ rfl⟩
end
end Go.Proofs.YtkmfamidahlgiaaGreatDoor

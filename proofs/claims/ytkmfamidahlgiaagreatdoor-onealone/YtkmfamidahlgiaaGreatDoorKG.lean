import Derived.Test.YtkmfamidahlgiaaGreatDoorKA
import Derived.Test.YtkmfamidahlgiaaGreatDoorOpen
import Derived.Test.YtkmfamidahlgiaaGreatDoorInts
import Derived.Test.YtkmfamidahlgiaaGreatDoorGrDfs
import Derived.Test.YtkmfamidahlgiaaGreatDoorGrc
import Derived.Test.YtkmfamidahlgiaaGreatDoorGrp2
import Derived.Test.YtkmfamidahlgiaaGreatDoorSeq
import Derived.Test.YtkmfamidahlgiaaGreatDoorMem
import Derived.Deep.DeepCutAuto
import Derived.Deep.AppendLies
import Derived.OwnWalk
import Derived.RangeFuncBound
import Derived.Shelf.Abstract
import Derived.Test.YtkmfamidahlgiaaGreatDoorGrCopy
import Derived.LoopIn
import Derived.Test.YtkmfamidahlgiaaGreatDoorExt
import Derived.Deep.RegionHeld
import Derived.Test.YtkmfamidahlgiaaGreatDoorLy
/- Blocks beside boards; a step of the document's with two blocks of its own. -/
namespace Go.Proofs.YtkmfamidahlgiaaGreatDoor
open Go.RowKit
set_option linter.unusedVariables false
set_option linter.unusedSimpArgs false
set_option maxHeartbeats 4000000
attribute [local go_sem] later_cell later_frozen later_const
/-- nothing is told; there may be more memory -/
def VoidX (w : World) (e : Ending) (w' : World) : Prop := e = .returned (.tuple #[]) ∧ Ext w w'
/-- a block that is no part of a board -/
structure Aside (w : World) (b g : Nat) (lv : Value) (k : Nat) : Prop where
  out : ¬ Own b g lv k
  lt : k < w.heap.size
theorem Aside.ext {w w' : World} {b g : Nat} {lv : Value} {k : Nat} (h : Aside w b g lv k) (hx : Ext w w') : Aside w' b g lv k := ⟨h.out, Nat.lt_of_lt_of_le h.lt hx.size⟩
/-- behind an access -/
theorem Aside.step {S : Nat → Prop} {w w' : World} {b g : Nat} {lv lv' : Value} {k : Nat} (h : Aside w b g lv k) (hN : But S w w') (hA : lv'.ownBlock = lv.ownBlock ∨ ∃ j, lv'.ownBlock = some j ∧ w.heap.size ≤ j) : Aside w' b g lv' k := by
  have hl := h.lt
  refine ⟨?_, Nat.lt_of_lt_of_le hl hN.size⟩
  rintro (e | e | e)
  · exact h.out (.inl e)
  · exact h.out (.inr (.inl e))
  · rcases hA with e' | ⟨j, e', hj⟩
    · exact h.out (.inr (.inr (by rw [← e']; exact e)))
    · rw [e'] at e
      have := Option.some.inj e
      omega
/-- a block of a type that a graph is not of -/
def Odd (w : World) (k : Nat) : Prop := ∃ t, Tag w k t ∧ t ≠ 35 ∧ t ≠ 3
theorem Odd.but {S : Nat → Prop} {w w' : World} {k : Nat} (h : Odd w k) (hb : But S w w') (hs : ¬ S k) : Odd w' k := by
  obtain ⟨t, h1, h2⟩ := h
  exact ⟨t, h1.but hb hs, h2⟩
theorem Odd.set {w : World} {k b o : Nat} {v : Value} (h : Odd w k) : Odd (w.setCell ⟨b, o, none⟩ v) k := by
  obtain ⟨t, h1, h2⟩ := h
  exact ⟨t, h1.set, h2⟩
theorem BW.step {w w' : World} {bt b g : Nat} {y : LY} {f f' : Nat → Int} {lv lv' : Value} {log log' : List Acc} {ups : List (List Int)} (h : BW w bt b g y f lv log ups) (hB : BD w' bt b g y f' lv' log') (hN : But (Own b g lv) w w') (h1 : bt ≠ 35) (h2 : bt ≠ 3) : BW w' bt b g y f' lv' log' ups :=
  ⟨hB, h.O.but hN (h.B.own h1 h2)⟩
/-- a block that is no part of either board -/
structure Far (b g : Nat) (lv : Value) (b' : Nat) (r : RY) (lv' : Value) (w0 w : World) (k : Nat) : Prop where
  out : ¬ Own b g lv k
  out' : ¬ Own b' r.gh lv' k
  gc : r.gc ≠ k
  lo : w0.heap.size ≤ k
  hi : k < w.heap.size
theorem Far.up {b g : Nat} {lv : Value} {b' : Nat} {r : RY} {lv' : Value} {w0 w w' : World} {k : Nat} (h : Far b g lv b' r lv' w0 w k) (hs : w.heap.size ≤ w'.heap.size) : Far b g lv b' r lv' w0 w' k := ⟨h.out, h.out', h.gc, h.lo, Nat.lt_of_lt_of_le h.hi hs⟩
theorem own_out {b g k : Nat} {lv lv2 : Value} {w : World} (h : ¬ Own b g lv k) (hk : k < w.heap.size) (hA : lv2.ownBlock = lv.ownBlock ∨ ∃ j, lv2.ownBlock = some j ∧ w.heap.size ≤ j) : ¬ Own b g lv2 k := by
  rintro (e | e | e)
  · exact h (.inl e)
  · exact h (.inr (.inl e))
  · rcases hA with e' | ⟨j, e', hj⟩
    · exact h (.inr (.inr (by rw [← e']; exact e)))
    · rw [e'] at e
      have := Option.some.inj e
      omega
theorem Far.stepB {b g : Nat} {lv lv2 : Value} {b' : Nat} {r : RY} {lv' : Value} {w0 w w' : World} {k : Nat} (h : Far b g lv b' r lv' w0 w k) (hs : w.heap.size ≤ w'.heap.size) (hA : lv2.ownBlock = lv.ownBlock ∨ ∃ j, lv2.ownBlock = some j ∧ w.heap.size ≤ j) : Far b g lv2 b' r lv' w0 w' k := ⟨own_out h.out h.hi hA, h.out', h.gc, h.lo, Nat.lt_of_lt_of_le h.hi hs⟩
theorem Far.stepR {b g : Nat} {lv : Value} {b' : Nat} {r : RY} {lv' lv2 : Value} {w0 w w' : World} {k : Nat} (h : Far b g lv b' r lv' w0 w k) (hs : w.heap.size ≤ w'.heap.size) (hA : lv2.ownBlock = lv'.ownBlock ∨ ∃ j, lv2.ownBlock = some j ∧ w.heap.size ≤ j) : Far b g lv b' r lv2 w0 w' k := ⟨h.out, own_out h.out' h.hi hA, h.gc, h.lo, Nat.lt_of_lt_of_le h.hi hs⟩
/-- the board's own blocks lie beyond -/
theorem own_new {b g n : Nat} {lv lv' : Value} {w : World} (h : ∀ k, Own b g lv k → n ≤ k) (hn : n ≤ w.heap.size) (hA : lv'.ownBlock = lv.ownBlock ∨ ∃ j, lv'.ownBlock = some j ∧ w.heap.size ≤ j) : ∀ k, Own b g lv' k → n ≤ k := by
  rintro k (e | e | e)
  · exact h k (.inl e)
  · exact h k (.inr (.inl e))
  · rcases hA with e' | ⟨j, e', hj⟩
    · exact h k (.inr (.inr (by rw [← e']; exact e)))
    · rw [e'] at e
      have := Option.some.inj e
      omega
/-- the first board and one more block have turned -/
theorem Two.stepK {w0 w w5 : World} {bt b g : Nat} {y : LY} {f f2 : Nat → Int} {lv lv5 : Value} {log log2 : List Acc} {b' : Nat} {r : RY} {f' : Nat → Int} {lv' : Value} {log' : List Acc} {k : Nat} (h : Two w0 w bt b g y f lv log b' r f' lv' log') (hbt : bt ≠ 124) (hk : Far b g lv b' r lv' w0 w k)
    (B5 : BD w5 bt b g y f2 lv5 log2) (hb : But (fun q => Own b g lv q ∨ q = k) w w5) (hat : lv5.ownBlock = lv.ownBlock ∨ ∃ j, lv5.ownBlock = some j ∧ w.heap.size ≤ j) : Two w0 w5 bt b g y f2 lv5 log2 b' r f' lv' log' := by
  refine ⟨B5, h.R.but hb (fun q hq hq2 => hq2.elim (fun e => h.ap q e hq) (fun e => hk.out' (by rw [← e]; exact hq))) (fun e => e.elim (h.gc hbt) hk.gc), fun q hq hq2 => ?_, But.ext h.ex hb (fun q hq => hq.elim (h.ob q) (fun e => by rw [e]; exact hk.lo)), own_new h.ob h.ex.size hat, h.od⟩
  rcases hq with e | e | e
  · exact h.ap q (.inl e) hq2
  · exact h.ap q (.inr (.inl e)) hq2
  · rcases hat with e' | ⟨j, e', hj⟩
    · exact h.ap q (.inr (.inr (by rw [← e']; exact e))) hq2
    · rw [e'] at e
      cases e
      have := h.R.lt hq2
      omega
/-- a block beside both has turned -/
theorem Two.off {w0 w w5 : World} {bt b g : Nat} {y : LY} {f : Nat → Int} {lv : Value} {log : List Acc} {b' : Nat} {r : RY} {f' : Nat → Int} {lv' : Value} {log' : List Acc} {k : Nat} (h : Two w0 w bt b g y f lv log b' r f' lv' log') (hk : Far b g lv b' r lv' w0 w k) (hb : But (· = k) w w5) : Two w0 w5 bt b g y f lv log b' r f' lv' log' :=
  ⟨h.B.but hb (fun q hq e => hk.out (by rw [← show q = k from e]; exact hq)), h.R.but hb (fun q hq e => hk.out' (by rw [← show q = k from e]; exact hq)) hk.gc, h.ap, But.ext h.ex hb (fun q e => by rw [show q = k from e]; exact hk.lo), h.ob, h.od⟩
theorem OwnL.odd {S : Nat → Prop} {w w' : World} {u : Value} {ups : List (List Int)} (h : OwnL w u ups) (hb : But S w w') (ho : ∀ k, S k → k < w.heap.size → Odd w k) : OwnL w' u ups := h.but hb (fun k hk hl => by
  obtain ⟨t, ⟨cur, ht⟩, h1, h2⟩ := ho k hk hl
  exact ⟨cur, t, _, ht, h1, h2⟩)
/-- a write to a block that is no part of the document's board -/
theorem RB.mid {w : World} {b : Nat} {y : RY} {f : Nat → Int} {lv : Value} {log : List Acc} (h : RB w b y f lv log) {N M : Nat} (ho : ∀ k, Own b y.gh lv k → k < N ∨ M ≤ k) (hc : y.gc < N) {p : Addr} (h1 : N ≤ p.block) (h2 : p.block < M) (u : Value) : RB (w.setCell p u) b y f lv log :=
  h.but (but_setCell w p u) (fun k hk e => by have := ho k hk; omega) (by omega)
theorem wrapS {x : Int} (h0 : -9223372036854775808 ≤ x) (h1 : x ≤ 9223372036854775807) : IntKind.i64.wrap x = x := by
  rw [IntKind.wrap_i64]
  omega
theorem But.new {S : Nat → Prop} {w w' : World} (h : But S w w') {p : Addr} (hp : w.heap.size ≤ p.block) (u : Value) : But S w (w'.setCell p u) := by
  have h2 := but_setCell w' p u
  exact ⟨h2.os.trans h.os, h2.tape.trans h.tape, h2.output.trans h.output, Nat.le_trans h.size h2.size, fun k hk hs => (h2.block k (Nat.lt_of_lt_of_le hk h.size) (by omega)).trans (h.block k hk hs)⟩
/-- what the last step asks: the board behind the call, two blocks of the call's own -/
structure RMid (b : Nat) (r : RY) (lv : Value) (f' : Nat → Int) (log' : List Acc) (w w' : World) : Prop where
  N : But (Own b r.gh lv) w w'
  R : ∃ lv', RB w' b r f' lv' log' ∧ (∀ k, Own b r.gh lv' k → k < w.heap.size ∨ w.heap.size + 2 ≤ k) ∧ (lv'.ownBlock = lv.ownBlock ∨ ∃ j, lv'.ownBlock = some j ∧ w.heap.size ≤ j)
  c : r.gc < w.heap.size
theorem RMid.set {b : Nat} {r : RY} {lv : Value} {f' : Nat → Int} {log' : List Acc} {w w' : World} (h : RMid b r lv f' log' w w') {p : Addr} (h1 : w.heap.size ≤ p.block) (h2 : p.block < w.heap.size + 2) (u : Value) : RMid b r lv f' log' w (w'.setCell p u) := by
  obtain ⟨lv', hR, ho, hA⟩ := h.R
  exact ⟨h.N.new h1 u, ⟨lv', hR.mid ho h.c h1 h2 u, ho, hA⟩, h.c⟩
theorem RMid.ext {b : Nat} {r : RY} {lv : Value} {f' : Nat → Int} {log' : List Acc} {w w' w'' : World} (h : RMid b r lv f' log' w w') (hx : Ext w' w'') : RMid b r lv f' log' w w'' := by
  obtain ⟨lv', hR, ho, hA⟩ := h.R
  exact ⟨h.N.trans (hx.but _), ⟨lv', hR.ext hx, ho, hA⟩, h.c⟩
theorem RMid.does {b : Nat} {r : RY} {lv : Value} {f' : Nat → Int} {log' : List Acc} {w w' : World} (h : RMid b r lv f' log' w w') {v : Value} : ∃ lv', RB w' b r f' lv' log' ∧ But (Own b r.gh lv) w w' ∧ (lv'.ownBlock = lv.ownBlock ∨ ∃ j, lv'.ownBlock = some j ∧ w.heap.size ≤ j) := by
  obtain ⟨lv', hR, _, hA⟩ := h.R
  exact ⟨lv', hR, h.N, hA⟩
/-- behind an access, two blocks made ahead of it -/
theorem rmid_of {b : Nat} {r : RY} {f f' : Nat → Int} {lv lv' : Value} {log log' : List Acc} {w w1 w2 : World} (h : RB w b r f lv log) (hx : Ext w w1) (hs : w.heap.size + 2 ≤ w1.heap.size) (hR : RB w2 b r f' lv' log') (hN : But (Own b r.gh lv) w1 w2) (hA : lv'.ownBlock = lv.ownBlock ∨ ∃ j, lv'.ownBlock = some j ∧ w1.heap.size ≤ j) : RMid b r lv f' log' w w2 := by
  refine ⟨(hx.but _).trans hN, ⟨lv', hR, fun k hk => ?_, hA.imp id (fun ⟨j, e, hj⟩ => ⟨j, e, by omega⟩)⟩, tag_lt h.tc⟩
  rcases hk with e | e | e
  · exact .inl (by rw [e]; exact h.lt (.inl rfl))
  · exact .inl (by rw [e]; exact h.lt (.inr (.inl rfl)))
  · rcases hA with e' | ⟨j, e', hj⟩
    · exact .inl (h.lt (.inr (.inr (by rw [← e']; exact e))))
    · rw [e'] at e
      have := Option.some.inj e
      exact .inr (by omega)
theorem Tag.sets {w : World} {b t k : Nat} (h : Tag w b t) : ∀ (cs : List Value) (o : Nat), Tag (w.setCells k o cs) b t := by
  intro cs
  induction cs generalizing w with
  | nil => intro o; exact h
  | cons v r ih => intro o; exact ih h.set (o + 1)
/-- a row that is made and filled with its zeros -/
theorem arr_fact {n T : Nat} {C : Array Value} {f : Nat → Value} {w w' : World} (hb : Ext ((w.alloc (.cells C T)).setCells w.heap.size 0 C.toList) w') (e : C = (vl n f).toArray) : VA n w' w.heap.size f ∧ Tag w' w.heap.size T ∧ Ext w w' :=
  ⟨(va_setCells (va_new (n := n) w T C f e) f C.toList (by rw [e])).ext hb, ((Tag.new w C T).sets _ _).ext hb, Ext.trans (ext_setCells w.heap.size (Nat.le_refl _) _ 0 _ ((Ext.refl w).alloc _)) hb⟩
theorem name_list {P : Program} {ops : Array Oper} {Q : Exit → Act → World → Prop} {l : List Oper} {a : Act} {W : World} (h : ∀ w', W = w' → wpList P ops Q l a w') : wpList P ops Q l a W := h W rfl
theorem name_wp {P : Program} {c : Code} {Q : Exit → Act → World → Prop} {a : Act} {W : World} (h : ∀ w', W = w' → c.wp P Q a w') : c.wp P Q a W := h W rfl
theorem wrap_own (x : Int) (h0 : 0 ≤ x) (h1 : x < 18446744073709551616) : IntKind.u64.wrap x = x := by
  simp [IntKind.wrap, IntKind.signed, IntKind.bits]
  omega
theorem row_u8 {w : World} {a : Option Addr} {len cap : Nat} {zs : List Int} (h : IsRow .u8 w a len cap zs) {i : Nat} (hi : i < len) : ∃ (b off z : Nat), z < 256 ∧ a = some ⟨b, off, none⟩ ∧ w.cell? ⟨b, off + i, none⟩ = some (.int .u8 z) := by
  rcases h with ⟨rfl, rfl, rfl, rfl⟩ | ⟨x, rfl, hl, hm, hz, hc, hw⟩
  · omega
  · have h1 := hc 0 (by omega)
    have hx := spot_none h1
    simp [Addr.add] at hx
    have h2 := hc i (by omega)
    have hwz := hw (zs.getD i 0) (by simp [show i < zs.length by omega])
    obtain ⟨z0, z1⟩ : 0 ≤ zs.getD i 0 ∧ zs.getD i 0 < 256 := by
      generalize zs.getD i 0 = z at *
      simp [Lit.wf, IntKind.min, IntKind.max, IntKind.signed, IntKind.bits] at hwz
      omega
    rw [hx] at h2
    refine ⟨x.block, x.off, (zs.getD i 0).toNat, by omega, by rw [← hx], ?_⟩
    rw [show (((zs.getD i 0).toNat : Nat) : Int) = zs.getD i 0 by omega]
    by_cases hj0 : i = 0
    · subst hj0; simpa [Addr.add] using h2
    · simpa [Addr.add, hj0] using h2
theorem there_of {n : Nat} {w : World} {b : Nat} {f : Nat → Value} (h : VA n w b f) {o m : Nat} (hm : o + m ≤ n) : w.there b o m := fun j hj => by
  have hc := h.c (o + j) (by omega)
  exact ⟨by rw [hc]; rfl, h.z (o + j) (by omega)⟩
/-- some cells of a block are written anew -/
theorem va_part {n : Nat} {w : World} {b : Nat} {f g : Nat → Value} (h : VA n w b f) {o : Nat} (vs : List Value) (hm : o + vs.length ≤ n) (hin : ∀ j, (hj : j < vs.length) → g (o + j) = vs[j]) (hout : ∀ i, i < n → (i < o ∨ o + vs.length ≤ i) → g i = f i) : VA n (w.setCells b o vs) b g := by
  refine ⟨fun i hi => ?_, fun i hi => by rw [World.frozen?_setCells]; exact h.z i hi⟩
  by_cases hio : i < o ∨ o + vs.length ≤ i
  · rw [World.cell?_setCells_out b vs o w ⟨b, i, none⟩ (fun _ _ => hio), hout i hi hio]
    exact h.c i hi
  · have hj : i - o < vs.length := by omega
    have := World.rangeAt_setCells_same w b o vs (there_of h hm) (i - o) vs[i - o] (List.getElem?_eq_getElem hj)
    rw [show o + (i - o) = i by omega] at this
    rw [this, ← hin (i - o) hj, show o + (i - o) = i by omega]
theorem but_setCells (b : Nat) : ∀ (cs : List Value) (o : Nat) (w : World), But (· = b) w (w.setCells b o cs)
  | [], _, w => But.refl _ w
  | v :: r, o, w => (but_setCell w ⟨b, o, none⟩ v).trans (but_setCells b r (o + 1) _)
theorem Odd.sets {w : World} {k b : Nat} (h : Odd w k) : ∀ (cs : List Value) (o : Nat), Odd (w.setCells b o cs) k := by
  intro cs
  induction cs generalizing w with
  | nil => intro o; exact h
  | cons v r ih => intro o; exact ih (h.set (b := b) (o := o) (v := v)) (o + 1)
/-- a part of a block, as a range -/
theorem range_part {n : Nat} {w : World} {b : Nat} {f : Nat → Value} (h : VA n w b f) {o : Nat} (vs : List Value) (hm : o + vs.length ≤ n) (hin : ∀ j, (hj : j < vs.length) → f (o + j) = vs[j]) : w.rangeAt b o vs := fun j v hv => by
  obtain ⟨hj, e⟩ := List.getElem?_eq_some_iff.1 hv
  rw [← e, ← hin j hj]
  exact h.c (o + j) (by omega)
end Go.Proofs.YtkmfamidahlgiaaGreatDoor
/- Graphs that are right: depths; words of six truths as lists. No program in sight. -/
namespace Go.Proofs.YtkmfamidahlgiaaGreatDoor
set_option linter.unusedVariables false
theorem bits_full {n : Nat} (hn : n ≤ 6) : bitsOf (2 ^ n - 1) = List.range n := by
  have : ∀ m : Fin 7, bitsOf (2 ^ m.val - 1) = List.range m.val := by decide +kernel
  exact this ⟨n, by omega⟩
theorem word_full {n : Nat} (hn : n ≤ 6) : wordOf (fun c => decide (c < n)) = 2 ^ n - 1 := by
  have : ∀ m : Fin 7, wordOf (fun c => decide (c < m.val)) = 2 ^ m.val - 1 := by decide +kernel
  exact this ⟨n, by omega⟩
theorem bits_word (p : Nat → Bool) : bitsOf (wordOf p) = (List.range 6).filter p := by
  have key : ∀ b0 b1 b2 b3 b4 b5 : Bool, bitsOf (b0.toNat + 2 * (b1.toNat + 2 * (b2.toNat + 2 * (b3.toNat + 2 * (b4.toNat + 2 * b5.toNat))))) =
      (if b0 then [0] else []) ++ (if b1 then [1] else []) ++ (if b2 then [2] else []) ++ (if b3 then [3] else []) ++ (if b4 then [4] else []) ++ (if b5 then [5] else []) := by decide +kernel
  unfold wordOf
  rw [key, show List.range 6 = [0, 1, 2, 3, 4, 5] from rfl]
  cases h0 : p 0 <;> cases h1 : p 1 <;> cases h2 : p 2 <;> cases h3 : p 3 <;> cases h4 : p 4 <;> cases h5 : p 5 <;> simp [h0, h1, h2, h3, h4, h5]
theorem filter_lt {n : Nat} (hn : n ≤ 6) (p : Nat → Bool) : (List.range 6).filter (fun c => decide (c < n) && p c) = (List.range n).filter p := by
  have h : ∀ m : Fin 7, (List.range 6).filter (fun c => decide (c < m.val)) = List.range m.val := by decide +kernel
  have h1 := h ⟨n, by omega⟩
  rw [← h1, List.filter_filter]
  congr 1
  funext c
  rw [Bool.and_comm]
/-- some of the first n numbers -/
def sel (n : Nat) (p : Nat → Bool) : List Int := ((List.range n).filter p).map fun (i : Nat) => (i : Int)
theorem mem_sel {n : Nat} {p : Nat → Bool} {z : Int} : z ∈ sel n p ↔ ∃ i : Nat, i < n ∧ p i = true ∧ (i : Int) = z := by
  unfold sel
  simp only [List.mem_map, List.mem_filter, List.mem_range]
  constructor
  · rintro ⟨i, ⟨h1, h2⟩, h3⟩; exact ⟨i, h1, h2, h3⟩
  · rintro ⟨i, h1, h2, h3⟩; exact ⟨i, ⟨h1, h2⟩, h3⟩
theorem sel_len (n : Nat) (p : Nat → Bool) : (sel n p).length ≤ n := by
  unfold sel
  rw [List.length_map]
  exact Nat.le_trans (List.length_filter_le _ _) (by simp)
theorem sel_congr {n : Nat} {p q : Nat → Bool} (h : ∀ i, i < n → p i = q i) : sel n p = sel n q := by
  unfold sel
  rw [List.filter_congr fun i hi => h i (by simpa using hi)]
/-- the list of a word of six truths -/
theorem list_word {n : Nat} (hn : n ≤ 6) (p : Nat → Bool) : (bitsOf (wordOf fun c => decide (c < n) && p c)).map (fun (i : Nat) => (i : Int)) = sel n p := by
  rw [bits_word, filter_lt hn]
  rfl
theorem wordOf_congr {p q : Nat → Bool} (h : ∀ i, i < 6 → p i = q i) : wordOf p = wordOf q :=
  eq_of_bits6 (word_lt _) (word_lt _) fun i hi => by rw [testBit_word p i hi, testBit_word q i hi, h i hi]
theorem word_zero {p : Nat → Bool} (h : ∀ i, i < 6 → p i = false) : wordOf p = 0 := by
  rw [wordOf_congr (q := fun _ => false) h]; rfl
theorem less_word (p : Nat → Bool) (a : Nat) (ha : a < 6) : lessN (wordOf p) (2 ^ a) = wordOf fun c => p c && !decide (c = a) := by
  have hp : 2 ^ a < 18446744073709551616 := Nat.pow_lt_pow_right (n := 64) (by decide) (by omega)
  have hw := word_lt p
  refine eq_of_bits (less_lt (by omega)) (by have := word_lt (fun c => p c && !decide (c = a)); omega) fun i hi => ?_
  rw [testBit_less hp hi, Nat.testBit_two_pow]
  by_cases h6 : i < 6
  · rw [testBit_word _ _ h6, testBit_word _ _ h6]
    by_cases e : a = i
    · subst e; simp
    · have : ¬ i = a := fun h => e h.symm
      simp [e, this]
  · rw [bit_high (word_lt _) (by omega), bit_high (word_lt _) (by omega)]; rfl
theorem or_word (p : Nat → Bool) (a : Nat) (ha : a < 6) : wordOf p ||| 2 ^ a = wordOf fun c => p c || decide (c = a) := by
  refine eq_of_bits6 (or_one_lt (word_lt _) ha) (word_lt _) fun i hi => ?_
  rw [bit_or_one, testBit_word _ _ hi, testBit_word _ _ hi]
  by_cases e : a = i
  · subst e; simp
  · have : ¬ i = a := fun h => e h.symm
    simp [e, this]
/-! depths -/
theorem countP_lt {α : Type} (p q : α → Bool) : ∀ (l : List α), (∀ x ∈ l, p x = true → q x = true) → (∃ y ∈ l, q y = true ∧ p y = false) → l.countP p < l.countP q
  | [], _, h => by obtain ⟨y, hy, _⟩ := h; cases hy
  | a :: l, h1, ⟨y, hy, hq, hp⟩ => by
    have hle : l.countP p ≤ l.countP q := List.countP_mono_left fun x hx => h1 x (List.mem_cons_of_mem _ hx)
    rw [List.countP_cons, List.countP_cons]
    rcases List.mem_cons.1 hy with e | e
    · subst e
      rw [hq, hp]
      simp
      omega
    · have ih := countP_lt p q l (fun x hx => h1 x (List.mem_cons_of_mem _ hx)) ⟨y, e, hq, hp⟩
      have ha := h1 a List.mem_cons_self
      cases hpa : p a with
      | true => rw [ha hpa]; simp; omega
      | false => cases q a <;> simp <;> omega
/-- how many are above -/
def ht (ups : List (List Int)) (c : Nat) : Nat := (List.range 6).countP fun x => tab ups (c * 6 + x)
theorem ht_lt {ups : List (List Int)} (h : Rt ups) {c a : Nat} (hr : R ups c a) : ht ups a < ht ups c := by
  have ha : a < 6 := by have := h.nms.lt hr; have := h.six; omega
  have hc : c < 6 := by have := hr.src; have := h.six; omega
  refine countP_lt _ _ _ ?_ ⟨a, by simpa using ha, (tab_iff h.nms h.six hc ha).2 (.single hr), ?_⟩
  · intro x hx hp
    have hx6 : x < 6 := by simpa using hx
    exact (tab_iff h.nms h.six hc hx6).2 (Ab.trans (.single hr) ((tab_iff h.nms h.six ha hx6).1 hp))
  · cases e : tab ups (a * 6 + a) with
    | false => rfl
    | true => exact absurd ((tab_iff h.nms h.six ha ha).1 e) (h.acy a)
theorem ht_six {ups : List (List Int)} (h : Rt ups) {c : Nat} (hc : c < 6) : ht ups c < 6 := by
  have := countP_lt (fun x => tab ups (c * 6 + x)) (fun _ => true) (List.range 6) (fun _ _ _ => rfl) ⟨c, by simpa using hc, rfl, by
    cases e : tab ups (c * 6 + c) with
    | false => rfl
    | true => exact absurd ((tab_iff h.nms h.six hc hc).1 e) (h.acy c)⟩
  simpa [ht] using this
/-- one more than the greatest of some -/
def mx (f : Nat → Nat) (l : List Int) : Nat := l.foldl (fun d a => max d (f a.toNat + 1)) 0
theorem mx_snoc (f : Nat → Nat) (l : List Int) (a : Int) : mx f (l ++ [a]) = max (mx f l) (f a.toNat + 1) := by
  unfold mx
  rw [List.foldl_append]
  rfl
theorem mx_take (f : Nat → Nat) (l : List Int) (k : Nat) (hk : k < l.length) : mx f (l.take (k + 1)) = max (mx f (l.take k)) (f (l.getD k 0).toNat + 1) := by
  rw [List.take_succ_eq_append_getElem hk, mx_snoc, show l.getD k 0 = l[k] by simp [hk]]
theorem mx_congr {f g : Nat → Nat} {l : List Int} (h : ∀ a ∈ l, f a.toNat = g a.toNat) : mx f l = mx g l := by
  unfold mx
  generalize (0 : Nat) = d
  induction l generalizing d with
  | nil => rfl
  | cons a l ih =>
    rw [List.foldl_cons, List.foldl_cons, h a List.mem_cons_self]
    exact ih (fun b hb => h b (List.mem_cons_of_mem _ hb)) _
theorem mx_le {f : Nat → Nat} {l : List Int} {m : Nat} (h : ∀ a ∈ l, f a.toNat + 1 ≤ m) : mx f l ≤ m := by
  have key : ∀ (l : List Int) (d : Nat), d ≤ m → (∀ a ∈ l, f a.toNat + 1 ≤ m) → l.foldl (fun d a => max d (f a.toNat + 1)) d ≤ m := by
    intro l
    induction l with
    | nil => intro d hd _; exact hd
    | cons a l ih =>
      intro d hd h
      have := h a List.mem_cons_self
      exact ih _ (by show max d (f a.toNat + 1) ≤ m; omega) fun b hb => h b (List.mem_cons_of_mem _ hb)
  exact key l 0 (Nat.zero_le _) h
theorem mx_ge {f : Nat → Nat} {l : List Int} {a : Int} (h : a ∈ l) : f a.toNat + 1 ≤ mx f l := by
  have mono : ∀ (l : List Int) (d : Nat), d ≤ l.foldl (fun d a => max d (f a.toNat + 1)) d := by
    intro l
    induction l with
    | nil => intro d; exact Nat.le_refl _
    | cons b l ih => intro d; exact Nat.le_trans (by omega) (ih (max d (f b.toNat + 1)))
  have key : ∀ (l : List Int) (d : Nat), a ∈ l → f a.toNat + 1 ≤ l.foldl (fun d a => max d (f a.toNat + 1)) d := by
    intro l
    induction l with
    | nil => intro d h; cases h
    | cons b l ih =>
      intro d h
      rcases List.mem_cons.1 h with e | e
      · subst e
        exact Nat.le_trans (by omega) (mono l (max d (f a.toNat + 1)))
      · exact ih _ e
  exact key l 0 h
theorem mx_hit {f : Nat → Nat} {l : List Int} (h : 0 < mx f l) : ∃ a ∈ l, f a.toNat + 1 = mx f l := by
  have key : ∀ (l : List Int) (d : Nat), d = l.foldl (fun d a => max d (f a.toNat + 1)) d ∨ ∃ a ∈ l, f a.toNat + 1 = l.foldl (fun d a => max d (f a.toNat + 1)) d := by
    intro l
    induction l with
    | nil => intro d; exact .inl rfl
    | cons b l ih =>
      intro d
      rw [List.foldl_cons]
      rcases ih (max d (f b.toNat + 1)) with e | ⟨a, ha, e⟩
      · by_cases hd : f b.toNat + 1 ≤ d
        · left; rw [← e]; omega
        · right; exact ⟨b, List.mem_cons_self, by rw [← e]; omega⟩
      · exact .inr ⟨a, List.mem_cons_of_mem _ ha, e⟩
  rcases key l 0 with e | e
  · unfold mx at h; omega
  · exact e
def depF (ups : List (List Int)) : Nat → Nat → Nat
  | 0, _ => 0
  | f + 1, c => mx (depF ups f) (ups.getD c [])
theorem depF_stable {ups : List (List Int)} (h : Rt ups) : ∀ (f f' c : Nat), ht ups c < f → ht ups c < f' → depF ups f c = depF ups f' c
  | 0, _, _, h1, _ => by omega
  | _ + 1, 0, _, _, h2 => by omega
  | f + 1, f' + 1, c, h1, h2 => by
    rw [depF, depF]
    refine mx_congr fun a ha => ?_
    have hr : R ups c a.toNat := by
      unfold R
      rw [Int.toNat_of_nonneg ((h.nms.at c).1 a ha).1]
      exact ha
    have := ht_lt h hr
    exact depF_stable h f f' _ (by omega) (by omega)
/-- how deep c stands -/
def dep (ups : List (List Int)) (c : Nat) : Nat := depF ups 6 c
theorem dep_eq {ups : List (List Int)} (h : Rt ups) {c : Nat} (hc : c < 6) : dep ups c = mx (dep ups) (ups.getD c []) := by
  have h6 := ht_six h hc
  show depF ups 6 c = mx (depF ups 6) (ups.getD c [])
  rw [depF_stable h 6 7 c h6 (by omega)]
  rfl
theorem mem_R {ups : List (List Int)} (h : Rt ups) {c : Nat} {a : Int} (ha : a ∈ ups.getD c []) : R ups c a.toNat := by
  unfold R
  rw [Int.toNat_of_nonneg ((h.nms.at c).1 a ha).1]
  exact ha
theorem dep_le {ups : List (List Int)} (h : Rt ups) : ∀ (m c : Nat), ht ups c < m → c < 6 → dep ups c ≤ ht ups c
  | 0, _, h1, _ => by omega
  | m + 1, c, h1, hc => by
    rw [dep_eq h hc]
    refine mx_le fun a ha => ?_
    have hr := mem_R h ha
    have hlt := ht_lt h hr
    have ha6 : a.toNat < 6 := by have := h.nms.lt hr; have := h.six; omega
    have := dep_le h m a.toNat (by omega) ha6
    omega
theorem dep_five {ups : List (List Int)} (h : Rt ups) {c : Nat} (hc : c < 6) : dep ups c ≤ 5 := by
  have h1 := dep_le h 6 c (ht_six h hc) hc
  have h2 := ht_six h hc
  omega
theorem dep_up {ups : List (List Int)} (h : Rt ups) {c a : Nat} (hr : R ups c a) : dep ups a < dep ups c := by
  have hc : c < 6 := by have := hr.src; have := h.six; omega
  rw [dep_eq h hc]
  have := mx_ge (f := dep ups) (show (a : Int) ∈ ups.getD c [] from hr)
  rw [Int.toNat_natCast] at this
  exact this
theorem dep_above {ups : List (List Int)} (h : Rt ups) {c a : Nat} (hr : Ab ups c a) : dep ups a < dep ups c := by
  induction hr with
  | single h' => exact dep_up h h'
  | tail _ h' ih => exact Nat.lt_trans (dep_up h h') ih
/-- is somebody behind c? -/
def aheadB (ups : List (List Int)) (c : Nat) : Bool := (List.range ups.length).any fun d => (ups.getD d []).contains (c : Int)
theorem ahead_iff {ups : List (List Int)} {c : Nat} : aheadB ups c = true ↔ ∃ d, R ups d c := by
  unfold aheadB
  rw [List.any_eq_true]
  constructor
  · rintro ⟨d, _, h⟩
    exact ⟨d, by rwa [List.contains_iff_mem] at h⟩
  · rintro ⟨d, h⟩
    exact ⟨d, by simpa using h.src, by rw [List.contains_iff_mem]; exact h⟩
/-- those that c is above -/
def blw (ups : List (List Int)) (c : Nat) : Nat := wordOf fun d => decide (d < ups.length) && tab ups (d * 6 + c)
theorem ends_eq {ups : List (List Int)} (h : Rt ups) {c : Nat} (hc : c < 6) : (sel ups.length fun d => tab ups (d * 6 + c)).length = 0 ↔ aheadB ups c = false := by
  have hs := h.six
  constructor
  · intro hl
    cases e : aheadB ups c with
    | false => rfl
    | true =>
      obtain ⟨d, hr⟩ := ahead_iff.1 e
      have hm : (d : Int) ∈ sel ups.length fun d => tab ups (d * 6 + c) := mem_sel.2 ⟨d, hr.src, (tab_iff h.nms h.six (by have := hr.src; omega) hc).2 (.single hr), rfl⟩
      rw [List.length_eq_zero_iff.1 hl] at hm
      cases hm
  · intro e
    rw [List.length_eq_zero_iff, List.eq_nil_iff_forall_not_mem]
    intro z hz
    obtain ⟨d, hd, ht, _⟩ := mem_sel.1 hz
    obtain ⟨b, hb⟩ := Ab.last ((tab_iff h.nms h.six (by omega) hc).1 ht)
    rw [ahead_iff.2 ⟨b, hb⟩] at e
    cases e
end Go.Proofs.YtkmfamidahlgiaaGreatDoor
/- graph's all, Above, deep and Depth. -/
namespace Go.Proofs.YtkmfamidahlgiaaGreatDoor
open Go.RowKit
set_option linter.unusedVariables false
set_option maxHeartbeats 1000000
/-- all consumers of a right graph -/
def allW (ups : List (List Int)) : Nat := if chk ups = 0 then 2 ^ ups.length - 1 else 0
theorem allW_lt (ups : List (List Int)) : allW ups < 64 := by
  unfold allW
  split
  · rename_i h
    have h6 := (chk_zero.1 h).six
    have := Nat.pow_le_pow_right (n := 2) (by decide) h6
    have e : (2 : Nat) ^ 6 = 64 := rfl
    have := Nat.two_pow_pos ups.length
    omega
  · decide
theorem g9all (v : Value) (ups : List (List Int)) (w : World) (hL : ListsV w v ups) (hll : ∀ l ∈ ups, l.length ≤ 1000000) (hn : ups.length ≤ 1000000) :
    Calls Tryz.prog 107 #[v] w fun e w' => e = .returned (.int .u64 (allW ups : Nat)) ∧ Ext w w' := by
  have CK := Lib.hid (gCheck v ups w hL hll hn)
  obtain ⟨a, cap, e, -⟩ := id hL
  subst e
  clear hL hll
  unfold allW
  by_cases hg : chk ups = 0
  · rw [if_pos hg]
    have h6 := (chk_zero.1 hg).six
    rw [hg] at CK
    clear hg
    have CF := Lib.hid (fun w => gFull (ups.length : Int) ups.length w (by omega))
    generalize ups.length = n at *
    go_enter Tryz.func107, Tryz.ntmps107
    go_wp2_with fail
    refine (CK.out).mono ?_
    rintro e w1 ⟨rfl, hb1⟩
    obtain ⟨hc1, hf1⟩ := hb1.cells
    go_wp2_with fail
    refine (CF.out _).mono ?_
    rintro e w' ⟨rfl, rfl⟩
    go_wp2
    go_ret
    refine ⟨rfl, ?_⟩
    repeat (first | with_reducible exact Ext.refl _ | with_reducible assumption | with_reducible refine Ext.alloc ?_ _ | with_reducible refine Ext.drew ?_ | with_reducible refine Ext.drewN ?_ _ | with_reducible refine Ext.setCell ?_ (by simp <;> omega) _ | with_reducible refine Ext.trans ?_ (by assumption))
  · rw [if_neg hg]
    have k : (chk ups != 0) = true := by simpa using hg
    have k2 : (chk ups == 0) = false := by simpa using hg
    generalize chk ups = g at *
    generalize ups.length = n at *
    clear hg
    go_enter Tryz.func107, Tryz.ntmps107
    go_wp2_with fail
    refine (CK.out).mono ?_
    rintro e w2 ⟨rfl, hb2⟩
    obtain ⟨hc2, hf2⟩ := hb2.cells
    go_wp2
    go_ret
    refine ⟨rfl, ?_⟩
    repeat (first | with_reducible exact Ext.refl _ | with_reducible assumption | with_reducible refine Ext.alloc ?_ _ | with_reducible refine Ext.drew ?_ | with_reducible refine Ext.drewN ?_ _ | with_reducible refine Ext.setCell ?_ (by simp <;> omega) _ | with_reducible refine Ext.trans ?_ (by assumption))
/-- is c a consumer of a right graph? -/
theorem allW_bit (ups : List (List Int)) (c : Nat) : (allW ups).testBit c = (decide (chk ups = 0) && decide (c < ups.length)) := by
  unfold allW
  by_cases h : chk ups = 0
  · rw [if_pos h, testBit_full]; simp [h]
  · rw [if_neg h, Nat.zero_testBit]; simp [h]
def inGB (ups : List (List Int)) (c : Int) : Bool := decide (chk ups = 0) && decide (0 ≤ c) && decide (c < (ups.length : Int))
theorem gHasAll (ups : List (List Int)) (c : Int) (w : World) : Calls Tryz.prog 148 #[.int .u64 (allW ups : Nat), .int .i64 c] w fun e w' => e = .returned (.bool (inGB ups c)) ∧ w = w' := by
  have hl := allW_lt ups
  by_cases hc : 0 ≤ c ∧ c < 64
  · obtain ⟨k, rfl⟩ := Int.eq_ofNat_of_zero_le hc.1
    have := gHas (allW ups) k w (by omega) (by omega)
    rw [allW_bit] at this
    rw [show inGB ups (k : Int) = (decide (chk ups = 0) && decide (k < ups.length)) by unfold inGB; rw [Bool.eq_iff_iff]; simp]
    exact this
  · have := gHas_no (allW ups) c w (by omega) hc
    rw [show inGB ups c = false by
      unfold inGB
      by_cases h : chk ups = 0
      · have h6 := (chk_zero.1 h).six
        simp [h]
        omega
      · simp [h]]
    exact this
end Go.Proofs.YtkmfamidahlgiaaGreatDoor
/- group's All and List. -/
namespace Go.Proofs.YtkmfamidahlgiaaGreatDoor
open Go.RowKit Go.Shelf
set_option linter.unusedVariables false
set_option maxHeartbeats 1000000
attribute [local go_sem] later_cell later_frozen later_const
theorem info_int : (Tryz.prog.info? 3).map (fun i => (i.zero, i.size, i.bytes)) = some (some (.int .i64 0), 1, 8) := by kernel_rfl
theorem World.ownsRow.lower {w : World} {base base' e sz : Nat} {v : Value} {n : Nat} {xs : List Value} (h : w.ownsRow base e sz v n xs) (hb : base' ≤ base) : w.ownsRow base' e sz v n xs := by
  refine ⟨h.1, ?_⟩
  rcases h.2 with hn | ⟨g, cap, cur, hv, hg, rest⟩
  · exact .inl hn
  · exact .inr ⟨g, cap, cur, hv, Nat.le_trans hb hg, rest⟩
theorem gAll (x : Nat) (w : World) : Calls Tryz.prog 108 #[.int .u64 x] w fun e w' => e = .returned (.func (.func 151) #[] #[.pointer (some ⟨w.heap.size, 0, none⟩)]) ∧
    w'.cell? ⟨w.heap.size, 0, none⟩ = some (.int .u64 x) ∧ w'.heap.size = w.heap.size + 1 ∧ Ext w w' := by
  go_enter Tryz.func108, Tryz.ntmps108
  go_wp2
  go_ret
  refine ⟨rfl, by simp [go_sem], by simp, ?_⟩
  repeat (first | with_reducible exact Ext.refl _ | with_reducible assumption | with_reducible refine Ext.alloc ?_ _ | with_reducible refine Ext.drew ?_ | with_reducible refine Ext.drewN ?_ _ | with_reducible refine Ext.setCell ?_ (by simp <;> omega) _ | with_reducible refine Ext.trans ?_ (by assumption))
/-- the cells of the first k -/
def rowB (L : List Nat) (k : Nat) : List Value := (L.take k).map fun (j : Nat) => Value.int .i64 (j : Int)
theorem rowB_snoc (L : List Nat) (k : Nat) (h : k < L.length) : rowB L (k + 1) = rowB L k ++ [.int .i64 ((L[k] : Nat) : Int)] := by
  unfold rowB
  rw [List.take_succ_eq_append_getElem h, List.map_append]
  rfl
/-- what a round does -/
def RoundDoes (w0 : World) (base E l pb : Nat) (r : Loop) (v : Value) (k : Nat) (cs : List Value) (z : Int) (W : World) (e : Ending) (W' : World) : Prop :=
  e = .returned (.bool true) ∧ ∃ v', Mid w0 base E 1 l pb r v' (k + 1) (cs ++ [.int .i64 z]) W' ∧ But (fun b => b = l ∨ b = pb ∨ v.ownBlock = some b) W W'
def numI : Option Nat → Int
  | some j => j
  | none => 0
/-- where the iterator stands at the loop's head -/
def ItRel (w0 : World) (base E l pb cb : Nat) (r : Loop) (x : Nat) (n ok : Value) (wr : World) : Prop :=
  ∃ (k : Nat) (v : Value), k ≤ (bitsOf x).length ∧ n = .int .i64 (numI (bitsOf x)[k]?) ∧ ok = .bool (decide (k < (bitsOf x).length)) ∧ wr.cell? ⟨cb, 0, none⟩ = some (.int .u64 x) ∧ Mid w0 base E 1 l pb r v k (rowB (bitsOf x) k) wr
def restI (n ok : Value) : Nat :=
  match n, ok with
  | .int _ z, .bool true => (64 - z).toNat
  | _, _ => 0
theorem nxt_at (x k : Nat) (h : k < (bitsOf x).length) : nxt x (((bitsOf x)[k] : Nat) : Int) = (bitsOf x)[k + 1]? := by
  rw [← find_next (bits_sorted x) k h]
  unfold nxt
  congr 1
  funext j
  rw [decide_eq_decide]
  omega
theorem opt_num (x k : Nat) : optV (bitsOf x)[k]? = .tuple #[.int .i64 (numI (bitsOf x)[k]?), .bool (decide (k < (bitsOf x).length))] := by
  by_cases h : k < (bitsOf x).length
  · rw [List.getElem?_eq_getElem h]; simp [optV, numI, h]
  · rw [List.getElem?_eq_none (by omega)]; simp [optV, numI, h]
theorem rest_less (x k z : Nat) (hz : z < 64) (h : ∀ h : k + 1 < (bitsOf x).length, z < (bitsOf x)[k + 1]) : restI (.int .i64 (numI (bitsOf x)[k + 1]?)) (.bool (decide (k + 1 < (bitsOf x).length))) < restI (.int .i64 (z : Int)) (.bool true) := by
  by_cases hk : k + 1 < (bitsOf x).length
  · have h1 := h hk
    have h2 := bits_lt hk
    rw [List.getElem?_eq_getElem hk]
    simp only [restI, numI, hk, decide_true]
    omega
  · simp only [hk, decide_false]
    simp only [restI]
    omega
theorem gIt (x : Nat) (w0 : World) (base E l pb cb : Nat) (r : Loop) (W : World) (hx : x < 18446744073709551616) (hT : Tab w0)
    (hcb : W.cell? ⟨cb, 0, none⟩ = some (.int .u64 x)) (hl : l < base) (hp : pb < base) (hcb' : cb < base) (hbase : base ≤ W.heap.size) (hcl : cb ≠ l) (hcp : cb ≠ pb) (h0 : w0.heap.size ≤ base)
    (hM : Mid w0 base E 1 l pb r (.slice none 0 0) 0 [] W)
    (hY : ∀ (v : Value) (k : Nat) (cs : List Value) (z : Int) (W : World), Mid w0 base E 1 l pb r v k cs W → k ≤ 1000000 → base ≤ W.heap.size →
      YieldAt Fence.wide 2 Tryz.prog l #[.int .i64 z] W (RoundDoes w0 base E l pb r v k cs z W)) :
    Calls Tryz.prog 151 #[.func (.yield l) #[] #[], .pointer (some ⟨cb, 0, none⟩)] W fun e W' => (∃ v, e = .returned v) ∧ ∃ v k, Mid w0 base E 1 l pb r v k (rowB (bitsOf x) (bitsOf x).length) W' := by
  have HM := Lib.hid hM
  have HY := Lib.hid hY
  have HT := Lib.hid hT
  have HB := Lib.hid hbase
  have hlen := bits_len x
  clear hM hY hT hbase
  have cl := fun w hT => gLeast x w hx hT
  have hd : (bitsOf x).head? = (bitsOf x)[0]? := by cases bitsOf x <;> rfl
  rw [hd] at cl
  have CL := Lib.hid cl
  have H0 : Hid (optV (bitsOf x)[0]? = .tuple #[.int .i64 (numI (bitsOf x)[0]?), .bool (decide (0 < (bitsOf x).length))]) := Lib.hid (by cases bitsOf x <;> rfl)
  clear cl hd
  go_enter Tryz.func151, Tryz.ntmps151
  go_wp2_with fail
  refine (CL.out _ (HT.out.ext HM.out.b)).mono ?_
  rw [H0.out]
  rintro e w' ⟨rfl, rfl⟩
  go_wp2
  go_loopw [3, 4] (fun n ok wr => ItRel w0 base E l pb cb r x n ok wr ∧ base ≤ wr.heap.size) (fun n ok _ => restI n ok)
  case atStart => exact ⟨⟨0, .slice none 0 0, Nat.zero_le _, rfl, rfl, hcb, HM.out⟩, HB.out⟩
  case round =>
    obtain ⟨⟨k, v, hk, rfl, rfl, qc_0, hM⟩, hbs⟩ := hrel
    by_cases hlt : k < (bitsOf x).length
    · have hz := bits_lt hlt
      have hn : (bitsOf x)[k]? = some (bitsOf x)[k] := List.getElem?_eq_getElem hlt
      have N1 := nxt_at x k hlt
      have R1 := rowB_snoc (bitsOf x) k hlt
      have mono : ∀ h : k + 1 < (bitsOf x).length, (bitsOf x)[k] < (bitsOf x)[k + 1] := fun h => bits_mono h (by omega)
      have MONO := Lib.hid mono
      rw [hn, show decide (k < (bitsOf x).length) = true by simpa using hlt]
      generalize hq : (bitsOf x)[k] = z at *
      have HN1 := Lib.hid N1
      have HR1 := Lib.hid R1
      have HMr := Lib.hid hM
      clear mono N1 R1 hq hn hM
      rw [show numI (some z) = (z : Int) from rfl]
      go_upto_region 3 with (fail)
      obtain ⟨fn, tmps, assign, body, hy, hR⟩ := HY.out v k (rowB (bitsOf x) k) z wr HMr.out (by omega) hbs
      have HR := Lib.hid hR
      clear hR
      refine (wpIn_wide (n := 3)).1 ?_
      gi_wp2
      refine HR.out.mono ?_
      rintro e W1 ⟨rfl, v1, hM1, hbut⟩
      have nc : ¬ (cb = l ∨ cb = pb ∨ v.ownBlock = some cb) := by
        rintro (h | h | h)
        · exact hcl h
        · exact hcp h
        · have := (HMr.out.row.lt _ h).1; omega
      replace qc_0 := hbut.cell qc_0 nc
      have hbs1 := Nat.le_trans hbs hbut.size
      rw [← HR1.out] at hM1
      have HM1 := Lib.hid hM1
      clear hM1 hbut nc
      gi_wp2
      have c2 := fun w hT => gNext x (z : Int) w hx (by omega) (by omega) hT
      rw [HN1.out, opt_num] at c2
      have C2 := Lib.hid c2
      have RL := Lib.hid (rest_less x k z hz MONO.out)
      clear c2
      go_wp2_with fail
      refine (C2.out _ (HT.out.ext HM1.out.b)).mono ?_
      rintro e w' ⟨rfl, rfl⟩
      go_wp2
      exact ⟨⟨⟨k + 1, v1, by omega, rfl, rfl, qc_0, HM1.out⟩, hbs1⟩, RL.out⟩
    · obtain rfl : k = (bitsOf x).length := by omega
      have HMr := Lib.hid hM
      clear hM
      rw [show decide ((bitsOf x).length < (bitsOf x).length) = false by simp]
      go_wp2
      go_end0
      exact ⟨⟨_, rfl⟩, v, _, HMr.out⟩
/-- the list, in a slice of the call's own -/
def GListDoes (w : World) (x : Nat) (e : Ending) (w' : World) : Prop := ∃ v, e = .returned v ∧ w'.ownsRow w.heap.size 3 1 v (bitsOf x).length (rowB (bitsOf x) (bitsOf x).length) ∧ Ext w w'
theorem rowB_len (L : List Nat) : (rowB L L.length).length = L.length := by simp [rowB]
set_option maxRecDepth 100000 in
theorem gList (x : Nat) (w : World) (hx : x < 18446744073709551616) (hT : Tab w) : Calls Tryz.prog 110 #[.int .u64 x] w (GListDoes w x) := by
  obtain ⟨i0, hi, hz0, hz1, hz2⟩ := info_parts info_int
  have HT := Lib.hid hT
  clear hT
  refine callsIn_wide.1 (callsIn_of_wp_marks (n := 3) Tryz.func110 rfl trivial ?_ rfl)
  simp only [Tryz.ntmps110, List.size_toArray, List.length_cons, List.length_nil, Nat.reduceAdd, Nat.reduceSub, Array.replicate_succ, Array.replicate_zero, List.push_toArray, List.append_toArray, List.nil_append, List.cons_append]
  refine wpIn_wide.2 ?_
  go_wp2_with fail
  refine (gAll _ _).mono ?_
  rintro e w2 ⟨rfl, c0, hz, hb2⟩
  have qp := hb2.cell (b := w.heap.size) (o := 0) (v := .slice none 0 0) (by simp [go_sem])
  have zp := hb2.frozen (b := w.heap.size) (o := 0) (v := .slice none 0 0) (by simp [go_sem]) (by simp [go_sem])
  go_wp2
  have hsz2 : w2.heap.size = w.heap.size + 2 := by rw [hz]; simp
  have hle2 : w.heap.size + 2 ≤ w2.heap.size := by omega
  have hge2 : w2.heap.size ≤ w.heap.size + 2 := by omega
  clear hz hsz2
  have E2 : Ext w w2 := by repeat (first | with_reducible exact Ext.refl _ | with_reducible assumption | with_reducible refine Ext.alloc ?_ _ | with_reducible refine Ext.drew ?_ | with_reducible refine Ext.drewN ?_ _ | with_reducible refine Ext.setCell ?_ (by simp <;> omega) _ | with_reducible refine Ext.trans ?_ (by assumption))
  refine wp_range (gf := 151) rfl (enters_of Tryz.func151 (by kernel_rfl) rfl) ?_
  intro fn rec hrec
  simp only [List.append_toArray, List.nil_append, List.cons_append]
  have hdef : rec.defers = w2.heap.size := by rw [hrec]; rfl
  obtain ⟨W0, hW0⟩ : ∃ W0, (w2.alloc (.deferred (some []))).alloc (.loop rec) = W0 := ⟨_, rfl⟩
  rw [hW0]
  have X0 : Ext w2 W0 := by rw [← hW0]; exact ((Ext.refl _).alloc _).alloc _
  have hs0 : W0.heap.size = w2.heap.size + 2 := by rw [← hW0]; simp
  have M0 : Mid w (w2.heap.size + 2) 3 1 (w2.heap.size + 1) w.heap.size rec (.slice none 0 0) 0 [] W0 := by
    refine ⟨?_, ?_, X0.cell qp, X0.frozen qp zp, World.ownsRow_nil _ _ _ _, E2.trans X0⟩
    · rw [← hW0]; have := World.alloc_heap_new (w2.alloc (.deferred (some []))) (.loop rec); rwa [World.size_alloc] at this
    · rw [hdef, ← hW0]; exact (Below.heap_alloc _ _ _ (by simp)).trans (World.alloc_heap_new w2 _)
  have c0' := X0.cell (b := w.heap.size + 1) (o := 0) (v := .int .u64 x) (by simpa using c0)
  refine (gIt x w (w2.heap.size + 2) 3 (w2.heap.size + 1) w.heap.size (w.heap.size + 1) rec W0 hx HT.out c0' (by omega) (by omega) (by omega) (by omega) (by omega) (by omega) (by omega) M0 ?hY).mono ?_
  case hY =>
    intro v k cs z W hM hk1 hbs
    have hy := run_yield (P := Tryz.prog) (args := #[.int .i64 z]) hM.L (by rw [hrec]; rfl)
    simp [hrec, recOf] at hy
    refine ⟨_, _, _, _, hy, ?_⟩
    refine roundIn_of_wpIn trivial ?_
    refine region_round_list (by kernel_rfl) ?_
    have HM := Lib.hid hM
    clear hM
    have hbW : w.heap.size < W.heap.size := World.block_lt_of_cell? _ ⟨w.heap.size, 0, none⟩ HM.out.c
    go_wp2
    have MW := HM.out
    obtain ⟨W5, hW5⟩ : ∃ W5, W.putObj (w2.heap.size + 1) (.loop { rec with state := .busy }) = W5 := ⟨_, rfl⟩
    have B5 : But (· = w2.heap.size + 1) W W5 := by rw [← hW5]; exact but_putObj _ _ _
    have hbegin := run_beginRound (P := Tryz.prog) MW.L (by rw [hrec]; rfl)
    rw [hW5] at hbegin
    have L5 : W5.heap[w2.heap.size + 1]? = some (.loop { rec with state := .busy }) := by
      rw [← hW5]; exact World.putObj_heap_same (by omega)
    have K5 := B5.heap MW.K (by omega)
    have q5 := B5.cell MW.c (by omega)
    have z5 := B5.frozen MW.c MW.f (by omega)
    have R5 := B5.row MW.row (fun g hg e => by have := (MW.row.lt g hg).1; omega)
    have T5 : But (fun b => b = w2.heap.size + 1 ∨ b = w.heap.size ∨ v.ownBlock = some b) W W5 := B5.mono fun k _ e => .inl e
    have X5 := B5.ext MW.b (fun i e => by omega)
    have S5 := B5.size
    have HT5 := Lib.hid T5
    have HR5 := Lib.hid R5
    have HK5 := Lib.hid K5
    have HL5 := Lib.hid L5
    have HREC := Lib.hid hrec
    have HX5 := Lib.hid X5
    have HHDEF := Lib.hid hdef
    clear B5 T5 R5 K5 L5 hW5 hW0 M0 X0 c0 c0' qp zp hy hrec X5 MW hdef
    show ∃ w₂, (Instr.beginRound _).run Tryz.prog _ = .ok () w₂ ∧ _
    refine ⟨W5, hbegin, ?_⟩
    clear hbegin
    refine wpIn_block ?_
    refine region_round_list (by kernel_rfl) ?_
    go_wp2_with (at_builtin; refine wpList_append_lies _ rfl _ _ 35 rfl (w2.heap.size + 2) 3 i0 (.int .i64 0) 1 8 Tryz.underlying35 hi hz0 hz1 hz2 rfl (by decide) _ _ _ rfl (HR5.out.alloc _) ⟨W5.heap.size, 0, none⟩ 1 1 [.int .i64 z] rfl rfl ?c1 ?c2 (by decide) ?c3 ?c4 ?c5 (W5.heap.size + 1) ?c6 ?_)
    case c1 =>
      intro j u hj
      match j, hj with
      | 0, hj => simp at hj; subst hj; simp [Addr.add]
    case c2 => intro u hu; simp at hu; subst hu; rfl
    case c3 => unfold maxLen; omega
    case c4 => omega
    case c5 => simp; omega
    case c6 => simp
    have X7 : Ext W5 (W5.alloc (.cells #[.int .i64 z] 3)) := (Ext.refl _).alloc _
    have q7 := X7.cell q5
    have z7 := X7.frozen q5 z5
    generalize W5.alloc (.cells #[.int .i64 z] 3) = W7 at *
    have HX7 := Lib.hid X7
    have S7 := X7.size
    clear X7
    intro g cap w8 hown8 hgrow8 hat8 hlt8
    have hvp : ∀ b, b < w2.heap.size + 2 → ¬ v.ownBlock = some b := fun b hb e => by have := (HR5.out.lt b e).1; omega
    have B8 := but_grown hgrow8
    have q8 := B8.cell q7 (hvp _ (by omega))
    have z8 := B8.frozen q7 z7 (hvp _ (by omega))
    have hgb : w2.heap.size + 2 ≤ g := (hown8.lt g rfl).1
    have HO8 := Lib.hid hown8
    have HB8 := Lib.hid B8
    have HVP := Lib.hid hvp
    clear hown8 B8 hat8 hgrow8 hvp
    go_wp2
    show ∃ v w', (Instr.endRound _ none).run Tryz.prog _ = .ok v w' ∧ _
    have X7 := HX7.out
    have B9 := but_setCell w8 ⟨w.heap.size, 0, none⟩ (.slice (some ⟨g, 0, none⟩) (k + 1) cap)
    have c9 : (w8.setCell ⟨w.heap.size, 0, none⟩ (.slice (some ⟨g, 0, none⟩) (k + 1) cap)).cell? ⟨w.heap.size, 0, none⟩ = some (.slice (some ⟨g, 0, none⟩) (k + 1) cap) := World.cell?_setCell_same' _ _ _ (by rw [q8]; rfl)
    have z9 : (w8.setCell ⟨w.heap.size, 0, none⟩ (.slice (some ⟨g, 0, none⟩) (k + 1) cap)).frozen? ⟨w.heap.size, 0, none⟩ = false := by rw [World.frozen?_setCell]; exact z8
    generalize w8.setCell ⟨w.heap.size, 0, none⟩ (.slice (some ⟨g, 0, none⟩) (k + 1) cap) = W9 at *
    have hdef := HHDEF.out
    have L9 := B9.heap (HB8.out.heap ((X7.but (fun _ => False)).heap HL5.out id) (HVP.out _ (by omega))) (by simp; omega)
    have K9 := B9.heap (HB8.out.heap ((X7.but (fun _ => False)).heap HK5.out id) (HVP.out _ (by omega))) (by simp; omega)
    have R9 := B9.row HO8.out (fun g' hg' e => by simp [Value.ownBlock] at hg' e; omega)
    refine ⟨_, _, run_endRound none L9, rfl, .slice (some ⟨g, 0, none⟩) (k + 1) cap, ?_, ?_⟩
    · have erec : ({ ({ rec with state := .busy } : Loop) with state := if (none : Option Code).isNone = true then LoopState.ready else LoopState.done, pending := none } : Loop) = rec := by rw [HREC.out]; rfl
      rw [erec]
      have BL := but_putObj W9 (w2.heap.size + 1) (.loop rec)
      exact ⟨World.putObj_heap_same (Array.getElem?_eq_some_iff.1 L9).1, BL.heap K9 (by omega), BL.cell c9 (by omega), BL.frozen c9 z9 (by omega), BL.row R9 (fun g' hg' e => by simp [Value.ownBlock] at hg' e; omega),
        BL.ext (B9.ext (HB8.out.ext (HX5.out.trans X7) (fun i e => by have := (HR5.out.lt i e).1; omega)) (fun i e => by simp at e; omega)) (fun i e => by omega)⟩
    · exact HT5.out.trans ((X7.but _).trans ((HB8.out.mono fun b _ e => .inr (.inr e)).trans ((B9.mono fun b _ e => .inr (.inl e)).trans ((but_putObj W9 (w2.heap.size + 1) _).mono fun b _ e => .inl e))))
  rintro e W3 ⟨hv, v, k, hM⟩
  refine ⟨hv, hM.L, fun W4 o4 hW4 => ?_⟩
  have B4 : But (· = w2.heap.size + 1) W3 W4 := by rw [hW4]; exact but_putObj _ _ _
  clear hW4
  have q4 := B4.cell hM.c (by omega)
  have K4 := B4.heap hM.K (by omega)
  have R4 := B4.row hM.row (fun g hg e => by have := (hM.row.lt g hg).1; omega)
  have X4 := B4.ext hM.b (fun i e => by omega)
  rw [hdef] at K4
  clear c0 c0' qp zp
  go_wp2
  refine ⟨by simp, .inl ⟨_, _, rfl, run_takeDeferred K4, ?_⟩⟩
  have BD := but_putObj W4 w2.heap.size (.deferred none)
  refine ⟨_, results_tmp rfl _ _ _, ?_⟩
  have hRD := BD.row R4 (fun g hg e => by have := (R4.lt g hg).1; omega)
  have hk : k = (bitsOf x).length := by
    have := hRD.1
    rw [rowB_len] at this
    omega
  subst hk
  exact ⟨v, rfl, World.ownsRow.lower hRD (by have := E2.size; omega), BD.ext X4 (fun i e => by omega)⟩
end Go.Proofs.YtkmfamidahlgiaaGreatDoor
/- A range over a group's All: the iterator with any invariant; the statement. -/
namespace Go.Proofs.YtkmfamidahlgiaaGreatDoor
open Go.RowKit
set_option linter.unusedVariables false
set_option maxHeartbeats 1000000
theorem gItG (x cb l : Nat) (I : Nat → World → Prop) (W : World) (hx : x < 18446744073709551616) (hT : ∀ k W, I k W → Tab W) (hc : ∀ k W, I k W → W.cell? ⟨cb, 0, none⟩ = some (.int .u64 x)) (h0 : I 0 W)
    (hY : ∀ k (hk : k < (bitsOf x).length) (W : World), I k W → YieldAt Fence.wide 2 Tryz.prog l #[.int .i64 (((bitsOf x)[k] : Nat) : Int)] W (fun e W' => e = .returned (.bool true) ∧ I (k + 1) W')) :
    Calls Tryz.prog 151 #[.func (.yield l) #[] #[], .pointer (some ⟨cb, 0, none⟩)] W fun e W' => (∃ v, e = .returned v) ∧ I (bitsOf x).length W' := by
  have qc0 := hc 0 W h0
  have HI := Lib.hid h0
  have HY := Lib.hid hY
  have HT := Lib.hid hT
  have HC := Lib.hid hc
  have hlen := bits_len x
  have cl := fun w hT => gLeast x w hx hT
  have hd : (bitsOf x).head? = (bitsOf x)[0]? := by cases bitsOf x <;> rfl
  rw [hd] at cl
  have CL := Lib.hid cl
  have H0 : Hid (optV (bitsOf x)[0]? = .tuple #[.int .i64 (numI (bitsOf x)[0]?), .bool (decide (0 < (bitsOf x).length))]) := Lib.hid (by cases bitsOf x <;> rfl)
  clear cl hd h0 hY hT hc
  go_enter Tryz.func151, Tryz.ntmps151
  go_wp2_with fail
  refine (CL.out _ (HT.out _ _ HI.out)).mono ?_
  rw [H0.out]
  rintro e w' ⟨rfl, rfl⟩
  go_wp2
  go_loopw [3, 4] (fun n ok wr => ∃ k : Nat, k ≤ (bitsOf x).length ∧ n = .int .i64 (numI (bitsOf x)[k]?) ∧ ok = .bool (decide (k < (bitsOf x).length)) ∧ Hid (I k wr)) (fun n ok _ => restI n ok)
  case atStart => exact ⟨0, Nat.zero_le _, rfl, rfl, HI⟩
  case round =>
    obtain ⟨k, hk, rfl, rfl, HK⟩ := hrel
    clear qc0
    by_cases hlt : k < (bitsOf x).length
    · have hz := bits_lt hlt
      have hn : (bitsOf x)[k]? = some (bitsOf x)[k] := List.getElem?_eq_getElem hlt
      have N1 := nxt_at x k hlt
      have mono : ∀ h : k + 1 < (bitsOf x).length, (bitsOf x)[k] < (bitsOf x)[k + 1] := fun h => bits_mono h (by omega)
      have MONO := Lib.hid mono
      have HYK := Lib.hid (HY.out k hlt wr HK.out)
      rw [hn, show decide (k < (bitsOf x).length) = true by simpa using hlt]
      generalize hq : (bitsOf x)[k] = z at *
      have HN1 := Lib.hid N1
      clear mono N1 hq hn
      rw [show numI (some z) = (z : Int) from rfl]
      go_upto_region 3 with (fail)
      obtain ⟨fn, tmps, assign, body, hy, hR⟩ := HYK.out
      have HR := Lib.hid hR
      clear hR
      refine (wpIn_wide (n := 3)).1 ?_
      gi_wp2
      refine HR.out.mono ?_
      rintro e W1 ⟨rfl, hI1⟩
      have qc := HC.out _ _ hI1
      have HI1 := Lib.hid hI1
      clear hI1
      gi_wp2
      have c2 := fun w hT => gNext x (z : Int) w hx (by omega) (by omega) hT
      rw [HN1.out, opt_num] at c2
      have C2 := Lib.hid c2
      have RL := Lib.hid (rest_less x k z hz MONO.out)
      clear c2
      go_wp2_with fail
      refine (C2.out _ (HT.out _ _ HI1.out)).mono ?_
      rintro e w' ⟨rfl, rfl⟩
      go_wp2
      exact ⟨⟨k + 1, by omega, rfl, rfl, HI1⟩, RL.out⟩
    · obtain rfl : k = (bitsOf x).length := by omega
      rw [show decide ((bitsOf x).length < (bitsOf x).length) = false by simp]
      go_wp2
      go_end0
      exact ⟨⟨_, rfl⟩, HK.out⟩
/-- a round's body is left off its end, the loop's blocks as they were -/
def RP (w2 : World) (J : World → Prop) (W5 : World) : Exit → Act → World → Prop
  | .normal, _, W' => J W' ∧ W'.heap[w2.heap.size]? = W5.heap[w2.heap.size]? ∧ W'.heap[w2.heap.size + 1]? = W5.heap[w2.heap.size + 1]? ∧ W5.heap.size ≤ W'.heap.size
  | _, _, _ => False
theorem range_bits {g : Operand} {ps : Array Tmp} {assign body : Code} {Q : Exit → Act → World → Prop} {a : Act} {w2 : World} (x cb : Nat) (J : Nat → World → Prop)
    (hg : a.eval g = .func (.func 151) #[] #[.pointer (some ⟨cb, 0, none⟩)]) (hx : x < 18446744073709551616) (hps : ps.size = 1)
    (hT : ∀ k W, J k W → Tab W) (hc : ∀ k W, J k W → W.cell? ⟨cb, 0, none⟩ = some (.int .u64 x))
    (stab : ∀ k W W', J k W → But (fun b => w2.heap.size ≤ b) W W' → J k W') (h0 : J 0 w2)
    (hbody : ∀ k (hk : k < (bitsOf x).length) (W : World), J k W → w2.heap.size + 2 ≤ W.heap.size →
      assign.wpIn (Fence.wide.inRound (w2.heap.size + 1)) 2 Tryz.prog (Exit.then (fun a₁ w₁ => w₁ = W ∧ ∀ W5, J k W5 → w2.heap.size + 2 ≤ W5.heap.size → body.wpIn (Fence.wide.inRound (w2.heap.size + 1)) 2 Tryz.prog (RP w2 (J (k + 1)) W5) a₁ W5) (fun _ _ _ => False))
        { tmps := (ps.zip #[.int .i64 (((bitsOf x)[k] : Nat) : Int)]).foldl (fun t (p, v) => t.setIfInBounds p v) a.tmps, defers := [] } W)
    (hend : ∀ W', J (bitsOf x).length W' → W'.heap[w2.heap.size]? = some (.deferred (some [])) → Q .normal { a with defers := { target := .collected w2.heap.size, args := #[] } :: a.defers } W') :
    (Code.rangeFunc g ps assign body).wp Tryz.prog Q a w2 := by
  refine wp_range (gf := 151) hg (enters_of Tryz.func151 (by kernel_rfl) rfl) ?_
  intro fn rec hrec
  obtain ⟨W0, hW0⟩ : ∃ W0, (w2.alloc (.deferred (some []))).alloc (.loop rec) = W0 := ⟨_, rfl⟩
  rw [hW0]
  have X0 : Ext w2 W0 := by rw [← hW0]; exact ((Ext.refl _).alloc _).alloc _
  have hs0 : W0.heap.size = w2.heap.size + 2 := by rw [← hW0]; simp
  have hdef : rec.defers = w2.heap.size := by rw [hrec]; rfl
  have hst : rec.state = .ready := by rw [hrec]; rfl
  have hL0 : W0.heap[w2.heap.size + 1]? = some (.loop rec) := by rw [← hW0]; have := World.alloc_heap_new (w2.alloc (.deferred (some []))) (.loop rec); rwa [World.size_alloc] at this
  have hK0 : W0.heap[w2.heap.size]? = some (.deferred (some [])) := by rw [← hW0]; exact (Below.heap_alloc _ _ _ (by simp)).trans (World.alloc_heap_new w2 _)
  refine (gItG x cb (w2.heap.size + 1) (fun k W => J k W ∧ W.heap[w2.heap.size + 1]? = some (.loop rec) ∧ W.heap[w2.heap.size]? = some (.deferred (some [])) ∧ w2.heap.size + 2 ≤ W.heap.size) W0 hx (fun k W h => hT k W h.1) (fun k W h => hc k W h.1) ⟨stab 0 w2 W0 h0 (X0.but _), hL0, hK0, by omega⟩ ?_).mono ?_
  · rintro k hk W ⟨hJ, hL, hK, hs⟩
    have hy := run_yield (P := Tryz.prog) (args := #[.int .i64 (((bitsOf x)[k] : Nat) : Int)]) hL (by rw [hrec]; simp [recOf, hps])
    refine ⟨_, _, _, _, hy, roundIn_of_wpIn trivial ?_⟩
    have hb := hbody k hk W hJ hs
    have e1 : rec.assign = assign := by rw [hrec]; rfl
    have e2 : rec.body = body := by rw [hrec]; rfl
    have e3 : rec.params = ps := by rw [hrec]; rfl
    have e4 : rec.tmps = a.tmps := by rw [hrec]; rfl
    rw [e1, e2, e3, e4]
    refine wpIn_mono hb ?_
    intro e a₁ w₁ h
    cases e with
    | normal =>
      obtain ⟨rfl, hbd⟩ := h
      have hbu := but_putObj w₁ (w2.heap.size + 1) (.loop { rec with state := .busy })
      refine ⟨_, run_beginRound hL hst, wpIn_mono (hbd _ (stab k _ _ hJ (hbu.mono fun b _ e => by omega)) (by have := hbu.size; omega)) ?_⟩
      intro e a' W' hh
      cases e with
      | normal =>
        obtain ⟨hJ', hK', hL', hS'⟩ := hh
        have hlt : w2.heap.size + 1 < w₁.heap.size := by omega
        rw [World.putObj_heap_same hlt] at hL'
        rw [World.putObj_heap_other (by omega), hK] at hK'
        have hsz := hbu.size
        refine ⟨_, _, run_endRound none hL', rfl, ?_⟩
        have erec : ({ ({ rec with state := .busy } : Loop) with state := if (none : Option Code).isNone = true then LoopState.ready else LoopState.done, pending := none } : Loop) = rec := by rw [hrec]; rfl
        rw [erec]
        have BL := but_putObj W' (w2.heap.size + 1) (.loop rec)
        have hlt' : w2.heap.size + 1 < W'.heap.size := (Array.getElem?_eq_some_iff.1 hL').1
        exact ⟨stab _ _ _ hJ' (BL.mono fun b _ e => by omega), World.putObj_heap_same hlt', BL.heap hK' (by omega), by have := BL.size; omega⟩
      | _ => exact hh.elim
    | _ => exact h.elim
  · rintro e W3 ⟨hv, hJ, hL, hK, hs⟩
    refine ⟨hv, hL, fun W4 o4 hW4 => ?_⟩
    have B4 : But (· = w2.heap.size + 1) W3 W4 := by rw [hW4]; exact but_putObj _ _ _
    exact hend W4 (stab _ _ _ hJ (B4.mono fun b _ e => by omega)) (B4.heap hK (by omega))
end Go.Proofs.YtkmfamidahlgiaaGreatDoor
/- graph's Roots, Ends and Below. -/
namespace Go.Proofs.YtkmfamidahlgiaaGreatDoor
open Go.RowKit
set_option linter.unusedVariables false
set_option maxHeartbeats 1000000
attribute [local go_sem] Oper.semAt_some
theorem gListI (x : Nat) (w : World) (hx : x < 18446744073709551616) (hT : Tab w) : Calls Tryz.prog 110 #[.int .u64 x] w (GivesI w ((bitsOf x).map fun (i : Nat) => (i : Int))) := by
  refine (gList x w hx hT).mono ?_
  rintro e w' ⟨v, rfl, hr, hX⟩
  refine ⟨v, rfl, ?_, hX⟩
  unfold RI
  rw [List.length_map, List.map_map]
  unfold rowB at hr
  rw [List.take_length] at hr
  exact hr
/-- three blocks of the call's own: what is read, what is written, the iterator's word -/
structure Cells3 (w : World) (p q r : Nat) (vp vq vr : Value) (W : World) : Prop where
  x : Ext w W
  cp : W.cell? ⟨p, 0, none⟩ = some vp
  cq : W.cell? ⟨q, 0, none⟩ = some vq
  z : W.frozen? ⟨q, 0, none⟩ = false
  cr : W.cell? ⟨r, 0, none⟩ = some vr
theorem Cells3.but {w : World} {p q r : Nat} {vp vq vr : Value} {W W' : World} {S : Nat → Prop} (h : Cells3 w p q r vp vq vr W) (hb : But S W W') (h0 : ∀ i, S i → w.heap.size ≤ i) (hp : ¬ S p) (hq : ¬ S q) (hr : ¬ S r) : Cells3 w p q r vp vq vr W' :=
  ⟨hb.ext h.x h0, hb.cell h.cp hp, hb.cell h.cq hq, hb.frozen h.cq h.z hq, hb.cell h.cr hr⟩
theorem Cells3.set {w : World} {p q r : Nat} {vp vq vr : Value} {W : World} (h : Cells3 w p q r vp vq vr W) (hq : w.heap.size ≤ q) (hpq : p ≠ q) (hrq : r ≠ q) (u : Value) : Cells3 w p q r vp u vr (W.setCell ⟨q, 0, none⟩ u) := by
  refine ⟨h.x.setCell hq _, ?_, World.cell?_setCell_same _ _ _ h.cq, by rw [World.frozen?_setCell]; exact h.z, ?_⟩
  · rw [World.cell?_setCell_other _ _ _ _ (by intro e; cases e; exact hpq rfl)]; exact h.cp
  · rw [World.cell?_setCell_other _ _ _ _ (by intro e; cases e; exact hrq rfl)]; exact h.cr
def isE (ups : List (List Int)) (c : Nat) : Bool := decide ((ups.getD c []).length = 0)
/-- the roots, where the first k are gone through -/
def rootK (ups : List (List Int)) (k : Nat) : Nat := wordOf fun c => decide (c < ups.length) && (decide (k ≤ c) || isE ups c)
theorem rootK_zero {ups : List (List Int)} (h6 : ups.length ≤ 6) : rootK ups 0 = 2 ^ ups.length - 1 := by
  unfold rootK
  rw [← word_full h6]
  congr 1
  funext c
  simp
theorem rootK_skip {ups : List (List Int)} {k : Nat} (he : isE ups k = true) : rootK ups (k + 1) = rootK ups k := by
  unfold rootK
  refine wordOf_congr fun c hc => ?_
  by_cases e : c = k
  · subst e; simp [he]
  · have : (k + 1 ≤ c) ↔ (k ≤ c) := by omega
    simp [this]
theorem rootK_cut {ups : List (List Int)} {k : Nat} (hk : k < 6) (he : isE ups k = false) : lessN (rootK ups k) (2 ^ k) = rootK ups (k + 1) := by
  unfold rootK
  rw [less_word _ _ hk]
  refine wordOf_congr fun c hc => ?_
  by_cases e : c = k
  · subst e; simp [he]
  · have : (k + 1 ≤ c) ↔ (k ≤ c) := by omega
    simp [this, e]
theorem bit_at {ups : List (List Int)} {x k : Nat} (hx : x = allW ups) (hk : k < (bitsOf x).length) : Rt ups ∧ k < ups.length ∧ (bitsOf x)[k] = k := by
  unfold allW at hx
  by_cases h : chk ups = 0
  · rw [if_pos h] at hx
    have rt := chk_zero.1 h
    have hb := bits_full rt.six
    rw [← hx] at hb
    have h1 : k < ups.length := by rw [hb] at hk; simpa using hk
    refine ⟨rt, h1, ?_⟩
    simp only [hb, List.getElem_range]
  · rw [if_neg h] at hx
    subst hx
    rw [bits_zero] at hk
    simp at hk
end Go.Proofs.YtkmfamidahlgiaaGreatDoor
/- graph's Below. -/
namespace Go.Proofs.YtkmfamidahlgiaaGreatDoor
open Go.RowKit
set_option linter.unusedVariables false
set_option maxHeartbeats 1000000
attribute [local go_sem] Oper.semAt_some later_cell later_frozen later_const
/-- is c above d? (c any number) -/
def bcB (ups : List (List Int)) (c : Int) (d : Nat) : Bool := decide (0 ≤ c) && decide (c < 6) && tab ups (d * 6 + c.toNat)
theorem gHasAb (ups : List (List Int)) (c : Int) (d : Nat) (w : World) : Calls Tryz.prog 148 #[.int .u64 (abw ups d : Nat), .int .i64 c] w fun e w' => e = .returned (.bool (bcB ups c d)) ∧ w = w' := by
  have hl := abw_lt ups d
  by_cases hc : 0 ≤ c ∧ c < 64
  · obtain ⟨k, rfl⟩ := Int.eq_ofNat_of_zero_le hc.1
    have := gHas (abw ups d) k w (by omega) (by omega)
    by_cases h6 : k < 6
    · rw [abw_bit _ _ _ h6] at this
      rw [show bcB ups (k : Int) d = tab ups (d * 6 + k) by
        have h1 : (k : Int) < 6 := by omega
        unfold bcB
        rw [decide_eq_true (show (0 : Int) ≤ k by omega), decide_eq_true h1, Int.toNat_natCast]
        simp]
      exact this
    · rw [bit_high hl (by omega)] at this
      rw [show bcB ups (k : Int) d = false by
        unfold bcB
        rw [decide_eq_false (show ¬ (k : Int) < 6 by omega)]
        simp]
      exact this
  · have := gHas_no (abw ups d) c w (by omega) hc
    rw [show bcB ups c d = false by
      unfold bcB
      by_cases h0 : 0 ≤ c
      · rw [decide_eq_false (show ¬ c < 6 by omega)]; simp
      · rw [decide_eq_false h0]; simp]
    exact this
def blwK (ups : List (List Int)) (c : Int) (k : Nat) : Nat := wordOf fun d => decide (d < k) && (decide (d < ups.length) && bcB ups c d)
theorem blwK_zero (ups : List (List Int)) (c : Int) : blwK ups c 0 = 0 := word_zero fun i _ => by simp
theorem blwK_skip {ups : List (List Int)} {c : Int} {k : Nat} (h : bcB ups c k = false) : blwK ups c (k + 1) = blwK ups c k := by
  unfold blwK
  refine wordOf_congr fun d hd => ?_
  by_cases e : d = k
  · subst e; simp [h]
  · have : (d < k + 1) ↔ (d < k) := by omega
    simp [this]
theorem blwK_add {ups : List (List Int)} {c : Int} {k : Nat} (hk : k < 6) (hn : k < ups.length) (h : bcB ups c k = true) : blwK ups c k ||| 2 ^ k = blwK ups c (k + 1) := by
  unfold blwK
  rw [or_word _ _ hk]
  refine wordOf_congr fun d hd => ?_
  by_cases e : d = k
  · subst e; simp [h, hn]
  · have : (d < k + 1) ↔ (d < k) := by omega
    simp [this, e]
end Go.Proofs.YtkmfamidahlgiaaGreatDoor
/- graph's Ends. -/
namespace Go.Proofs.YtkmfamidahlgiaaGreatDoor
open Go.RowKit
set_option linter.unusedVariables false
set_option maxHeartbeats 1000000
attribute [local go_sem] Oper.semAt_some later_cell later_frozen later_const
/-- who is no end as far as the first k lists, and j of the next one, tell -/
def endF (ups : List (List Int)) (k j c : Nat) : Bool := decide (c < ups.length) && (!((List.range k).any fun d => (ups.getD d []).contains (c : Int)) && !((ups.getD k []).take j).contains (c : Int))
def endK (ups : List (List Int)) (k j : Nat) : Nat := wordOf (endF ups k j)
theorem endK_zero {ups : List (List Int)} (h6 : ups.length ≤ 6) : endK ups 0 0 = 2 ^ ups.length - 1 := by
  unfold endK
  rw [← word_full h6]
  congr 1
  funext c
  simp [endF]
theorem endK_cut {ups : List (List Int)} {k j a : Nat} (hj : j < (ups.getD k []).length) (ha : (ups.getD k []).getD j 0 = (a : Int)) (h6 : a < 6) : lessN (endK ups k j) (2 ^ a) = endK ups k (j + 1) := by
  unfold endK
  rw [less_word _ _ h6]
  refine wordOf_congr fun c hc => ?_
  unfold endF
  generalize hl : ups.getD k [] = l at *
  rw [List.take_succ_eq_append_getElem hj, show l[j] = (a : Int) by rw [← ha]; simp [hj]]
  have e : (l.take j ++ [(a : Int)]).contains (c : Int) = ((l.take j).contains (c : Int) || decide (c = a)) := by
    rw [Bool.eq_iff_iff]
    simp only [List.contains_eq_mem, decide_eq_true_eq, List.mem_append, List.mem_singleton, Bool.or_eq_true]
    constructor
    · rintro (h | h)
      · exact .inl h
      · exact .inr (by omega)
    · rintro (h | h)
      · exact .inl h
      · exact .inr (by omega)
  rw [e]
  generalize (l.take j).contains (c : Int) = b1
  generalize ((List.range k).any fun d => (ups.getD d []).contains (c : Int)) = b2
  generalize decide (c < ups.length) = b3
  generalize decide (c = a) = b4
  cases b1 <;> cases b2 <;> cases b3 <;> cases b4 <;> rfl
theorem endK_next (ups : List (List Int)) (k : Nat) : endK ups k (ups.getD k []).length = endK ups (k + 1) 0 := by
  unfold endK
  refine wordOf_congr fun c hc => ?_
  unfold endF
  rw [List.take_length, List.range_succ, List.any_append]
  simp only [List.any_cons, List.any_nil, Bool.or_false, List.take_zero, List.contains_nil, Bool.not_false, Bool.and_true, Bool.not_or]
theorem endK_done (ups : List (List Int)) : endK ups ups.length 0 = wordOf fun c => decide (c < ups.length) && !aheadB ups c := by
  unfold endK
  refine wordOf_congr fun c hc => ?_
  unfold endF aheadB
  simp
set_option maxRecDepth 100000 in
theorem gEnds (v : Value) (ups : List (List Int)) (w : World) (hL : ListsV w v ups) (hll : ∀ l ∈ ups, l.length ≤ 1000000) (hn : ups.length ≤ 1000000) (hT : Tab w) :
    Calls Tryz.prog 55 #[v] w (GivesI w (if chk ups = 0 then sel ups.length (fun c => !aheadB ups c) else [])) := by
  have CA := Lib.hid (fun w' (hx : Ext w w') => g9all v ups w' (hL.ext hx) hll hn)
  have hx := allW_lt ups
  have HT := Lib.hid hT
  have HL := Lib.hid hL
  have hll5 : ∀ k, k < ups.length → (ups.getD k []).length ≤ 1000000 := fun k hk => hll _ (by rw [getD_at _ _ _ hk]; exact List.getElem_mem hk)
  have HLL := Lib.hid hll5
  obtain ⟨a, cap, e, -⟩ := id hL
  subst e
  clear hT hL hll hll5
  obtain ⟨x, hxe⟩ : ∃ x, x = allW ups := ⟨_, rfl⟩
  rw [← hxe] at CA hx
  have HXE := Lib.hid hxe
  clear hxe
  obtain ⟨n, hN⟩ : ∃ n, n = ups.length := ⟨_, rfl⟩
  rw [← hN] at hn CA HL
  have HE := Lib.hid hN
  generalize hG : GivesI w (if chk ups = 0 then sel ups.length (fun c => !aheadB ups c) else []) = G
  have HG := Lib.hid hG
  rw [← hN]
  clear hN hG
  refine callsIn_wide.1 (callsIn_of_wp_marks (n := 3) Tryz.func55 rfl trivial ?_ rfl)
  simp only [Tryz.ntmps55, List.size_toArray, List.length_cons, List.length_nil, Nat.reduceAdd, Nat.reduceSub, Array.replicate_succ, Array.replicate_zero, List.push_toArray, List.append_toArray, List.nil_append, List.cons_append]
  refine wpIn_wide.2 ?_
  go_wp2_with fail
  refine (CA.out _ ((Ext.refl w).alloc _)).mono ?_
  rintro e w0 ⟨rfl, X1⟩
  have q1 : w0.cell? ⟨w.heap.size, 0, none⟩ = some (.slice a n cap) := X1.cell (by simp [go_sem])
  have E1 : Ext w w0 := ((Ext.refl w).alloc _).trans X1
  have hs1 : w.heap.size < w0.heap.size := World.block_lt_of_cell? w0 _ q1
  clear X1
  go_wp2_with fail
  refine (CA.out _ (E1.alloc _)).mono ?_
  rintro e w1 ⟨rfl, X1⟩
  have q1' := X1.cell (((Ext.refl w0).alloc (.cells #[.int .u64 x] 163)).cell q1)
  have s1 : w1.cell? ⟨w0.heap.size, 0, none⟩ = some (.int .u64 x) := X1.cell (by simp [go_sem])
  have z1 : w1.frozen? ⟨w0.heap.size, 0, none⟩ = false := X1.frozen (v := .int .u64 x) (by simp [go_sem]) (by simp [go_sem])
  have E1' : Ext w w1 := (E1.alloc _).trans X1
  have hs3 : w0.heap.size < w1.heap.size := World.block_lt_of_cell? w1 _ s1
  clear X1 q1 E1
  go_wp2_with fail
  refine (gAll _ _).mono ?_
  rintro e w2 ⟨rfl, c0, hz, hb2⟩
  have q2 := hb2.cell q1'
  have c2 := hb2.cell s1
  have z2 := hb2.frozen s1 z1
  have E2 := E1'.trans hb2
  have HS2 := Lib.hid hz
  clear hz hb2 q1' s1 z1 E1'
  obtain ⟨rk, hrk⟩ : ∃ rk : Nat → Nat, rk = fun k => if chk ups = 0 then endK ups k 0 else 0 := ⟨_, rfl⟩
  have HRK := Lib.hid hrk
  have hr0 : rk 0 = x := by
    rw [hrk, HXE.out]
    unfold allW
    by_cases h : chk ups = 0
    · simp only [if_pos h]; exact endK_zero (chk_zero.1 h).six
    · simp only [if_neg h]
  have J0 : (fun (k : Nat) (W : World) => Cells3 w w.heap.size w0.heap.size w1.heap.size (.slice a n cap) (.int .u64 (rk k : Nat)) (.int .u64 x) W) 0 w2 := ⟨E2, q2, by rw [c2, hr0], z2, c0⟩
  have HJ0 := Lib.hid J0
  clear J0 c2 z2 c0 q2 hrk hr0
  go_wp2
  refine range_bits x w1.heap.size (fun k W => Cells3 w w.heap.size w0.heap.size w1.heap.size (.slice a n cap) (.int .u64 (rk k : Nat)) (.int .u64 x) W) rfl (by omega) rfl (fun k W h => HT.out.ext h.x) (fun k W h => h.cr) ?stab HJ0.out ?hbody ?hend
  case stab =>
    intro k W W' h hb
    have hs := HS2.out
    exact h.but hb (fun i hi => by omega) (by omega) (by omega) (by omega)
  case hbody =>
    intro k hk W hJ hsW
    obtain ⟨rt, hkn, hbk⟩ := bit_at HXE.out hk
    rw [hbk]
    have h6 := rt.six
    have hck := chk_zero.2 rt
    have HRT := Lib.hid rt
    have hrk : ∀ j, rk j = endK ups j 0 := fun j => by rw [HRK.out]; simp only [if_pos hck]
    have HRK2 := Lib.hid hrk
    clear hJ hrk hck rt hbk hk
    refine region_round_list (by kernel_rfl) ?_
    go_wp2
    refine ⟨rfl, ?_⟩
    intro W5 hJ hs5
    have X5 := hJ.x
    have q5 := hJ.cp
    obtain ⟨b, off, u, cu, ha, hcell0, hI⟩ := HL.out.at (Ext.refl w) (c := k) hkn
    subst ha
    have hcell := X5.cell hcell0
    obtain ⟨u', cu', eu, hform0⟩ := hI.form
    cases eu
    clear hcell0
    have hkn' : (k : Int) < (n : Int) := by have := HE.out; omega
    have hlen := HLL.out k hkn
    rw [HRK2.out] at hJ
    have HJ := Lib.hid hJ
    have HF := Lib.hid hform0
    clear hI hJ hform0
    obtain ⟨m, hm⟩ : ∃ m, m = (ups.getD k []).length := ⟨_, rfl⟩
    rw [← hm] at hcell hlen
    have HM := Lib.hid hm
    clear hm
    refine wpIn_block (wpIn_seq (region_round_list (by kernel_rfl) ?_))
    go_wp2
    refine wpIn_block ?_
    gi_loopw [18] (fun i wr => ∃ j : Nat, j ≤ m ∧ i = .int .i64 j ∧ Cells3 w w.heap.size w0.heap.size w1.heap.size (.slice (some ⟨b, off, none⟩) n cap) (.int .u64 (endK ups k j : Nat)) (.int .u64 x) wr ∧ But (fun i => i = w0.heap.size) W5 wr) (fun i _ => m - (intOf i).toNat)
    case atStart => exact ⟨0, Nat.zero_le _, rfl, HJ.out, But.refl _ _⟩
    case round =>
      obtain ⟨j, hj, rfl, hC, hB⟩ := hrel
      clear q5 hcell
      by_cases hlt : j < m
      · have hjl : j < (ups.getD k []).length := by have := HM.out; omega
        obtain ⟨b1, o1, hu, hcl⟩ := HF.out j hjl
        subst hu
        have hjm : (j : Int) < (m : Int) := by omega
        have hmem : (ups.getD k [])[j] ∈ ups.getD k [] := List.getElem_mem hjl
        have hr := mem_R HRT.out hmem
        have hge := ((HRT.out.nms.at k).1 _ hmem).1
        have hal := HRT.out.nms.lt hr
        obtain ⟨a1, ha1⟩ := Int.eq_ofNat_of_zero_le hge
        have hget : (ups.getD k []).getD j 0 = (a1 : Int) := by rw [getD_at _ _ _ hjl, ha1]
        rw [ha1, Int.toNat_natCast] at hal
        rw [hget] at hcl
        have ha6 : a1 < 6 := by omega
        have hcut := endK_cut hjl hget ha6
        have q1 := hC.x.cell hcl
        have c5 := hC.cq
        have z5 := hC.z
        have hlt64 : endK ups k j < 64 := word_lt _
        have CW := gWithout (endK ups k j) a1 wr (by omega) (by omega)
        rw [hcut] at CW
        have HCW := Lib.hid CW
        have HC2 := Lib.hid (hC.set (by omega) (by omega) (by omega) (.int .u64 ((endK ups k (j + 1) : Nat) : Int)))
        have HB2 := Lib.hid (hB.trans (but_setCell wr ⟨w0.heap.size, 0, none⟩ (.int .u64 ((endK ups k (j + 1) : Nat) : Int))))
        clear CW hcut hC hB hget hal hge hr hmem ha1 hcl hjl
        generalize endK ups k j = z1 at *
        generalize hz2 : endK ups k (j + 1) = z2 at *
        have HZ2 := Lib.hid hz2
        clear hz2
        refine wpIn_seq (region_round_list (by kernel_rfl) ?_)
        go_wp2
        refine wpIn_seq (wpIn_cond_true rfl (wpIn_skip ?_))
        refine wpIn_seq (wpIn_block (wpIn_seq (region_round_list (by kernel_rfl) ?_)))
        go_wp2
        refine region_round_list (by kernel_rfl) ?_
        go_wp2_with fail
        refine HCW.out.mono ?_
        rintro e w' ⟨rfl, rfl⟩
        go_wp2
        refine region_round_list (by kernel_rfl) ?_
        go_wp2
        refine ⟨⟨_, _, _, _, _, _, _, _, _, ?rel, rfl⟩, ?mea⟩
        case rel => exact ⟨j + 1, by omega, by go_num, by rw [HZ2.out]; exact HC2.out, HB2.out⟩
        case mea => simp [intOf]; omega
      · have HC := Lib.hid hC
        have HB := Lib.hid hB
        clear hC hB
        have d1 : decide (j < m) = false := by simp; omega
        refine wpIn_seq (region_round_list (by kernel_rfl) ?_)
        go_wp2
        refine wpIn_seq (wpIn_cond_false rfl (wpIn_exit ?_))
        have hs := HS2.out
        have hbo := HB.out
        refine ⟨?_, hbo.block _ (by omega) (by omega), hbo.block _ (by omega) (by omega), hbo.size⟩
        have hC := HC.out
        rw [show j = (ups.getD k []).length by have := HM.out; omega, endK_next, ← HRK2.out] at hC
        exact hC
  case hend =>
    intro W' h K4
    have c5 := h.cq
    have X5 := h.x
    have hrk : rk (bitsOf x).length < 18446744073709551616 := by
      rw [HRK.out]
      simp only []
      split
      · have : endK ups (bitsOf x).length 0 < 64 := word_lt _
        omega
      · decide
    have CL := Lib.hid (fun W (hx : Ext w W) => gListI (rk (bitsOf x).length) W hrk (HT.out.ext hx))
    have HEQ : Hid ((bitsOf (rk (bitsOf x).length)).map (fun (i : Nat) => (i : Int)) = if chk ups = 0 then sel ups.length (fun c => !aheadB ups c) else []) := Lib.hid (by
      rw [HRK.out, HXE.out]
      simp only []
      unfold allW
      by_cases hc : chk ups = 0
      · rw [if_pos hc, if_pos hc, if_pos hc]
        have h6 := (chk_zero.1 hc).six
        rw [bits_full h6, List.length_range, endK_done, list_word h6]
      · simp [hc, bits_zero])
    clear h hrk
    generalize rk (bitsOf x).length = z at *
    have hK4 : w2.heap.size < W'.heap.size := (Array.getElem?_eq_some_iff.1 K4).1
    have HK4 := Lib.hid K4
    clear K4
    go_wp2_with fail
    refine (CL.out _ X5).mono ?_
    rintro e W6 ⟨v6, rfl, R6, X6⟩
    have K6 := (X6.but (fun _ => False)).heap HK4.out id
    have HR6 := Lib.hid R6
    clear R6
    go_wp2
    refine ⟨by simp, .inl ⟨_, _, rfl, run_takeDeferred K6, ?_⟩⟩
    have BD := but_putObj W6 w2.heap.size (.deferred none)
    refine ⟨_, results_tmp rfl _ _ _, ?_⟩
    rw [← HG.out, ← HEQ.out]
    have hs := HS2.out
    exact ⟨v6, rfl, (show RI _ _ _ _ from BD.row HR6.out (fun g hg e => by have := (World.ownsRow.lt HR6.out g hg).1; omega)).lower X5.size, BD.ext (X5.trans X6) (fun i e => by have := E2.size; omega)⟩
end Go.Proofs.YtkmfamidahlgiaaGreatDoor
/- A region that draws its order, taken in one order: what only computes is taken first, a call that makes memory narrows the class of worlds. No program in sight. -/
namespace Go.Proofs.YtkmfamidahlgiaaGreatDoor
open Go.RowKit
set_option linter.unusedVariables false
/-- a narrower class serves -/
theorem wpAnyH_strong {P : Program} {md : Region.Mode} {ops : Array Oper} {Q : Exit → Act → World → Prop} {S S' : World → Prop} (hs : ∀ w, S' w → S w) : ∀ (fuel : Nat) (listed : Array Bool) (a : Act) (w : World), wpAnyH P md ops Q S' fuel listed a w → wpAnyH P md ops Q S fuel listed a w
  | 0, _, _, _, h => h
  | fuel + 1, _, _, _, h => ⟨h.1, fun i hi => wpOp_mono (fun a' w' h' => ⟨hs _ h'.1, wpAnyH_strong hs fuel _ a' w' h'.2⟩) (h.2 i hi)⟩
theorem at_drop {ops : Array Oper} {i : Nat} {oi : Oper} {rest : List Oper} (h : ops.toList.drop i = oi :: rest) : ops[i]? = some oi := by
  have : (ops.toList.drop i)[0]? = some oi := by rw [h]; rfl
  rw [List.getElem?_drop] at this
  simpa using this
/-- what only computes is taken first; the frame laid out -/
theorem take_at {P : Program} {md : Region.Mode} {ops : Array Oper} {Q : Exit → Act → World → Prop} {S : World → Prop} {i : Nat} {oi : Oper} {d : Nat} {v : Value} {fuel : Nat} {listed : Array Bool} {ts : Array Value} {ds : List Deferred} {w : World} {rest : List Oper} (hi0 : ops.toList.drop i = oi :: rest) (hd : oi.dst = some d)
    (hs : Region.noSelect ops = true) (hf : Region.free md ops listed i = true) (hr : (Region.ready md ops listed).contains i = true)
    (hQ : ∀ c a w, Q (.panic c) (a.put oi.dst v) w → Q (.panic c) a w) (hy : YieldsIf P ops S oi v ⟨ts, ds⟩) (hS : S w)
    (h : wpAnyH P md ops Q S fuel (listed.setIfInBounds i true) ⟨ts.setIfInBounds d v, ds⟩ w) : wpAnyH P md ops Q S (fuel + 1) listed ⟨ts, ds⟩ w := by
  have hi := at_drop hi0
  refine wpAnyH_take (v := v) hi hs hf hr hQ hy hS ?_
  rw [hd]
  exact h
/-- a call, met by its contract; S' is the class of worlds from here on -/
theorem call_at {P : Program} {md : Region.Mode} {ops : Array Oper} {Q : Exit → Act → World → Prop} {S : World → Prop} {i : Nat} {oi : Oper} {d : Nat} {fuel : Nat} {listed : Array Bool} {ts : Array Value} {ds : List Deferred} {w : World} {F : FuncId} {vals : Array Value} {R : Ending → World → Prop} (C : Calls P F vals w R)
    {rest : List Oper} (hi0 : ops.toList.drop i = oi :: rest) (hd : oi.dst = some d) (hr : Region.ready md ops listed = [i]) (hw : Region.wanted oi (yielded ops ts) = true)
    (hx : (execOp (Act.eval ⟨ts, ds⟩) oi).run P w = .ok (.enter F vals) w)
    (h : ∀ e w', R e w' → ∃ v, e = .returned v ∧ S w' ∧ wpAnyH P md ops Q S fuel (listed.setIfInBounds i true) ⟨ts.setIfInBounds d v, ds⟩ w') : wpAnyH P md ops Q S (fuel + 1) listed ⟨ts, ds⟩ w := by
  have hi := at_drop hi0
  refine wpAnyH_all hr (by simp) ?_
  intro j hj
  obtain rfl : j = i := by simpa using hj
  unfold wpOp
  simp only [hi, hw, if_true]
  left
  unfold Oper.wp
  rw [hx]
  show Calls P F vals w _
  refine C.mono ?_
  intro e w' hR
  obtain ⟨v, rfl, hS, hrest⟩ := h e w' hR
  show S w' ∧ wpAnyH P md ops Q S fuel (listed.setIfInBounds j true) (Act.put ⟨ts, ds⟩ oi.dst v) w'
  rw [hd]
  exact ⟨hS, hrest⟩
end Go.Proofs.YtkmfamidahlgiaaGreatDoor
/- The gates of some consumers. -/
namespace Go.Proofs.YtkmfamidahlgiaaGreatDoor
open Go.RowKit
set_option linter.unusedVariables false
set_option linter.unusedSimpArgs false
set_option maxHeartbeats 4000000
attribute [local go_sem] later_cell later_frozen later_const
/-- the places of some consumers' gates -/
def gts (n : Nat) (xs : List Int) (k : Nat) : List Int := (xs.take k).map (plc 0 n)
theorem gts_step (n : Nat) (xs : List Int) (k : Nat) (hk : k < xs.length) : gts n xs (k + 1) = gts n xs k ++ [plc 0 n (xs.getD k 0)] := by
  unfold gts
  rw [List.take_succ_eq_append_getElem hk, List.map_append]
  simp [hk]
theorem gts_len (n : Nat) (xs : List Int) (k : Nat) : (gts n xs k).length ≤ xs.length := by simp [gts]; omega
set_option maxRecDepth 100000 in
theorem gGates (V W C P S : Int) (a : Option Addr) (n cap : Nat) (Cu Cl Ti Se Ne Ma Sl Ce : Int) (v : Value) (xs : List Int) (w : World) (hv : IntsV w v xs) (hn : n ≤ 1000) (hl : xs.length ≤ 1000) :
    Calls Tryz.prog 54 #[(.agg #[.int .i64 V, .int .i64 W, .int .i64 C, .int .i64 P, .int .u64 S, .slice a n cap, .int .i64 Cu, .int .i64 Cl, .int .i64 Ti, .int .i64 Se, .int .i64 Ne, .int .i64 Ma, .int .i64 Sl, .int .i64 Ce]), v] w (GivesI w (xs.map (plc 0 n))) := by
  obtain ⟨i0, hi, hz0, hz1, hz2⟩ := info_parts info_int9
  obtain ⟨va, vc, ev, hf⟩ := hv.form
  subst ev
  have HF := Lib.hid hf
  have HG : Hid (∀ v w', RI w' w.heap.size v (gts n xs xs.length) → Ext w w' → GivesI w (xs.map (plc 0 n)) (.returned v) w') := Lib.hid (fun v w' h1 h2 => ⟨v, rfl, by unfold gts at h1; rwa [List.take_length] at h1, h2⟩)
  have HS := Lib.hid (gts_step n xs)
  have HLN := Lib.hid (gts_len n xs)
  have CG := Lib.hid (fun i w' => lGate V W C P S a n cap Cu Cl Ti Se Ne Ma Sl Ce i w' hn)
  have HI := Lib.hid (And.intro hi (And.intro hz0 (And.intro hz1 hz2)))
  generalize GivesI w (xs.map (plc 0 n)) = G at *
  clear hv hf hi hz0 hz1 hz2
  go_enter Tryz.func54, Tryz.ntmps54
  go_upto_region 2 with (fail)
  refine settle_wp ?_
  intro w1 hb1
  have qc_0 : w1.cell? ⟨w.heap.size, 0, none⟩ = some (.int .i64 V) := (hb1.cells.1 _ _ (by simp <;> omega)).trans (by simp [go_sem])
  have qc_1 : w1.cell? ⟨w.heap.size, 1, none⟩ = some (.int .i64 W) := (hb1.cells.1 _ _ (by simp <;> omega)).trans (by simp [go_sem])
  have qc_2 : w1.cell? ⟨w.heap.size, 2, none⟩ = some (.int .i64 C) := (hb1.cells.1 _ _ (by simp <;> omega)).trans (by simp [go_sem])
  have qc_3 : w1.cell? ⟨w.heap.size, 3, none⟩ = some (.int .i64 P) := (hb1.cells.1 _ _ (by simp <;> omega)).trans (by simp [go_sem])
  have qc_4 : w1.cell? ⟨w.heap.size, 4, none⟩ = some (.int .u64 S) := (hb1.cells.1 _ _ (by simp <;> omega)).trans (by simp [go_sem])
  have qc_5 : w1.cell? ⟨w.heap.size, 5, none⟩ = some (.slice a n cap) := (hb1.cells.1 _ _ (by simp <;> omega)).trans (by simp [go_sem])
  have qc_6 : w1.cell? ⟨w.heap.size, 6, none⟩ = some (.int .i64 Cu) := (hb1.cells.1 _ _ (by simp <;> omega)).trans (by simp [go_sem])
  have qc_7 : w1.cell? ⟨w.heap.size, 7, none⟩ = some (.int .i64 Cl) := (hb1.cells.1 _ _ (by simp <;> omega)).trans (by simp [go_sem])
  have qc_8 : w1.cell? ⟨w.heap.size, 8, none⟩ = some (.int .i64 Ti) := (hb1.cells.1 _ _ (by simp <;> omega)).trans (by simp [go_sem])
  have qc_9 : w1.cell? ⟨w.heap.size, 9, none⟩ = some (.int .i64 Se) := (hb1.cells.1 _ _ (by simp <;> omega)).trans (by simp [go_sem])
  have qc_10 : w1.cell? ⟨w.heap.size, 10, none⟩ = some (.int .i64 Ne) := (hb1.cells.1 _ _ (by simp <;> omega)).trans (by simp [go_sem])
  have qc_11 : w1.cell? ⟨w.heap.size, 11, none⟩ = some (.int .i64 Ma) := (hb1.cells.1 _ _ (by simp <;> omega)).trans (by simp [go_sem])
  have qc_12 : w1.cell? ⟨w.heap.size, 12, none⟩ = some (.int .i64 Sl) := (hb1.cells.1 _ _ (by simp <;> omega)).trans (by simp [go_sem])
  have qc_13 : w1.cell? ⟨w.heap.size, 13, none⟩ = some (.int .i64 Ce) := (hb1.cells.1 _ _ (by simp <;> omega)).trans (by simp [go_sem])
  have pc := World.block_lt_of_cell? _ ⟨w.heap.size, 0, none⟩ qc_0
  have rc := Nat.lt_succ_of_lt pc
  have E1 : Ext w w1 := by repeat (first | with_reducible exact Ext.refl _ | with_reducible assumption | with_reducible refine Ext.alloc ?_ _ | with_reducible refine Ext.drew ?_ | with_reducible refine Ext.drewN ?_ _ | with_reducible refine Ext.setCell ?_ (by simp <;> omega) _ | with_reducible refine Ext.trans ?_ (by assumption))
  clear hb1
  go_wp2
  go_loopw [5, 10] (fun v i wr => ∃ k : Nat, k ≤ xs.length ∧ i = .int .i64 k ∧ RI wr w1.heap.size v (gts n xs k) ∧ Ext w1 wr) (fun _ i _ => xs.length - (intOf i).toNat)
  case atStart => exact ⟨0, Nat.zero_le _, rfl, World.ownsRow_nil _ _ _ _, Ext.refl _⟩
  case round =>
    obtain ⟨k, hk, rfl, hR, hx⟩ := hrel
    by_cases hlt : k < xs.length
    case neg =>
      obtain rfl : k = xs.length := by omega
      have HG2 := Lib.hid (HG.out _ wr (hR.lower E1.size) (E1.trans hx))
      clear hR hx
      go_wp2
      exact HG2.out
    have hlt' : (k : Int) < (xs.length : Int) := by omega
    obtain ⟨b, off, ea, c0⟩ := HF.out k hlt
    subst ea
    have c1 := hx.cell (E1.cell c0)
    have p_0 := hx.cell qc_0
    have p_1 := hx.cell qc_1
    have p_2 := hx.cell qc_2
    have p_3 := hx.cell qc_3
    have p_4 := hx.cell qc_4
    have p_5 := hx.cell qc_5
    have p_6 := hx.cell qc_6
    have p_7 := hx.cell qc_7
    have p_8 := hx.cell qc_8
    have p_9 := hx.cell qc_9
    have p_10 := hx.cell qc_10
    have p_11 := hx.cell qc_11
    have p_12 := hx.cell qc_12
    have p_13 := hx.cell qc_13
    have hst := HS.out k hlt
    have hle := HLN.out k
    generalize xs.getD k 0 = z at *
    have HST := Lib.hid hst
    have HR := Lib.hid hR
    have HX := Lib.hid hx
    clear hR hx hst c0
    go_wp2_with fail
    refine (CG.out _ _).mono ?_
    rintro e w3 ⟨rfl, X3⟩
    generalize plc 0 n z = y at *
    have HR3 := Lib.hid (HR.out.ext X3)
    have HX3 := Lib.hid (HX.out.trans X3)
    have hs3 : w1.heap.size ≤ (w3.alloc (.cells #[.int .i64 y] 3)).heap.size := (HX3.out.alloc _).size
    have hl2 : (gts n xs k).length + 1 ≤ maxLen := by unfold maxLen; omega
    have hl3 : ((gts n xs k).length + 1) * 8 ≤ 140737488355328 := by omega
    clear p_0 p_1 p_2 p_3 p_4 p_5 p_6 p_7 p_8 p_9 p_10 p_11 p_12 p_13 X3 c1
    go_wp2_with (at_builtin; refine wpList_append_own _ rfl _ _ 35 rfl w1.heap.size 3 i0 (.int .i64 0) 1 8 Tryz.underlying35 HI.out.1 HI.out.2.1 HI.out.2.2.1 HI.out.2.2.2 rfl (by decide) u5 (gts n xs k).length ((gts n xs k).map (Value.int .i64)) rfl (HR3.out.ext ((Ext.refl w3).alloc _)) ⟨w3.heap.size, 0, none⟩ 1 1 [.int .i64 y] rfl rfl (cell_one_new _ _ _) (by simp; rfl) hl2 hl3 hs3 ?_)
    intro v4 w4 R4 G4 _
    have HX4 := Lib.hid ((HX3.out.alloc _).grown G4 (fun q hq => (World.ownsRow.lt HR3.out q hq).1))
    have HR4 : Hid (RI w4 w1.heap.size v4 (gts n xs (k + 1))) := Lib.hid (by
      rw [HST.out]
      unfold RI
      rw [List.length_append, List.map_append]
      exact R4)
    clear R4 G4
    go_wp2
    exact ⟨⟨k + 1, by omega, by go_num, HR4.out, HX4.out⟩, by simp [intOf]; omega⟩
/-- those that are ahead of nobody; nobody, of a graph with a fault -/
def endsG (ups : List (List Int)) : List Int := if chk ups = 0 then sel ups.length (fun c => !aheadB ups c) else []
set_option maxRecDepth 100000 in
/-- the gates of those that are ahead of nobody -/
theorem gtEnds0 (V W C P S : Int) (a : Option Addr) (cap : Nat) (ups : List (List Int)) (Cu Cl Ti Se Ne Ma Sl Ce : Int) (w : World) (hL : ListsV w (.slice a ups.length cap) ups) (hll : ∀ l ∈ ups, l.length ≤ 1000000) (hn : ups.length ≤ 1000) (hT : Tab w) (hs : (endsG ups).length ≤ 1000) :
    Calls Tryz.prog 12 #[(.agg #[.int .i64 V, .int .i64 W, .int .i64 C, .int .i64 P, .int .u64 S, .slice a ups.length cap, .int .i64 Cu, .int .i64 Cl, .int .i64 Ti, .int .i64 Se, .int .i64 Ne, .int .i64 Ma, .int .i64 Sl, .int .i64 Ce])] w (GivesI w ((endsG ups).map (plc 0 ups.length))) := by
  have CE := Lib.hid (fun w' (hx : Ext w w') => gEnds (.slice a ups.length cap) ups w' (hL.ext hx) hll (by omega) (hT.ext hx))
  rw [show (if chk ups = 0 then sel ups.length (fun c => !aheadB ups c) else []) = endsG ups from rfl] at CE
  have HG : Hid (∀ w2 v w', Ext w w2 → RI w' w2.heap.size v ((endsG ups).map (plc 0 ups.length)) → Ext w w' → GivesI w ((endsG ups).map (plc 0 ups.length)) (.returned v) w') := Lib.hid (fun w2 v w' hx h1 h2 => ⟨v, rfl, h1.lower hx.size, h2⟩)
  have CGt := Lib.hid (fun v w' (hv : IntsV w' v (endsG ups)) => gGates V W C P S a ups.length cap Cu Cl Ti Se Ne Ma Sl Ce v _ w' hv hn hs)
  generalize (endsG ups).map (plc 0 ups.length) = R at *
  generalize endsG ups = xs at *
  generalize GivesI w R = G at *
  clear hL hll hT hs
  generalize ups.length = n at *
  go_enter Tryz.func12, Tryz.ntmps12
  go_upto_region 1 with (fail)
  refine settle_wp ?_
  intro w1 hb1
  have qc_0 : w1.cell? ⟨w.heap.size, 0, none⟩ = some (.int .i64 V) := (hb1.cells.1 _ _ (by simp <;> omega)).trans (by simp [go_sem])
  have qc_1 : w1.cell? ⟨w.heap.size, 1, none⟩ = some (.int .i64 W) := (hb1.cells.1 _ _ (by simp <;> omega)).trans (by simp [go_sem])
  have qc_2 : w1.cell? ⟨w.heap.size, 2, none⟩ = some (.int .i64 C) := (hb1.cells.1 _ _ (by simp <;> omega)).trans (by simp [go_sem])
  have qc_3 : w1.cell? ⟨w.heap.size, 3, none⟩ = some (.int .i64 P) := (hb1.cells.1 _ _ (by simp <;> omega)).trans (by simp [go_sem])
  have qc_4 : w1.cell? ⟨w.heap.size, 4, none⟩ = some (.int .u64 S) := (hb1.cells.1 _ _ (by simp <;> omega)).trans (by simp [go_sem])
  have qc_5 : w1.cell? ⟨w.heap.size, 5, none⟩ = some (.slice a n cap) := (hb1.cells.1 _ _ (by simp <;> omega)).trans (by simp [go_sem])
  have qc_6 : w1.cell? ⟨w.heap.size, 6, none⟩ = some (.int .i64 Cu) := (hb1.cells.1 _ _ (by simp <;> omega)).trans (by simp [go_sem])
  have qc_7 : w1.cell? ⟨w.heap.size, 7, none⟩ = some (.int .i64 Cl) := (hb1.cells.1 _ _ (by simp <;> omega)).trans (by simp [go_sem])
  have qc_8 : w1.cell? ⟨w.heap.size, 8, none⟩ = some (.int .i64 Ti) := (hb1.cells.1 _ _ (by simp <;> omega)).trans (by simp [go_sem])
  have qc_9 : w1.cell? ⟨w.heap.size, 9, none⟩ = some (.int .i64 Se) := (hb1.cells.1 _ _ (by simp <;> omega)).trans (by simp [go_sem])
  have qc_10 : w1.cell? ⟨w.heap.size, 10, none⟩ = some (.int .i64 Ne) := (hb1.cells.1 _ _ (by simp <;> omega)).trans (by simp [go_sem])
  have qc_11 : w1.cell? ⟨w.heap.size, 11, none⟩ = some (.int .i64 Ma) := (hb1.cells.1 _ _ (by simp <;> omega)).trans (by simp [go_sem])
  have qc_12 : w1.cell? ⟨w.heap.size, 12, none⟩ = some (.int .i64 Sl) := (hb1.cells.1 _ _ (by simp <;> omega)).trans (by simp [go_sem])
  have qc_13 : w1.cell? ⟨w.heap.size, 13, none⟩ = some (.int .i64 Ce) := (hb1.cells.1 _ _ (by simp <;> omega)).trans (by simp [go_sem])
  have pc := World.block_lt_of_cell? _ ⟨w.heap.size, 0, none⟩ qc_0
  have rc := Nat.lt_succ_of_lt pc
  have E1 : Ext w w1 := by repeat (first | with_reducible exact Ext.refl _ | with_reducible assumption | with_reducible refine Ext.alloc ?_ _ | with_reducible refine Ext.drew ?_ | with_reducible refine Ext.drewN ?_ _ | with_reducible refine Ext.setCell ?_ (by simp <;> omega) _ | with_reducible refine Ext.trans ?_ (by assumption))
  clear hb1
  have F0 := fun w' (hz : Ext w1 w') => hz.cell qc_0
  have F1 := fun w' (hz : Ext w1 w') => hz.cell qc_1
  have F2 := fun w' (hz : Ext w1 w') => hz.cell qc_2
  have F3 := fun w' (hz : Ext w1 w') => hz.cell qc_3
  have F4 := fun w' (hz : Ext w1 w') => hz.cell qc_4
  have F5 := fun w' (hz : Ext w1 w') => hz.cell qc_5
  have F6 := fun w' (hz : Ext w1 w') => hz.cell qc_6
  have F7 := fun w' (hz : Ext w1 w') => hz.cell qc_7
  have F8 := fun w' (hz : Ext w1 w') => hz.cell qc_8
  have F9 := fun w' (hz : Ext w1 w') => hz.cell qc_9
  have F10 := fun w' (hz : Ext w1 w') => hz.cell qc_10
  have F11 := fun w' (hz : Ext w1 w') => hz.cell qc_11
  have F12 := fun w' (hz : Ext w1 w') => hz.cell qc_12
  have F13 := fun w' (hz : Ext w1 w') => hz.cell qc_13
  refine wp_region_held_drew (S := fun w' => Ext w1 w') (by kernel_rfl) ?hbeg (fun hHeld => ?_)
  case hbeg => exact (Ext.refl w1).drew
  have hHeld0 : Ext w1 w1 := by first | exact Ext.refl _ | assumption
  first
    | (refine take_at (i := 0) (v := ?_) rfl rfl (by kernel_rfl) (by kernel_rfl) (by kernel_rfl) (fun _ _ _ h => h) (Or.inl ⟨by rfl, ?hy⟩) (by assumption) ?_
       case hy => (intro wz hSw; (try dsimp only at hSw); go_simp <;> with_reducible rfl)
       simp only [List.setIfInBounds_toArray, List.set_cons_zero, List.set_cons_succ])
    | (refine take_at (i := 0) (v := undef) rfl rfl (by kernel_rfl) (by kernel_rfl) (by kernel_rfl) (fun _ _ _ h => h) (Or.inr ⟨by rfl, rfl⟩) (by assumption) ?_
       simp only [List.setIfInBounds_toArray, List.set_cons_zero, List.set_cons_succ])
  first
    | (refine take_at (i := 1) (v := ?_) rfl rfl (by kernel_rfl) (by kernel_rfl) (by kernel_rfl) (fun _ _ _ h => h) (Or.inl ⟨by rfl, ?hy⟩) (by assumption) ?_
       case hy => (intro wz hSw; (try dsimp only at hSw); go_simp <;> with_reducible rfl)
       simp only [List.setIfInBounds_toArray, List.set_cons_zero, List.set_cons_succ])
    | (refine take_at (i := 1) (v := undef) rfl rfl (by kernel_rfl) (by kernel_rfl) (by kernel_rfl) (fun _ _ _ h => h) (Or.inr ⟨by rfl, rfl⟩) (by assumption) ?_
       simp only [List.setIfInBounds_toArray, List.set_cons_zero, List.set_cons_succ])
  first
    | (refine take_at (i := 2) (v := ?_) rfl rfl (by kernel_rfl) (by kernel_rfl) (by kernel_rfl) (fun _ _ _ h => h) (Or.inl ⟨by rfl, ?hy⟩) (by assumption) ?_
       case hy => (intro wz hSw; (try dsimp only at hSw); go_simp <;> with_reducible rfl)
       simp only [List.setIfInBounds_toArray, List.set_cons_zero, List.set_cons_succ])
    | (refine take_at (i := 2) (v := undef) rfl rfl (by kernel_rfl) (by kernel_rfl) (by kernel_rfl) (fun _ _ _ h => h) (Or.inr ⟨by rfl, rfl⟩) (by assumption) ?_
       simp only [List.setIfInBounds_toArray, List.set_cons_zero, List.set_cons_succ])
  first
    | (refine take_at (i := 3) (v := ?_) rfl rfl (by kernel_rfl) (by kernel_rfl) (by kernel_rfl) (fun _ _ _ h => h) (Or.inl ⟨by rfl, ?hy⟩) (by assumption) ?_
       case hy => (intro wz hSw; (try dsimp only at hSw); go_simp <;> with_reducible rfl)
       simp only [List.setIfInBounds_toArray, List.set_cons_zero, List.set_cons_succ])
    | (refine take_at (i := 3) (v := undef) rfl rfl (by kernel_rfl) (by kernel_rfl) (by kernel_rfl) (fun _ _ _ h => h) (Or.inr ⟨by rfl, rfl⟩) (by assumption) ?_
       simp only [List.setIfInBounds_toArray, List.set_cons_zero, List.set_cons_succ])
  refine call_at (i := 4) (F := 55) (CE.out _ (E1.trans (by repeat (first | with_reducible exact Ext.refl _ | with_reducible assumption | with_reducible refine Ext.alloc ?_ _ | with_reducible refine Ext.drew ?_ | with_reducible refine Ext.drewN ?_ _ | with_reducible refine Ext.setCell ?_ (by simp <;> omega) _ | with_reducible refine Ext.trans ?_ (by assumption))))) rfl rfl (by kernel_rfl) (by rfl) (by first | rfl | (go_simp <;> rfl)) ?_
  rintro e wq2 ⟨vq2, rfl, Rq2, Xq2⟩
  have Yq2 := Ext.trans hHeld Xq2
  refine ⟨_, rfl, Yq2, wpAnyH_strong (S' := fun w' => Ext wq2 w') (fun w' h => Ext.trans Yq2 h) _ _ _ _ ?_⟩
  simp only [List.setIfInBounds_toArray, List.set_cons_zero, List.set_cons_succ]
  have Zq2 : Ext w1 wq2 := Ext.trans (by assumption) Yq2
  clear hHeld Xq2 Yq2
  have hHeld := Ext.refl wq2
  have IV := Lib.hid Rq2.ints
  refine call_at (i := 5) (F := 54) (CGt.out _ _ IV.out) rfl rfl (by kernel_rfl) (by rfl) (by first | rfl | (go_simp <;> rfl)) ?_
  rintro e wq3 ⟨vq3, rfl, Rq3, Xq3⟩
  have Yq3 := Ext.trans hHeld Xq3
  refine ⟨_, rfl, Yq3, wpAnyH_strong (S' := fun w' => Ext wq3 w') (fun w' h => Ext.trans Yq3 h) _ _ _ _ ?_⟩
  simp only [List.setIfInBounds_toArray, List.set_cons_zero, List.set_cons_succ]
  have Zq3 : Ext w1 wq3 := Ext.trans (by assumption) Yq3
  clear hHeld Xq3 Yq3
  have hHeld := Ext.refl wq3
  first
    | (refine take_at (i := 6) (v := ?_) rfl rfl (by kernel_rfl) (by kernel_rfl) (by kernel_rfl) (fun _ _ _ h => h) (Or.inl ⟨by rfl, ?hy⟩) (by assumption) ?_
       case hy => (intro wz hSw; (try dsimp only at hSw); go_simp <;> with_reducible rfl)
       simp only [List.setIfInBounds_toArray, List.set_cons_zero, List.set_cons_succ])
    | (refine take_at (i := 6) (v := undef) rfl rfl (by kernel_rfl) (by kernel_rfl) (by kernel_rfl) (fun _ _ _ h => h) (Or.inr ⟨by rfl, rfl⟩) (by assumption) ?_
       simp only [List.setIfInBounds_toArray, List.set_cons_zero, List.set_cons_succ])
  refine wpAnyH_done (by kernel_rfl) ?_ _
  have HG2 := Lib.hid (HG.out _ _ _ (E1.trans Zq2) Rq3 (E1.trans Zq3))
  go_wp2
  exact HG2.out
theorem gtEnds_empty (w : World) (hT : Tab w) : Calls Tryz.prog 12 #[(.agg #[.int .i64 0, .int .i64 0, .int .i64 0, .int .i64 0, .int .u64 0, .slice none 0 0, .int .i64 0, .int .i64 0, .int .i64 0, .int .i64 0, .int .i64 0, .int .i64 0, .int .i64 0, .int .i64 0])] w (GivesI w []) := by
  have h := gtEnds0 0 0 0 0 0 none 0 [] 0 0 0 0 0 0 0 0 w ⟨none, 0, rfl, fun j hj => by simp at hj⟩ (by simp) (by simp) hT (by unfold endsG; split <;> simp [sel])
  rw [show (endsG []).map (plc 0 ([] : List (List Int)).length) = [] by unfold endsG; split <;> simp [sel]] at h
  exact h
end Go.Proofs.YtkmfamidahlgiaaGreatDoor
/- Scans without a board, a frame or a cell; the gates of no layout. -/
namespace Go.Proofs.YtkmfamidahlgiaaGreatDoor
open Go.RowKit
set_option linter.unusedVariables false
set_option linter.unusedSimpArgs false
set_option maxHeartbeats 4000000
attribute [local go_sem] later_cell later_frozen later_const
theorem scan32_nilb (t : Int) (v f : Value) (w : World) : Calls Tryz.prog 26 #[.pointer none, .int .i64 t, v, f] w fun e w' => e = .returned (.bool true) ∧ w = w' := by
  go_enter Tryz.func26, Tryz.ntmps26
  go_wp2
  go_ret
  exact ⟨rfl, rfl⟩
theorem scan32_nilf (b : Nat) (t : Int) (v : Value) (w : World) : Calls Tryz.prog 26 #[.pointer (some ⟨b, 0, none⟩), .int .i64 t, v, .pointer none] w fun e w' => e = .returned (.bool true) ∧ w = w' := by
  go_enter Tryz.func26, Tryz.ntmps26
  go_wp2
  go_ret
  exact ⟨rfl, rfl⟩
theorem scan32_none (b f : Nat) (t i : Int) (w : World) (q : w.cell? ⟨f, 4, none⟩ = some (.int .i64 i)) (z : w.frozen? ⟨f, 4, none⟩ = false) : Calls Tryz.prog 26 #[.pointer (some ⟨b, 0, none⟩), .int .i64 t, .slice none 0 0, .pointer (some ⟨f, 0, none⟩)] w fun e w' => e = .returned (.bool true) ∧ w' = w.setCell ⟨f, 4, none⟩ (.int .i64 0) := by
  by_cases h : 0 ≤ i
  · have h2 : ¬ i < 0 := by omega
    go_enter Tryz.func26, Tryz.ntmps26
    go_wp2
    go_ret
    exact ⟨rfl, rfl⟩
  · have h2 : i < 0 := by omega
    go_enter Tryz.func26, Tryz.ntmps26
    go_wp2
    go_ret
    exact ⟨rfl, rfl⟩
theorem least32_nilb (v : Value) (w : World) : Calls Tryz.prog 23 #[.pointer none, v] w fun e w' => e = .returned (.int .u32 0) ∧ w = w' := by
  go_enter Tryz.func23, Tryz.ntmps23
  go_wp2
  go_ret
  exact ⟨rfl, rfl⟩
theorem least32_none (b : Nat) (w : World) : Calls Tryz.prog 23 #[.pointer (some ⟨b, 0, none⟩), .slice none 0 0] w fun e w' => e = .returned (.int .u32 0) ∧ w = w' := by
  go_enter Tryz.func23, Tryz.ntmps23
  go_wp2
  go_ret
  exact ⟨rfl, rfl⟩
theorem scan64_nilb (t : Int) (v f : Value) (w : World) : Calls Tryz.prog 65 #[.pointer none, .int .i64 t, v, f] w fun e w' => e = .returned (.bool true) ∧ w = w' := by
  go_enter Tryz.func65, Tryz.ntmps65
  go_wp2
  go_ret
  exact ⟨rfl, rfl⟩
theorem scan64_nilf (b : Nat) (t : Int) (v : Value) (w : World) : Calls Tryz.prog 65 #[.pointer (some ⟨b, 0, none⟩), .int .i64 t, v, .pointer none] w fun e w' => e = .returned (.bool true) ∧ w = w' := by
  go_enter Tryz.func65, Tryz.ntmps65
  go_wp2
  go_ret
  exact ⟨rfl, rfl⟩
theorem scan64_none (b f : Nat) (t i : Int) (w : World) (q : w.cell? ⟨f, 4, none⟩ = some (.int .i64 i)) (z : w.frozen? ⟨f, 4, none⟩ = false) : Calls Tryz.prog 65 #[.pointer (some ⟨b, 0, none⟩), .int .i64 t, .slice none 0 0, .pointer (some ⟨f, 0, none⟩)] w fun e w' => e = .returned (.bool true) ∧ w' = w.setCell ⟨f, 4, none⟩ (.int .i64 0) := by
  by_cases h : 0 ≤ i
  · have h2 : ¬ i < 0 := by omega
    go_enter Tryz.func65, Tryz.ntmps65
    go_wp2
    go_ret
    exact ⟨rfl, rfl⟩
  · have h2 : i < 0 := by omega
    go_enter Tryz.func65, Tryz.ntmps65
    go_wp2
    go_ret
    exact ⟨rfl, rfl⟩
theorem least64_nilb (v : Value) (w : World) : Calls Tryz.prog 67 #[.pointer none, v] w fun e w' => e = .returned (.int .u64 0) ∧ w = w' := by
  go_enter Tryz.func67, Tryz.ntmps67
  go_wp2
  go_ret
  exact ⟨rfl, rfl⟩
theorem least64_none (b : Nat) (w : World) : Calls Tryz.prog 67 #[.pointer (some ⟨b, 0, none⟩), .slice none 0 0] w fun e w' => e = .returned (.int .u64 0) ∧ w = w' := by
  go_enter Tryz.func67, Tryz.ntmps67
  go_wp2
  go_ret
  exact ⟨rfl, rfl⟩
theorem gtUps_empty (c : Int) (w : World) : Calls Tryz.prog 13 #[(.agg #[.int .i64 0, .int .i64 0, .int .i64 0, .int .i64 0, .int .u64 0, .slice none 0 0, .int .i64 0, .int .i64 0, .int .i64 0, .int .i64 0, .int .i64 0, .int .i64 0, .int .i64 0, .int .i64 0]), .int .i64 c] w fun e w' => e = .returned (.slice none 0 0) ∧ Ext w w' := by
  by_cases h : c < 0
  · go_enter Tryz.func13, Tryz.ntmps13
    go_wp2
    go_ret
    refine ⟨rfl, ?_⟩
    repeat (first | with_reducible exact Ext.refl _ | with_reducible assumption | with_reducible refine Ext.alloc ?_ _ | with_reducible refine Ext.drew ?_ | with_reducible refine Ext.drewN ?_ _ | with_reducible refine Ext.setCell ?_ (by simp <;> omega) _ | with_reducible refine Ext.trans ?_ (by assumption))
  · have h2 : 0 ≤ c := by omega
    go_enter Tryz.func13, Tryz.ntmps13
    go_wp2
    go_ret
    refine ⟨rfl, ?_⟩
    repeat (first | with_reducible exact Ext.refl _ | with_reducible assumption | with_reducible refine Ext.alloc ?_ _ | with_reducible refine Ext.drew ?_ | with_reducible refine Ext.drewN ?_ _ | with_reducible refine Ext.setCell ?_ (by simp <;> omega) _ | with_reducible refine Ext.trans ?_ (by assumption))
end Go.Proofs.YtkmfamidahlgiaaGreatDoor

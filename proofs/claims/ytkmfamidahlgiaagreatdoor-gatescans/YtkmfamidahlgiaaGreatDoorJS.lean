import Derived.Test.YtkmfamidahlgiaaGreatDoorJA
import Derived.Test.YtkmfamidahlgiaaGreatDoorOpen
import Derived.Test.YtkmfamidahlgiaaGreatDoorInts
import Derived.Test.YtkmfamidahlgiaaGreatDoorJG
import Derived.Test.YtkmfamidahlgiaaGreatDoorBd2
import Derived.Test.YtkmfamidahlgiaaGreatDoorRef01
import Derived.Test.YtkmfamidahlgiaaGreatDoorGrow
import Derived.Test.YtkmfamidahlgiaaGreatDoorWide
import Derived.Test.YtkmfamidahlgiaaGreatDoorMem
import Derived.Lib.Hide
import Derived.Test.YtkmfamidahlgiaaGreatDoorBd3
import Derived.Test.YtkmfamidahlgiaaGreatDoorGrCopy
/- Blocks beside boards; a step of the document's with two blocks of its own. -/
namespace Go.Proofs.YtkmfamidahlgiaaGreatDoor
open Go.RowKit
set_option linter.unusedVariables false
set_option linter.unusedSimpArgs false
set_option maxHeartbeats 4000000
attribute [local go_sem] later_cell later_frozen later_const
/-- nothing is told; there may be more memory -/
def VoidX (w : World) (e : Ending) (w' : World) : Prop := e = .returned (.tuple #[]) ∧ Ext w w'
/-- a block that is no part of a board -/
structure Aside (w : World) (b g : Nat) (lv : Value) (k : Nat) : Prop where
  out : ¬ Own b g lv k
  lt : k < w.heap.size
theorem Aside.ext {w w' : World} {b g : Nat} {lv : Value} {k : Nat} (h : Aside w b g lv k) (hx : Ext w w') : Aside w' b g lv k := ⟨h.out, Nat.lt_of_lt_of_le h.lt hx.size⟩
/-- behind an access -/
theorem Aside.step {S : Nat → Prop} {w w' : World} {b g : Nat} {lv lv' : Value} {k : Nat} (h : Aside w b g lv k) (hN : But S w w') (hA : lv'.ownBlock = lv.ownBlock ∨ ∃ j, lv'.ownBlock = some j ∧ w.heap.size ≤ j) : Aside w' b g lv' k := by
  have hl := h.lt
  refine ⟨?_, Nat.lt_of_lt_of_le hl hN.size⟩
  rintro (e | e | e)
  · exact h.out (.inl e)
  · exact h.out (.inr (.inl e))
  · rcases hA with e' | ⟨j, e', hj⟩
    · exact h.out (.inr (.inr (by rw [← e']; exact e)))
    · rw [e'] at e
      have := Option.some.inj e
      omega
/-- a block of a type that a graph is not of -/
def Odd (w : World) (k : Nat) : Prop := ∃ t, Tag w k t ∧ t ≠ 35 ∧ t ≠ 3
theorem Odd.but {S : Nat → Prop} {w w' : World} {k : Nat} (h : Odd w k) (hb : But S w w') (hs : ¬ S k) : Odd w' k := by
  obtain ⟨t, h1, h2⟩ := h
  exact ⟨t, h1.but hb hs, h2⟩
theorem Odd.set {w : World} {k b o : Nat} {v : Value} (h : Odd w k) : Odd (w.setCell ⟨b, o, none⟩ v) k := by
  obtain ⟨t, h1, h2⟩ := h
  exact ⟨t, h1.set, h2⟩
theorem BW.step {w w' : World} {bt b g : Nat} {y : LY} {f f' : Nat → Int} {lv lv' : Value} {log log' : List Acc} {ups : List (List Int)} (h : BW w bt b g y f lv log ups) (hB : BD w' bt b g y f' lv' log') (hN : But (Own b g lv) w w') (h1 : bt ≠ 35) (h2 : bt ≠ 3) : BW w' bt b g y f' lv' log' ups :=
  ⟨hB, h.O.but hN (h.B.own h1 h2)⟩
/-- a block that is no part of either board -/
structure Far (b g : Nat) (lv : Value) (b' : Nat) (r : RY) (lv' : Value) (w0 w : World) (k : Nat) : Prop where
  out : ¬ Own b g lv k
  out' : ¬ Own b' r.gh lv' k
  gc : r.gc ≠ k
  lo : w0.heap.size ≤ k
  hi : k < w.heap.size
theorem Far.up {b g : Nat} {lv : Value} {b' : Nat} {r : RY} {lv' : Value} {w0 w w' : World} {k : Nat} (h : Far b g lv b' r lv' w0 w k) (hs : w.heap.size ≤ w'.heap.size) : Far b g lv b' r lv' w0 w' k := ⟨h.out, h.out', h.gc, h.lo, Nat.lt_of_lt_of_le h.hi hs⟩
theorem own_out {b g k : Nat} {lv lv2 : Value} {w : World} (h : ¬ Own b g lv k) (hk : k < w.heap.size) (hA : lv2.ownBlock = lv.ownBlock ∨ ∃ j, lv2.ownBlock = some j ∧ w.heap.size ≤ j) : ¬ Own b g lv2 k := by
  rintro (e | e | e)
  · exact h (.inl e)
  · exact h (.inr (.inl e))
  · rcases hA with e' | ⟨j, e', hj⟩
    · exact h (.inr (.inr (by rw [← e']; exact e)))
    · rw [e'] at e
      have := Option.some.inj e
      omega
theorem Far.stepB {b g : Nat} {lv lv2 : Value} {b' : Nat} {r : RY} {lv' : Value} {w0 w w' : World} {k : Nat} (h : Far b g lv b' r lv' w0 w k) (hs : w.heap.size ≤ w'.heap.size) (hA : lv2.ownBlock = lv.ownBlock ∨ ∃ j, lv2.ownBlock = some j ∧ w.heap.size ≤ j) : Far b g lv2 b' r lv' w0 w' k := ⟨own_out h.out h.hi hA, h.out', h.gc, h.lo, Nat.lt_of_lt_of_le h.hi hs⟩
theorem Far.stepR {b g : Nat} {lv : Value} {b' : Nat} {r : RY} {lv' lv2 : Value} {w0 w w' : World} {k : Nat} (h : Far b g lv b' r lv' w0 w k) (hs : w.heap.size ≤ w'.heap.size) (hA : lv2.ownBlock = lv'.ownBlock ∨ ∃ j, lv2.ownBlock = some j ∧ w.heap.size ≤ j) : Far b g lv b' r lv2 w0 w' k := ⟨h.out, own_out h.out' h.hi hA, h.gc, h.lo, Nat.lt_of_lt_of_le h.hi hs⟩
/-- the board's own blocks lie beyond -/
theorem own_new {b g n : Nat} {lv lv' : Value} {w : World} (h : ∀ k, Own b g lv k → n ≤ k) (hn : n ≤ w.heap.size) (hA : lv'.ownBlock = lv.ownBlock ∨ ∃ j, lv'.ownBlock = some j ∧ w.heap.size ≤ j) : ∀ k, Own b g lv' k → n ≤ k := by
  rintro k (e | e | e)
  · exact h k (.inl e)
  · exact h k (.inr (.inl e))
  · rcases hA with e' | ⟨j, e', hj⟩
    · exact h k (.inr (.inr (by rw [← e']; exact e)))
    · rw [e'] at e
      have := Option.some.inj e
      omega
/-- the first board and one more block have turned -/
theorem Two.stepK {w0 w w5 : World} {bt b g : Nat} {y : LY} {f f2 : Nat → Int} {lv lv5 : Value} {log log2 : List Acc} {b' : Nat} {r : RY} {f' : Nat → Int} {lv' : Value} {log' : List Acc} {k : Nat} (h : Two w0 w bt b g y f lv log b' r f' lv' log') (hbt : bt ≠ 124) (hk : Far b g lv b' r lv' w0 w k)
    (B5 : BD w5 bt b g y f2 lv5 log2) (hb : But (fun q => Own b g lv q ∨ q = k) w w5) (hat : lv5.ownBlock = lv.ownBlock ∨ ∃ j, lv5.ownBlock = some j ∧ w.heap.size ≤ j) : Two w0 w5 bt b g y f2 lv5 log2 b' r f' lv' log' := by
  refine ⟨B5, h.R.but hb (fun q hq hq2 => hq2.elim (fun e => h.ap q e hq) (fun e => hk.out' (by rw [← e]; exact hq))) (fun e => e.elim (h.gc hbt) hk.gc), fun q hq hq2 => ?_, But.ext h.ex hb (fun q hq => hq.elim (h.ob q) (fun e => by rw [e]; exact hk.lo)), own_new h.ob h.ex.size hat, h.od⟩
  rcases hq with e | e | e
  · exact h.ap q (.inl e) hq2
  · exact h.ap q (.inr (.inl e)) hq2
  · rcases hat with e' | ⟨j, e', hj⟩
    · exact h.ap q (.inr (.inr (by rw [← e']; exact e))) hq2
    · rw [e'] at e
      cases e
      have := h.R.lt hq2
      omega
/-- a block beside both has turned -/
theorem Two.off {w0 w w5 : World} {bt b g : Nat} {y : LY} {f : Nat → Int} {lv : Value} {log : List Acc} {b' : Nat} {r : RY} {f' : Nat → Int} {lv' : Value} {log' : List Acc} {k : Nat} (h : Two w0 w bt b g y f lv log b' r f' lv' log') (hk : Far b g lv b' r lv' w0 w k) (hb : But (· = k) w w5) : Two w0 w5 bt b g y f lv log b' r f' lv' log' :=
  ⟨h.B.but hb (fun q hq e => hk.out (by rw [← show q = k from e]; exact hq)), h.R.but hb (fun q hq e => hk.out' (by rw [← show q = k from e]; exact hq)) hk.gc, h.ap, But.ext h.ex hb (fun q e => by rw [show q = k from e]; exact hk.lo), h.ob, h.od⟩
theorem OwnL.odd {S : Nat → Prop} {w w' : World} {u : Value} {ups : List (List Int)} (h : OwnL w u ups) (hb : But S w w') (ho : ∀ k, S k → k < w.heap.size → Odd w k) : OwnL w' u ups := h.but hb (fun k hk hl => by
  obtain ⟨t, ⟨cur, ht⟩, h1, h2⟩ := ho k hk hl
  exact ⟨cur, t, _, ht, h1, h2⟩)
/-- a write to a block that is no part of the document's board -/
theorem RB.mid {w : World} {b : Nat} {y : RY} {f : Nat → Int} {lv : Value} {log : List Acc} (h : RB w b y f lv log) {N M : Nat} (ho : ∀ k, Own b y.gh lv k → k < N ∨ M ≤ k) (hc : y.gc < N) {p : Addr} (h1 : N ≤ p.block) (h2 : p.block < M) (u : Value) : RB (w.setCell p u) b y f lv log :=
  h.but (but_setCell w p u) (fun k hk e => by have := ho k hk; omega) (by omega)
theorem wrapS {x : Int} (h0 : -9223372036854775808 ≤ x) (h1 : x ≤ 9223372036854775807) : IntKind.i64.wrap x = x := by
  rw [IntKind.wrap_i64]
  omega
theorem But.new {S : Nat → Prop} {w w' : World} (h : But S w w') {p : Addr} (hp : w.heap.size ≤ p.block) (u : Value) : But S w (w'.setCell p u) := by
  have h2 := but_setCell w' p u
  exact ⟨h2.os.trans h.os, h2.tape.trans h.tape, h2.output.trans h.output, Nat.le_trans h.size h2.size, fun k hk hs => (h2.block k (Nat.lt_of_lt_of_le hk h.size) (by omega)).trans (h.block k hk hs)⟩
/-- what the last step asks: the board behind the call, two blocks of the call's own -/
structure RMid (b : Nat) (r : RY) (lv : Value) (f' : Nat → Int) (log' : List Acc) (w w' : World) : Prop where
  N : But (Own b r.gh lv) w w'
  R : ∃ lv', RB w' b r f' lv' log' ∧ (∀ k, Own b r.gh lv' k → k < w.heap.size ∨ w.heap.size + 2 ≤ k) ∧ (lv'.ownBlock = lv.ownBlock ∨ ∃ j, lv'.ownBlock = some j ∧ w.heap.size ≤ j)
  c : r.gc < w.heap.size
theorem RMid.set {b : Nat} {r : RY} {lv : Value} {f' : Nat → Int} {log' : List Acc} {w w' : World} (h : RMid b r lv f' log' w w') {p : Addr} (h1 : w.heap.size ≤ p.block) (h2 : p.block < w.heap.size + 2) (u : Value) : RMid b r lv f' log' w (w'.setCell p u) := by
  obtain ⟨lv', hR, ho, hA⟩ := h.R
  exact ⟨h.N.new h1 u, ⟨lv', hR.mid ho h.c h1 h2 u, ho, hA⟩, h.c⟩
theorem RMid.ext {b : Nat} {r : RY} {lv : Value} {f' : Nat → Int} {log' : List Acc} {w w' w'' : World} (h : RMid b r lv f' log' w w') (hx : Ext w' w'') : RMid b r lv f' log' w w'' := by
  obtain ⟨lv', hR, ho, hA⟩ := h.R
  exact ⟨h.N.trans (hx.but _), ⟨lv', hR.ext hx, ho, hA⟩, h.c⟩
theorem RMid.does {b : Nat} {r : RY} {lv : Value} {f' : Nat → Int} {log' : List Acc} {w w' : World} (h : RMid b r lv f' log' w w') {v : Value} : ∃ lv', RB w' b r f' lv' log' ∧ But (Own b r.gh lv) w w' ∧ (lv'.ownBlock = lv.ownBlock ∨ ∃ j, lv'.ownBlock = some j ∧ w.heap.size ≤ j) := by
  obtain ⟨lv', hR, _, hA⟩ := h.R
  exact ⟨lv', hR, h.N, hA⟩
/-- behind an access, two blocks made ahead of it -/
theorem rmid_of {b : Nat} {r : RY} {f f' : Nat → Int} {lv lv' : Value} {log log' : List Acc} {w w1 w2 : World} (h : RB w b r f lv log) (hx : Ext w w1) (hs : w.heap.size + 2 ≤ w1.heap.size) (hR : RB w2 b r f' lv' log') (hN : But (Own b r.gh lv) w1 w2) (hA : lv'.ownBlock = lv.ownBlock ∨ ∃ j, lv'.ownBlock = some j ∧ w1.heap.size ≤ j) : RMid b r lv f' log' w w2 := by
  refine ⟨(hx.but _).trans hN, ⟨lv', hR, fun k hk => ?_, hA.imp id (fun ⟨j, e, hj⟩ => ⟨j, e, by omega⟩)⟩, tag_lt h.tc⟩
  rcases hk with e | e | e
  · exact .inl (by rw [e]; exact h.lt (.inl rfl))
  · exact .inl (by rw [e]; exact h.lt (.inr (.inl rfl)))
  · rcases hA with e' | ⟨j, e', hj⟩
    · exact .inl (h.lt (.inr (.inr (by rw [← e']; exact e))))
    · rw [e'] at e
      have := Option.some.inj e
      exact .inr (by omega)
theorem Tag.sets {w : World} {b t k : Nat} (h : Tag w b t) : ∀ (cs : List Value) (o : Nat), Tag (w.setCells k o cs) b t := by
  intro cs
  induction cs generalizing w with
  | nil => intro o; exact h
  | cons v r ih => intro o; exact ih h.set (o + 1)
/-- a row that is made and filled with its zeros -/
theorem arr_fact {n T : Nat} {C : Array Value} {f : Nat → Value} {w w' : World} (hb : Ext ((w.alloc (.cells C T)).setCells w.heap.size 0 C.toList) w') (e : C = (vl n f).toArray) : VA n w' w.heap.size f ∧ Tag w' w.heap.size T ∧ Ext w w' :=
  ⟨(va_setCells (va_new (n := n) w T C f e) f C.toList (by rw [e])).ext hb, ((Tag.new w C T).sets _ _).ext hb, Ext.trans (ext_setCells w.heap.size (Nat.le_refl _) _ 0 _ ((Ext.refl w).alloc _)) hb⟩
theorem name_list {P : Program} {ops : Array Oper} {Q : Exit → Act → World → Prop} {l : List Oper} {a : Act} {W : World} (h : ∀ w', W = w' → wpList P ops Q l a w') : wpList P ops Q l a W := h W rfl
theorem name_wp {P : Program} {c : Code} {Q : Exit → Act → World → Prop} {a : Act} {W : World} (h : ∀ w', W = w' → c.wp P Q a w') : c.wp P Q a W := h W rfl
theorem wrap_own (x : Int) (h0 : 0 ≤ x) (h1 : x < 18446744073709551616) : IntKind.u64.wrap x = x := by
  simp [IntKind.wrap, IntKind.signed, IntKind.bits]
  omega
theorem row_u8 {w : World} {a : Option Addr} {len cap : Nat} {zs : List Int} (h : IsRow .u8 w a len cap zs) {i : Nat} (hi : i < len) : ∃ (b off z : Nat), z < 256 ∧ a = some ⟨b, off, none⟩ ∧ w.cell? ⟨b, off + i, none⟩ = some (.int .u8 z) := by
  rcases h with ⟨rfl, rfl, rfl, rfl⟩ | ⟨x, rfl, hl, hm, hz, hc, hw⟩
  · omega
  · have h1 := hc 0 (by omega)
    have hx := spot_none h1
    simp [Addr.add] at hx
    have h2 := hc i (by omega)
    have hwz := hw (zs.getD i 0) (by simp [show i < zs.length by omega])
    obtain ⟨z0, z1⟩ : 0 ≤ zs.getD i 0 ∧ zs.getD i 0 < 256 := by
      generalize zs.getD i 0 = z at *
      simp [Lit.wf, IntKind.min, IntKind.max, IntKind.signed, IntKind.bits] at hwz
      omega
    rw [hx] at h2
    refine ⟨x.block, x.off, (zs.getD i 0).toNat, by omega, by rw [← hx], ?_⟩
    rw [show (((zs.getD i 0).toNat : Nat) : Int) = zs.getD i 0 by omega]
    by_cases hj0 : i = 0
    · subst hj0; simpa [Addr.add] using h2
    · simpa [Addr.add, hj0] using h2
theorem there_of {n : Nat} {w : World} {b : Nat} {f : Nat → Value} (h : VA n w b f) {o m : Nat} (hm : o + m ≤ n) : w.there b o m := fun j hj => by
  have hc := h.c (o + j) (by omega)
  exact ⟨by rw [hc]; rfl, h.z (o + j) (by omega)⟩
/-- some cells of a block are written anew -/
theorem va_part {n : Nat} {w : World} {b : Nat} {f g : Nat → Value} (h : VA n w b f) {o : Nat} (vs : List Value) (hm : o + vs.length ≤ n) (hin : ∀ j, (hj : j < vs.length) → g (o + j) = vs[j]) (hout : ∀ i, i < n → (i < o ∨ o + vs.length ≤ i) → g i = f i) : VA n (w.setCells b o vs) b g := by
  refine ⟨fun i hi => ?_, fun i hi => by rw [World.frozen?_setCells]; exact h.z i hi⟩
  by_cases hio : i < o ∨ o + vs.length ≤ i
  · rw [World.cell?_setCells_out b vs o w ⟨b, i, none⟩ (fun _ _ => hio), hout i hi hio]
    exact h.c i hi
  · have hj : i - o < vs.length := by omega
    have := World.rangeAt_setCells_same w b o vs (there_of h hm) (i - o) vs[i - o] (List.getElem?_eq_getElem hj)
    rw [show o + (i - o) = i by omega] at this
    rw [this, ← hin (i - o) hj, show o + (i - o) = i by omega]
theorem but_setCells (b : Nat) : ∀ (cs : List Value) (o : Nat) (w : World), But (· = b) w (w.setCells b o cs)
  | [], _, w => But.refl _ w
  | v :: r, o, w => (but_setCell w ⟨b, o, none⟩ v).trans (but_setCells b r (o + 1) _)
theorem Odd.sets {w : World} {k b : Nat} (h : Odd w k) : ∀ (cs : List Value) (o : Nat), Odd (w.setCells b o cs) k := by
  intro cs
  induction cs generalizing w with
  | nil => intro o; exact h
  | cons v r ih => intro o; exact ih (h.set (b := b) (o := o) (v := v)) (o + 1)
/-- a part of a block, as a range -/
theorem range_part {n : Nat} {w : World} {b : Nat} {f : Nat → Value} (h : VA n w b f) {o : Nat} (vs : List Value) (hm : o + vs.length ≤ n) (hin : ∀ j, (hj : j < vs.length) → f (o + j) = vs[j]) : w.rangeAt b o vs := fun j v hv => by
  obtain ⟨hj, e⟩ := List.getElem?_eq_some_iff.1 hv
  rw [← e, ← hin j hj]
  exact h.c (o + j) (by omega)
end Go.Proofs.YtkmfamidahlgiaaGreatDoor
/- One step of a scan, on a board. -/
namespace Go.Proofs.YtkmfamidahlgiaaGreatDoor
open Go.RowKit
set_option linter.unusedVariables false
set_option linter.unusedSimpArgs false
set_option maxHeartbeats 4000000
attribute [local go_sem] later_cell later_frozen later_const
/-- the frame's other cells stay -/
structure KeepS (w w' : World) (fb o : Nat) : Prop where
  c : ∀ j v, j ≠ o + 4 → j ≠ o + 7 → w.cell? ⟨fb, j, none⟩ = some v → w'.cell? ⟨fb, j, none⟩ = some v
  z : ∀ j v, w.cell? ⟨fb, j, none⟩ = some v → w.frozen? ⟨fb, j, none⟩ = false → w'.frozen? ⟨fb, j, none⟩ = false
theorem KeepS.set {w w' : World} {fb o : Nat} (h : KeepS w w' fb o) (k : Nat) (hk : k = o + 4 ∨ k = o + 7) (u : Value) : KeepS w (w'.setCell ⟨fb, k, none⟩ u) fb o :=
  ⟨fun j v h3 h9 hc => by
    rw [World.cell?_setCell_other _ _ _ _ (fun e => by have := congrArg Addr.off e; simp at this; omega)]
    exact h.c j v h3 h9 hc, fun j v hc hz => by rw [World.frozen?_setCell]; exact h.z j v hc hz⟩
theorem KeepS.of {S : Nat → Prop} {w w' : World} {fb o : Nat} (hb : But S w w') (hs : ¬ S fb) : KeepS w w' fb o := ⟨fun j v _ _ hc => hb.cell hc hs, fun j v hc hz => hb.frozen hc hz hs⟩
theorem KeepS.refl (w : World) (fb o : Nat) : KeepS w w fb o := ⟨fun _ _ _ _ h => h, fun _ _ _ h => h⟩
/-- a frame at place o of block fb: where a scan stands, the least so far -/
structure FR32 (w : World) (fb o : Nat) (I M : Int) : Prop where
  c4 : w.cell? ⟨fb, o + 4, none⟩ = some (.int .i64 I)
  z4 : w.frozen? ⟨fb, o + 4, none⟩ = false
  c7 : w.cell? ⟨fb, o + 7, none⟩ = some (.int .u32 M)
  z7 : w.frozen? ⟨fb, o + 7, none⟩ = false
  od : Odd w fb
theorem FR32.but {S : Nat → Prop} {w w' : World} {fb o : Nat} {I M : Int} (h : FR32 w fb o I M) (hb : But S w w') (hs : ¬ S fb) : FR32 w' fb o I M := ⟨hb.cell h.c4 hs, hb.frozen h.c4 h.z4 hs, hb.cell h.c7 hs, hb.frozen h.c7 h.z7 hs, h.od.but hb hs⟩
theorem FR32.ext {w w' : World} {fb o : Nat} {I M : Int} (h : FR32 w fb o I M) (hx : Ext w w') : FR32 w' fb o I M := h.but (hx.but (fun _ => False)) id
theorem FR32.setM {w : World} {fb o : Nat} {I M : Int} (h : FR32 w fb o I M) (M' : Int) : FR32 (w.setCell ⟨fb, o + 7, none⟩ (.int .u32 M')) fb o I M' :=
  ⟨by rw [World.cell?_setCell_other _ _ _ _ (fun e => by have := congrArg Addr.off e; simp at this)]; exact h.c4, by rw [World.frozen?_setCell]; exact h.z4, World.cell?_setCell_same _ _ _ h.c7, by rw [World.frozen?_setCell]; exact h.z7, h.od.set⟩
theorem FR32.setI {w : World} {fb o : Nat} {I M : Int} (h : FR32 w fb o I M) (I' : Int) : FR32 (w.setCell ⟨fb, o + 4, none⟩ (.int .i64 I')) fb o I' M :=
  ⟨World.cell?_setCell_same _ _ _ h.c4, by rw [World.frozen?_setCell]; exact h.z4, by rw [World.cell?_setCell_other _ _ _ _ (fun e => by have := congrArg Addr.off e; simp at this)]; exact h.c7, by rw [World.frozen?_setCell]; exact h.z7, h.od.set⟩
def nextM32 (I M z : Int) : Int := if I = 0 ∨ D32 (z - M) < 0 then z else M
def ScanDoes32 (b g fb o : Nat) (y : LY) (f : Nat → Int) (lv : Value) (log' : List Acc) (n : Nat) (I M z : Int) (w : World) (e : Ending) (w' : World) : Prop :=
  e = .returned (.bool (decide (I + 1 = n))) ∧ ∃ lv', BD w' 121 b g y f lv' log' ∧ FR32 w' fb o (if I + 1 = n then 0 else I + 1) (nextM32 I M z) ∧ KeepS w w' fb o ∧ But (fun k => Own b g lv k ∨ k = fb) w w' ∧ (lv'.ownBlock = lv.ownBlock ∨ ∃ j, lv'.ownBlock = some j ∧ w.heap.size ≤ j)
/-- the board and the frame, behind writes to the frame -/
theorem scan_fin32 {b g fb o : Nat} {y : LY} {f : Nat → Int} {lv lv1 : Value} {log' : List Acc} {n : Nat} {I M z I' M' : Int} {w w1 w2 : World} (X : Aside w b g lv fb) (hB : BD w1 121 b g y f lv1 log') (hN : But (Own b g lv) w w1) (hA : lv1.ownBlock = lv.ownBlock ∨ ∃ j, lv1.ownBlock = some j ∧ w.heap.size ≤ j) (hF : FR32 w2 fb o I' M') (hC : But (· = fb) w1 w2) (hK : KeepS w1 w2 fb o)
    (hI : I' = if I + 1 = n then 0 else I + 1) (hM : M' = nextM32 I M z) : ScanDoes32 b g fb o y f lv log' n I M z w (.returned (.bool (decide (I + 1 = n)))) w2 := by
  have X1 := X.step hN hA
  refine ⟨rfl, lv1, hB.but hC (fun k hk e => X1.out (by rw [show fb = k from e.symm]; exact hk)), by rw [← hI, ← hM]; exact hF, ⟨fun j v h3 h9 hc => hK.c j v h3 h9 (hN.cell hc X.out), fun j v hc hz => hK.z j v (hN.cell hc X.out) (hN.frozen hc hz X.out)⟩, ?_, hA⟩
  exact (hN.mono fun _ _ h => .inl h).trans (hC.mono fun _ _ h => .inr h)
set_option maxRecDepth 100000 in
theorem scan32_step (b g fb o : Nat) (y : LY) (f : Nat → Int) (lv : Value) (log : List Acc) (t : Int) (v : Value) (xs : List Int) (I c : Nat) (M : Int) (w : World) (hB : BD w 121 b g y f lv log) (Y : YOk y) (E : Parts w) (X : Aside w b g lv fb) (F : FR32 w fb o I M) (hv : IntsV w v xs) (hI : I < xs.length) (hc : xs.getD I 0 = c) (hk : kd y c = 1) (f0 : 0 ≤ f c) (f1 : f c < 18446744073709551616) (hl : log.length ≤ 1000) (hx : xs.length ≤ 1000) :
    Calls Tryz.prog 26 #[.pointer (some ⟨b, 0, none⟩), .int .i64 t, v, .pointer (some ⟨fb, o, none⟩)] w (ScanDoes32 b g fb o y f lv (log ++ [⟨t, 1, c, f c, f c⟩]) xs.length I M (((f c) % 4294967296)) w) := by
  have CL := Lib.hid (Load32_yes b g y f lv log t c w hB Y E hk f0 f1 hl)
  have hF1 := fun w1 (hN : But (Own b g lv) w w1) => F.but hN X.out
  have HF := Lib.hid hF1
  obtain ⟨va, vc, ev, hf⟩ := hv.form
  subst ev
  obtain ⟨vb, vo, ea, cv⟩ := hf I hI
  subst ea
  rw [hc] at cv
  have HFIN := Lib.hid (fun lv1 w1 w2 I' M' (h1 : BD w1 121 b g y f lv1 (log ++ [⟨t, 1, c, f c, f c⟩])) (hN : But (Own b g lv) w w1) (hA : lv1.ownBlock = lv.ownBlock ∨ ∃ j, lv1.ownBlock = some j ∧ w.heap.size ≤ j) (h2 : FR32 w2 fb o I' M') (hC : But (· = fb) w1 w2) (hK : KeepS w1 w2 fb o) hI hM => scan_fin32 (n := xs.length) (I := I) (M := M) (z := ((f c) % 4294967296)) X h1 hN hA h2 hC hK hI hM)
  have q4 := F.c4
  have hI1 : (I : Int) < (xs.length : Int) := by omega
  have hne : (⟨fb, o + 4, none⟩ : Addr) ≠ ⟨fb, o + 7, none⟩ := fun e => by have := congrArg Addr.off e; simp at this
  have hne2 : (⟨fb, o + 7, none⟩ : Addr) ≠ ⟨fb, o + 4, none⟩ := fun e => by have := congrArg Addr.off e; simp at this
  have hI0 : (0 : Int) ≤ (I : Int) := by omega
  generalize hG : ScanDoes32 b g fb o y f lv (log ++ [⟨t, 1, c, f c, f c⟩]) xs.length I M (((f c) % 4294967296)) w = G at *
  generalize hz : (((f c) % 4294967296)) = z at *
  generalize xs.length = n at *
  clear hF1 hB F X hv hf hc hG hz
  go_enter Tryz.func26, Tryz.ntmps26
  go_wp2_with fail
  refine CL.out.mono ?_
  rintro e w1 ⟨rfl, lv1, B1, N1, A1⟩
  have FR1 := HF.out w1 N1
  have HB1 := Lib.hid B1
  have HN1 := Lib.hid N1
  have HA1 := Lib.hid A1
  have HFR := Lib.hid FR1
  have r4 := FR1.c4
  have y4 := FR1.z4
  have r7 := FR1.c7
  have y7 := FR1.z7
  clear B1 N1 A1 FR1 q4 cv
  by_cases h0 : I = 0
  · have d0 : ((I : Int) == 0) = true := by simp [h0]
    have HM := Lib.hid (show nextM32 I M z = z from if_pos (Or.inl (by omega)))
    clear h0
    by_cases hl1 : I + 1 < n
    · have d1 : decide ((I : Int) + 1 < n) = true := by simp; omega
      go_wp2
      have hn : ¬ (I : Int) + 1 = n := by omega
      have h := HFIN.out lv1 w1 _ ((I : Int) + 1) z HB1.out HN1.out HA1.out ((HFR.out.setM z).setI ((I : Int) + 1)) ((but_setCell w1 ⟨fb, o + 7, none⟩ _).trans (but_setCell _ ⟨fb, o + 4, none⟩ _)) (((KeepS.refl w1 fb o).set (o + 7) (.inr rfl) _).set (o + 4) (.inl rfl) _) ((if_neg hn).symm) HM.out.symm
      rw [show decide ((I : Int) + 1 = n) = false from by simpa using hn] at h
      exact h
    · have d1 : decide ((I : Int) + 1 < n) = false := by simp; omega
      go_wp2
      have hn : (I : Int) + 1 = n := by omega
      have h := HFIN.out lv1 w1 _ 0 z HB1.out HN1.out HA1.out (((HFR.out.setM z).setI ((I : Int) + 1)).setI 0) (((but_setCell w1 ⟨fb, o + 7, none⟩ _).trans (but_setCell _ ⟨fb, o + 4, none⟩ _)).trans (but_setCell _ ⟨fb, o + 4, none⟩ _)) ((((KeepS.refl w1 fb o).set (o + 7) (.inr rfl) _).set (o + 4) (.inl rfl) _).set (o + 4) (.inl rfl) _) ((if_pos hn).symm) HM.out.symm
      rw [show decide ((I : Int) + 1 = n) = true from by simpa using hn] at h
      exact h
  · have d0 : ((I : Int) == 0) = false := by simp; omega
    have h0' := Lib.hid h0
    clear h0
    go_wp2_with fail
    refine (lessU32 _ _ _).mono ?_
    rintro e w' ⟨rfl, rfl⟩
    by_cases hd : D32 (z - M) < 0
    · have d2 : decide (D32 (z - M) < 0) = true := by simpa using hd
      have HM := Lib.hid (show nextM32 I M z = z from if_pos (Or.inr hd))
      clear hd
      by_cases hl1 : I + 1 < n
      · have d1 : decide ((I : Int) + 1 < n) = true := by simp; omega
        go_wp2
        have hn : ¬ (I : Int) + 1 = n := by omega
        have h := HFIN.out lv1 w1 _ ((I : Int) + 1) z HB1.out HN1.out HA1.out ((HFR.out.setM z).setI ((I : Int) + 1)) ((but_setCell w1 ⟨fb, o + 7, none⟩ _).trans (but_setCell _ ⟨fb, o + 4, none⟩ _)) (((KeepS.refl w1 fb o).set (o + 7) (.inr rfl) _).set (o + 4) (.inl rfl) _) ((if_neg hn).symm) HM.out.symm
        rw [show decide ((I : Int) + 1 = n) = false from by simpa using hn] at h
        exact h
      · have d1 : decide ((I : Int) + 1 < n) = false := by simp; omega
        go_wp2
        have hn : (I : Int) + 1 = n := by omega
        have h := HFIN.out lv1 w1 _ 0 z HB1.out HN1.out HA1.out (((HFR.out.setM z).setI ((I : Int) + 1)).setI 0) (((but_setCell w1 ⟨fb, o + 7, none⟩ _).trans (but_setCell _ ⟨fb, o + 4, none⟩ _)).trans (but_setCell _ ⟨fb, o + 4, none⟩ _)) ((((KeepS.refl w1 fb o).set (o + 7) (.inr rfl) _).set (o + 4) (.inl rfl) _).set (o + 4) (.inl rfl) _) ((if_pos hn).symm) HM.out.symm
        rw [show decide ((I : Int) + 1 = n) = true from by simpa using hn] at h
        exact h
    · have d2 : decide (D32 (z - M) < 0) = false := by simpa using hd
      have HM := Lib.hid (show nextM32 I M z = M from if_neg (by have := h0'.out; omega))
      clear hd
      by_cases hl1 : I + 1 < n
      · have d1 : decide ((I : Int) + 1 < n) = true := by simp; omega
        go_wp2
        have hn : ¬ (I : Int) + 1 = n := by omega
        have h := HFIN.out lv1 w1 _ ((I : Int) + 1) M HB1.out HN1.out HA1.out (HFR.out.setI ((I : Int) + 1)) (but_setCell w1 ⟨fb, o + 4, none⟩ _) ((KeepS.refl w1 fb o).set (o + 4) (.inl rfl) _) ((if_neg hn).symm) HM.out.symm
        rw [show decide ((I : Int) + 1 = n) = false from by simpa using hn] at h
        exact h
      · have d1 : decide ((I : Int) + 1 < n) = false := by simp; omega
        go_wp2
        have hn : (I : Int) + 1 = n := by omega
        have h := HFIN.out lv1 w1 _ 0 M HB1.out HN1.out HA1.out ((HFR.out.setI ((I : Int) + 1)).setI 0) ((but_setCell w1 ⟨fb, o + 4, none⟩ _).trans (but_setCell _ ⟨fb, o + 4, none⟩ _)) (((KeepS.refl w1 fb o).set (o + 4) (.inl rfl) _).set (o + 4) (.inl rfl) _) ((if_pos hn).symm) HM.out.symm
        rw [show decide ((I : Int) + 1 = n) = true from by simpa using hn] at h
        exact h
theorem scan32_zero (b fb o : Nat) (t i : Int) (a : Option Addr) (c : Nat) (w : World) (q : w.cell? ⟨fb, o + 4, none⟩ = some (.int .i64 i)) (z : w.frozen? ⟨fb, o + 4, none⟩ = false) (hi : 0 ≤ i) : Calls Tryz.prog 26 #[.pointer (some ⟨b, 0, none⟩), .int .i64 t, .slice a 0 c, .pointer (some ⟨fb, o, none⟩)] w fun e w' => e = .returned (.bool true) ∧ w' = w.setCell ⟨fb, o + 4, none⟩ (.int .i64 0) := by
  have h2 : ¬ i < 0 := by omega
  go_enter Tryz.func26, Tryz.ntmps26
  go_wp2
  go_ret
  exact ⟨rfl, rfl⟩
/-- a frame at place o of block fb: where a scan stands, the least so far -/
structure FR64 (w : World) (fb o : Nat) (I M : Int) : Prop where
  c4 : w.cell? ⟨fb, o + 4, none⟩ = some (.int .i64 I)
  z4 : w.frozen? ⟨fb, o + 4, none⟩ = false
  c7 : w.cell? ⟨fb, o + 7, none⟩ = some (.int .u64 M)
  z7 : w.frozen? ⟨fb, o + 7, none⟩ = false
  od : Odd w fb
theorem FR64.but {S : Nat → Prop} {w w' : World} {fb o : Nat} {I M : Int} (h : FR64 w fb o I M) (hb : But S w w') (hs : ¬ S fb) : FR64 w' fb o I M := ⟨hb.cell h.c4 hs, hb.frozen h.c4 h.z4 hs, hb.cell h.c7 hs, hb.frozen h.c7 h.z7 hs, h.od.but hb hs⟩
theorem FR64.ext {w w' : World} {fb o : Nat} {I M : Int} (h : FR64 w fb o I M) (hx : Ext w w') : FR64 w' fb o I M := h.but (hx.but (fun _ => False)) id
theorem FR64.setM {w : World} {fb o : Nat} {I M : Int} (h : FR64 w fb o I M) (M' : Int) : FR64 (w.setCell ⟨fb, o + 7, none⟩ (.int .u64 M')) fb o I M' :=
  ⟨by rw [World.cell?_setCell_other _ _ _ _ (fun e => by have := congrArg Addr.off e; simp at this)]; exact h.c4, by rw [World.frozen?_setCell]; exact h.z4, World.cell?_setCell_same _ _ _ h.c7, by rw [World.frozen?_setCell]; exact h.z7, h.od.set⟩
theorem FR64.setI {w : World} {fb o : Nat} {I M : Int} (h : FR64 w fb o I M) (I' : Int) : FR64 (w.setCell ⟨fb, o + 4, none⟩ (.int .i64 I')) fb o I' M :=
  ⟨World.cell?_setCell_same _ _ _ h.c4, by rw [World.frozen?_setCell]; exact h.z4, by rw [World.cell?_setCell_other _ _ _ _ (fun e => by have := congrArg Addr.off e; simp at this)]; exact h.c7, by rw [World.frozen?_setCell]; exact h.z7, h.od.set⟩
def nextM64 (I M z : Int) : Int := if I = 0 ∨ D64 (z - M) < 0 then z else M
def ScanDoes64 (b g fb o : Nat) (y : LY) (f : Nat → Int) (lv : Value) (log' : List Acc) (n : Nat) (I M z : Int) (w : World) (e : Ending) (w' : World) : Prop :=
  e = .returned (.bool (decide (I + 1 = n))) ∧ ∃ lv', BD w' 152 b g y f lv' log' ∧ FR64 w' fb o (if I + 1 = n then 0 else I + 1) (nextM64 I M z) ∧ KeepS w w' fb o ∧ But (fun k => Own b g lv k ∨ k = fb) w w' ∧ (lv'.ownBlock = lv.ownBlock ∨ ∃ j, lv'.ownBlock = some j ∧ w.heap.size ≤ j)
/-- the board and the frame, behind writes to the frame -/
theorem scan_fin64 {b g fb o : Nat} {y : LY} {f : Nat → Int} {lv lv1 : Value} {log' : List Acc} {n : Nat} {I M z I' M' : Int} {w w1 w2 : World} (X : Aside w b g lv fb) (hB : BD w1 152 b g y f lv1 log') (hN : But (Own b g lv) w w1) (hA : lv1.ownBlock = lv.ownBlock ∨ ∃ j, lv1.ownBlock = some j ∧ w.heap.size ≤ j) (hF : FR64 w2 fb o I' M') (hC : But (· = fb) w1 w2) (hK : KeepS w1 w2 fb o)
    (hI : I' = if I + 1 = n then 0 else I + 1) (hM : M' = nextM64 I M z) : ScanDoes64 b g fb o y f lv log' n I M z w (.returned (.bool (decide (I + 1 = n)))) w2 := by
  have X1 := X.step hN hA
  refine ⟨rfl, lv1, hB.but hC (fun k hk e => X1.out (by rw [show fb = k from e.symm]; exact hk)), by rw [← hI, ← hM]; exact hF, ⟨fun j v h3 h9 hc => hK.c j v h3 h9 (hN.cell hc X.out), fun j v hc hz => hK.z j v (hN.cell hc X.out) (hN.frozen hc hz X.out)⟩, ?_, hA⟩
  exact (hN.mono fun _ _ h => .inl h).trans (hC.mono fun _ _ h => .inr h)
set_option maxRecDepth 100000 in
theorem scan64_step (b g fb o : Nat) (y : LY) (f : Nat → Int) (lv : Value) (log : List Acc) (t : Int) (v : Value) (xs : List Int) (I c : Nat) (M : Int) (w : World) (hB : BD w 152 b g y f lv log) (Y : YOk y) (E : Parts w) (X : Aside w b g lv fb) (F : FR64 w fb o I M) (hv : IntsV w v xs) (hI : I < xs.length) (hc : xs.getD I 0 = c) (hk : kd y c = 1) (f0 : 0 ≤ f c) (f1 : f c < 18446744073709551616) (hl : log.length ≤ 1000) (hx : xs.length ≤ 1000) :
    Calls Tryz.prog 65 #[.pointer (some ⟨b, 0, none⟩), .int .i64 t, v, .pointer (some ⟨fb, o, none⟩)] w (ScanDoes64 b g fb o y f lv (log ++ [⟨t, 1, c, f c, f c⟩]) xs.length I M ((U64 (f c))) w) := by
  have CL := Lib.hid (Load64_yes b g y f lv log t c w hB Y E hk f0 f1 hl)
  have hF1 := fun w1 (hN : But (Own b g lv) w w1) => F.but hN X.out
  have HF := Lib.hid hF1
  obtain ⟨va, vc, ev, hf⟩ := hv.form
  subst ev
  obtain ⟨vb, vo, ea, cv⟩ := hf I hI
  subst ea
  rw [hc] at cv
  have HFIN := Lib.hid (fun lv1 w1 w2 I' M' (h1 : BD w1 152 b g y f lv1 (log ++ [⟨t, 1, c, f c, f c⟩])) (hN : But (Own b g lv) w w1) (hA : lv1.ownBlock = lv.ownBlock ∨ ∃ j, lv1.ownBlock = some j ∧ w.heap.size ≤ j) (h2 : FR64 w2 fb o I' M') (hC : But (· = fb) w1 w2) (hK : KeepS w1 w2 fb o) hI hM => scan_fin64 (n := xs.length) (I := I) (M := M) (z := (U64 (f c))) X h1 hN hA h2 hC hK hI hM)
  have q4 := F.c4
  have hI1 : (I : Int) < (xs.length : Int) := by omega
  have hne : (⟨fb, o + 4, none⟩ : Addr) ≠ ⟨fb, o + 7, none⟩ := fun e => by have := congrArg Addr.off e; simp at this
  have hne2 : (⟨fb, o + 7, none⟩ : Addr) ≠ ⟨fb, o + 4, none⟩ := fun e => by have := congrArg Addr.off e; simp at this
  have hI0 : (0 : Int) ≤ (I : Int) := by omega
  generalize hG : ScanDoes64 b g fb o y f lv (log ++ [⟨t, 1, c, f c, f c⟩]) xs.length I M ((U64 (f c))) w = G at *
  generalize hz : ((U64 (f c))) = z at *
  generalize xs.length = n at *
  clear hF1 hB F X hv hf hc hG hz
  go_enter Tryz.func65, Tryz.ntmps65
  go_wp2_with fail
  refine CL.out.mono ?_
  rintro e w1 ⟨rfl, lv1, B1, N1, A1⟩
  have FR1 := HF.out w1 N1
  have HB1 := Lib.hid B1
  have HN1 := Lib.hid N1
  have HA1 := Lib.hid A1
  have HFR := Lib.hid FR1
  have r4 := FR1.c4
  have y4 := FR1.z4
  have r7 := FR1.c7
  have y7 := FR1.z7
  clear B1 N1 A1 FR1 q4 cv
  by_cases h0 : I = 0
  · have d0 : ((I : Int) == 0) = true := by simp [h0]
    have HM := Lib.hid (show nextM64 I M z = z from if_pos (Or.inl (by omega)))
    clear h0
    by_cases hl1 : I + 1 < n
    · have d1 : decide ((I : Int) + 1 < n) = true := by simp; omega
      go_wp2
      have hn : ¬ (I : Int) + 1 = n := by omega
      have h := HFIN.out lv1 w1 _ ((I : Int) + 1) z HB1.out HN1.out HA1.out ((HFR.out.setM z).setI ((I : Int) + 1)) ((but_setCell w1 ⟨fb, o + 7, none⟩ _).trans (but_setCell _ ⟨fb, o + 4, none⟩ _)) (((KeepS.refl w1 fb o).set (o + 7) (.inr rfl) _).set (o + 4) (.inl rfl) _) ((if_neg hn).symm) HM.out.symm
      rw [show decide ((I : Int) + 1 = n) = false from by simpa using hn] at h
      exact h
    · have d1 : decide ((I : Int) + 1 < n) = false := by simp; omega
      go_wp2
      have hn : (I : Int) + 1 = n := by omega
      have h := HFIN.out lv1 w1 _ 0 z HB1.out HN1.out HA1.out (((HFR.out.setM z).setI ((I : Int) + 1)).setI 0) (((but_setCell w1 ⟨fb, o + 7, none⟩ _).trans (but_setCell _ ⟨fb, o + 4, none⟩ _)).trans (but_setCell _ ⟨fb, o + 4, none⟩ _)) ((((KeepS.refl w1 fb o).set (o + 7) (.inr rfl) _).set (o + 4) (.inl rfl) _).set (o + 4) (.inl rfl) _) ((if_pos hn).symm) HM.out.symm
      rw [show decide ((I : Int) + 1 = n) = true from by simpa using hn] at h
      exact h
  · have d0 : ((I : Int) == 0) = false := by simp; omega
    have h0' := Lib.hid h0
    clear h0
    go_wp2_with fail
    refine (lessU64 _ _ _).mono ?_
    rintro e w' ⟨rfl, rfl⟩
    by_cases hd : D64 (z - M) < 0
    · have d2 : decide (D64 (z - M) < 0) = true := by simpa using hd
      have HM := Lib.hid (show nextM64 I M z = z from if_pos (Or.inr hd))
      clear hd
      by_cases hl1 : I + 1 < n
      · have d1 : decide ((I : Int) + 1 < n) = true := by simp; omega
        go_wp2
        have hn : ¬ (I : Int) + 1 = n := by omega
        have h := HFIN.out lv1 w1 _ ((I : Int) + 1) z HB1.out HN1.out HA1.out ((HFR.out.setM z).setI ((I : Int) + 1)) ((but_setCell w1 ⟨fb, o + 7, none⟩ _).trans (but_setCell _ ⟨fb, o + 4, none⟩ _)) (((KeepS.refl w1 fb o).set (o + 7) (.inr rfl) _).set (o + 4) (.inl rfl) _) ((if_neg hn).symm) HM.out.symm
        rw [show decide ((I : Int) + 1 = n) = false from by simpa using hn] at h
        exact h
      · have d1 : decide ((I : Int) + 1 < n) = false := by simp; omega
        go_wp2
        have hn : (I : Int) + 1 = n := by omega
        have h := HFIN.out lv1 w1 _ 0 z HB1.out HN1.out HA1.out (((HFR.out.setM z).setI ((I : Int) + 1)).setI 0) (((but_setCell w1 ⟨fb, o + 7, none⟩ _).trans (but_setCell _ ⟨fb, o + 4, none⟩ _)).trans (but_setCell _ ⟨fb, o + 4, none⟩ _)) ((((KeepS.refl w1 fb o).set (o + 7) (.inr rfl) _).set (o + 4) (.inl rfl) _).set (o + 4) (.inl rfl) _) ((if_pos hn).symm) HM.out.symm
        rw [show decide ((I : Int) + 1 = n) = true from by simpa using hn] at h
        exact h
    · have d2 : decide (D64 (z - M) < 0) = false := by simpa using hd
      have HM := Lib.hid (show nextM64 I M z = M from if_neg (by have := h0'.out; omega))
      clear hd
      by_cases hl1 : I + 1 < n
      · have d1 : decide ((I : Int) + 1 < n) = true := by simp; omega
        go_wp2
        have hn : ¬ (I : Int) + 1 = n := by omega
        have h := HFIN.out lv1 w1 _ ((I : Int) + 1) M HB1.out HN1.out HA1.out (HFR.out.setI ((I : Int) + 1)) (but_setCell w1 ⟨fb, o + 4, none⟩ _) ((KeepS.refl w1 fb o).set (o + 4) (.inl rfl) _) ((if_neg hn).symm) HM.out.symm
        rw [show decide ((I : Int) + 1 = n) = false from by simpa using hn] at h
        exact h
      · have d1 : decide ((I : Int) + 1 < n) = false := by simp; omega
        go_wp2
        have hn : (I : Int) + 1 = n := by omega
        have h := HFIN.out lv1 w1 _ 0 M HB1.out HN1.out HA1.out ((HFR.out.setI ((I : Int) + 1)).setI 0) ((but_setCell w1 ⟨fb, o + 4, none⟩ _).trans (but_setCell _ ⟨fb, o + 4, none⟩ _)) (((KeepS.refl w1 fb o).set (o + 4) (.inl rfl) _).set (o + 4) (.inl rfl) _) ((if_pos hn).symm) HM.out.symm
        rw [show decide ((I : Int) + 1 = n) = true from by simpa using hn] at h
        exact h
theorem scan64_zero (b fb o : Nat) (t i : Int) (a : Option Addr) (c : Nat) (w : World) (q : w.cell? ⟨fb, o + 4, none⟩ = some (.int .i64 i)) (z : w.frozen? ⟨fb, o + 4, none⟩ = false) (hi : 0 ≤ i) : Calls Tryz.prog 65 #[.pointer (some ⟨b, 0, none⟩), .int .i64 t, .slice a 0 c, .pointer (some ⟨fb, o, none⟩)] w fun e w' => e = .returned (.bool true) ∧ w' = w.setCell ⟨fb, o + 4, none⟩ (.int .i64 0) := by
  have h2 : ¬ i < 0 := by omega
  go_enter Tryz.func65, Tryz.ntmps65
  go_wp2
  go_ret
  exact ⟨rfl, rfl⟩
end Go.Proofs.YtkmfamidahlgiaaGreatDoor
/- Registers of both sides, in blocks beside the boards. -/
namespace Go.Proofs.YtkmfamidahlgiaaGreatDoor
open Go.RowKit
set_option linter.unusedVariables false
set_option linter.unusedSimpArgs false
set_option maxHeartbeats 4000000
/-- both boards, of the same cells and accesses -/
structure Duo (bt : Nat) (w0 w : World) (b g : Nat) (y : LY) (f : Nat → Int) (lv : Value) (log : List Acc) (b' : Nat) (r : RY) (f' : Nat → Int) (lv' : Value) (log' : List Acc) (ups : List (List Int)) : Prop where
  T : Two w0 w bt b g y f lv log b' r f' lv' log'
  ol : OwnL w (.slice y.a y.n y.cap) ups
theorem Duo.ext {bt : Nat} {w0 w w' : World} {b g : Nat} {y : LY} {f : Nat → Int} {lv : Value} {log : List Acc} {b' : Nat} {r : RY} {f' : Nat → Int} {lv' : Value} {log' : List Acc} {ups : List (List Int)} (h : Duo bt w0 w b g y f lv log b' r f' lv' log' ups) (hx : Ext w w') : Duo bt w0 w' b g y f lv log b' r f' lv' log' ups := ⟨h.T.ext hx, h.ol.ext hx⟩
/-- a block beside both boards: n cells of its own -/
structure Sd (b g : Nat) (lv : Value) (b' : Nat) (r : RY) (lv' : Value) (w0 w : World) (k n : Nat) (φ : Nat → Value) : Prop where
  a : VA n w k φ
  o : Odd w k
  x : Far b g lv b' r lv' w0 w k
theorem Sd.ext {b g : Nat} {lv : Value} {b' : Nat} {r : RY} {lv' : Value} {w0 w w' : World} {k n : Nat} {φ : Nat → Value} (h : Sd b g lv b' r lv' w0 w k n φ) (hx : Ext w w') : Sd b g lv b' r lv' w0 w' k n φ :=
  ⟨h.a.ext hx, h.o.but (hx.but (fun _ => False)) id, h.x.up hx.size⟩
theorem Sd.congr {b g : Nat} {lv : Value} {b' : Nat} {r : RY} {lv' : Value} {w0 w : World} {k n : Nat} {φ ψ : Nat → Value} (h : Sd b g lv b' r lv' w0 w k n φ) (e : ∀ i, i < n → φ i = ψ i) : Sd b g lv b' r lv' w0 w k n ψ := ⟨h.a.congr e, h.o, h.x⟩
theorem Sd.aside {b g : Nat} {lv : Value} {b' : Nat} {r : RY} {lv' : Value} {w0 w : World} {k n : Nat} {φ : Nat → Value} (h : Sd b g lv b' r lv' w0 w k n φ) : Aside w b g lv k := ⟨h.x.out, h.x.hi⟩
/-- the first board has turned, or it and another block -/
theorem Sd.stepB {S : Nat → Prop} {b g : Nat} {lv lv2 : Value} {b' : Nat} {r : RY} {lv' : Value} {w0 w w' : World} {k n : Nat} {φ : Nat → Value} (h : Sd b g lv b' r lv' w0 w k n φ) (hN : But S w w') (hs : ∀ q, S q → Own b g lv q ∨ q ≠ k) (hA : lv2.ownBlock = lv.ownBlock ∨ ∃ j, lv2.ownBlock = some j ∧ w.heap.size ≤ j) : Sd b g lv2 b' r lv' w0 w' k n φ := by
  have nk : ¬ S k := fun e => (hs k e).elim h.x.out (fun e => e rfl)
  exact ⟨h.a.but hN nk, h.o.but hN nk, h.x.stepB hN.size hA⟩
theorem Sd.stepR {b g : Nat} {lv : Value} {b' : Nat} {r : RY} {lv' lv2 : Value} {w0 w w' : World} {k n : Nat} {φ : Nat → Value} (h : Sd b g lv b' r lv' w0 w k n φ) (hN : But (Own b' r.gh lv') w w') (hA : lv2.ownBlock = lv'.ownBlock ∨ ∃ j, lv2.ownBlock = some j ∧ w.heap.size ≤ j) : Sd b g lv b' r lv2 w0 w' k n φ :=
  ⟨h.a.but hN h.x.out', h.o.but hN h.x.out', h.x.stepR hN.size hA⟩
/-- another block has turned -/
theorem Sd.off {S : Nat → Prop} {b g : Nat} {lv : Value} {b' : Nat} {r : RY} {lv' : Value} {w0 w w' : World} {k n : Nat} {φ : Nat → Value} (h : Sd b g lv b' r lv' w0 w k n φ) (hN : But S w w') (hk : ¬ S k) : Sd b g lv b' r lv' w0 w' k n φ :=
  ⟨h.a.but hN hk, h.o.but hN hk, h.x.up hN.size⟩
theorem Sd.set {b g : Nat} {lv : Value} {b' : Nat} {r : RY} {lv' : Value} {w0 w : World} {k n : Nat} {φ : Nat → Value} (h : Sd b g lv b' r lv' w0 w k n φ) {i : Nat} (hi : i < n) (v : Value) : Sd b g lv b' r lv' w0 (w.setCell ⟨k, i, none⟩ v) k n (fun j => if j = i then v else φ j) :=
  ⟨va_set h.a v hi, h.o.set, h.x.up (but_setCell w ⟨k, i, none⟩ v).size⟩
theorem Sd.sets {b g : Nat} {lv : Value} {b' : Nat} {r : RY} {lv' : Value} {w0 w : World} {k n : Nat} {φ ψ : Nat → Value} (h : Sd b g lv b' r lv' w0 w k n φ) {o : Nat} (vs : List Value) (hm : o + vs.length ≤ n) (hin : ∀ j, (hj : j < vs.length) → ψ (o + j) = vs[j]) (hout : ∀ i, i < n → (i < o ∨ o + vs.length ≤ i) → ψ i = φ i) : Sd b g lv b' r lv' w0 (w.setCells k o vs) k n ψ :=
  ⟨va_part h.a vs hm hin hout, h.o.sets _ _, h.x.up (but_setCells k vs o w).size⟩
theorem Duo.off {bt : Nat} {w0 w w' : World} {b g : Nat} {y : LY} {f : Nat → Int} {lv : Value} {log : List Acc} {b' : Nat} {r : RY} {f' : Nat → Int} {lv' : Value} {log' : List Acc} {ups : List (List Int)} {k n : Nat} {φ : Nat → Value} (h : Duo bt w0 w b g y f lv log b' r f' lv' log' ups) (hk : Sd b g lv b' r lv' w0 w k n φ) (hN : But (· = k) w w') : Duo bt w0 w' b g y f lv log b' r f' lv' log' ups :=
  ⟨h.T.off hk.x hN, h.ol.odd hN (fun q hq _ => by rw [show q = k from hq]; exact hk.o)⟩
theorem Duo.stepR {bt : Nat} {w0 w w' : World} {b g : Nat} {y : LY} {f : Nat → Int} {lv : Value} {log : List Acc} {b' : Nat} {r : RY} {f' f2 : Nat → Int} {lv' lv2 : Value} {log' log2 : List Acc} {ups : List (List Int)} (h : Duo bt w0 w b g y f lv log b' r f' lv' log' ups) (hR : RB w' b' r f2 lv2 log2) (hN : But (Own b' r.gh lv') w w') (hA : lv2.ownBlock = lv'.ownBlock ∨ ∃ j, lv2.ownBlock = some j ∧ w.heap.size ≤ j) : Duo bt w0 w' b g y f lv log b' r f2 lv2 log2 ups :=
  ⟨h.T.stepR hR hN hA, h.ol.but hN h.T.R.own⟩
theorem Duo.stepB32 {w0 w w' : World} {b g : Nat} {y : LY} {f f2 : Nat → Int} {lv lv2 : Value} {log log2 : List Acc} {b' : Nat} {r : RY} {f' : Nat → Int} {lv' : Value} {log' : List Acc} {ups : List (List Int)} (h : Duo 121 w0 w b g y f lv log b' r f' lv' log' ups) (hB : BD w' 121 b g y f2 lv2 log2) (hN : But (Own b g lv) w w') (hA : lv2.ownBlock = lv.ownBlock ∨ ∃ j, lv2.ownBlock = some j ∧ w.heap.size ≤ j) : Duo 121 w0 w' b g y f2 lv2 log2 b' r f' lv' log' ups :=
  ⟨h.T.stepB (by decide) hB hN hA, h.ol.but hN (h.T.B.own (by decide) (by decide))⟩
theorem Duo.stepK32 {w0 w w' : World} {b g : Nat} {y : LY} {f f2 : Nat → Int} {lv lv2 : Value} {log log2 : List Acc} {b' : Nat} {r : RY} {f' : Nat → Int} {lv' : Value} {log' : List Acc} {ups : List (List Int)} {k n : Nat} {φ : Nat → Value} (h : Duo 121 w0 w b g y f lv log b' r f' lv' log' ups) (hk : Sd b g lv b' r lv' w0 w k n φ) (hB : BD w' 121 b g y f2 lv2 log2) (hN : But (fun q => Own b g lv q ∨ q = k) w w') (hA : lv2.ownBlock = lv.ownBlock ∨ ∃ j, lv2.ownBlock = some j ∧ w.heap.size ≤ j) : Duo 121 w0 w' b g y f2 lv2 log2 b' r f' lv' log' ups := by
  refine ⟨h.T.stepK (by decide) hk.x hB hN hA, h.ol.odd hN (fun q hq _ => ?_)⟩
  rcases hq with e | e
  · exact own_tag32 h.T.B e
  · rw [e]; exact hk.o
theorem Duo.stepB64 {w0 w w' : World} {b g : Nat} {y : LY} {f f2 : Nat → Int} {lv lv2 : Value} {log log2 : List Acc} {b' : Nat} {r : RY} {f' : Nat → Int} {lv' : Value} {log' : List Acc} {ups : List (List Int)} (h : Duo 152 w0 w b g y f lv log b' r f' lv' log' ups) (hB : BD w' 152 b g y f2 lv2 log2) (hN : But (Own b g lv) w w') (hA : lv2.ownBlock = lv.ownBlock ∨ ∃ j, lv2.ownBlock = some j ∧ w.heap.size ≤ j) : Duo 152 w0 w' b g y f2 lv2 log2 b' r f' lv' log' ups :=
  ⟨h.T.stepB (by decide) hB hN hA, h.ol.but hN (h.T.B.own (by decide) (by decide))⟩
theorem Duo.stepK64 {w0 w w' : World} {b g : Nat} {y : LY} {f f2 : Nat → Int} {lv lv2 : Value} {log log2 : List Acc} {b' : Nat} {r : RY} {f' : Nat → Int} {lv' : Value} {log' : List Acc} {ups : List (List Int)} {k n : Nat} {φ : Nat → Value} (h : Duo 152 w0 w b g y f lv log b' r f' lv' log' ups) (hk : Sd b g lv b' r lv' w0 w k n φ) (hB : BD w' 152 b g y f2 lv2 log2) (hN : But (fun q => Own b g lv q ∨ q = k) w w') (hA : lv2.ownBlock = lv.ownBlock ∨ ∃ j, lv2.ownBlock = some j ∧ w.heap.size ≤ j) : Duo 152 w0 w' b g y f2 lv2 log2 b' r f' lv' log' ups := by
  refine ⟨h.T.stepK (by decide) hk.x hB hN hA, h.ol.odd hN (fun q hq _ => ?_)⟩
  rcases hq with e | e
  · exact own_tag64 h.T.B e
  · rw [e]; exact hk.o
/-- registers: N, Pc, I, From, Min, Val; the others are 0 -/
structure Fm where
  N : Int
  Pc : Int
  I : Int
  Fr : Int
  Mn : Int
  Vl : Int
def Fm.nil : Fm := ⟨0, 0, 0, 0, 0, 0⟩
def updF (F : Nat → Fm) (t : Nat) (x : Fm) (i : Nat) : Fm := if i = t then x else F i
theorem dm11 (t k : Nat) (hk : k < 11) : (t * 11 + k) % 11 = k ∧ (t * 11 + k) / 11 = t := by omega
def fml32 (x : Fm) : List Value := [.int .i64 0, .int .i64 x.N, .int .i64 0, .int .i64 x.Pc, .int .i64 x.I, .int .i64 0, .int .u32 x.Fr, .int .u32 x.Mn, .int .u32 x.Vl, .int .u32 0, .slice none 0 0]
def fmc32 (x : Fm) (j : Nat) : Value := (fml32 x).getD j undef
/-- a row of registers -/
def fmV32 (F : Nat → Fm) (i : Nat) : Value := fmc32 (F (i / 11)) (i % 11)
theorem fmV32_at (F : Nat → Fm) (t k : Nat) (hk : k < 11) : fmV32 F (t * 11 + k) = fmc32 (F t) k := by
  unfold fmV32
  rw [(dm11 t k hk).1, (dm11 t k hk).2]
theorem fml32_at (F : Nat → Fm) (t j : Nat) (hj : j < (fml32 (F t)).length) : fmV32 F (t * 11 + j) = (fml32 (F t))[j] := by
  have hj' : j < 11 := hj
  rw [fmV32_at F t j hj']
  unfold fmc32
  rw [List.getD_eq_getElem?_getD, List.getElem?_eq_getElem hj]
  rfl
theorem fmV32_out (F : Nat → Fm) (t : Nat) (x : Fm) (i : Nat) (h : i < t * 11 ∨ t * 11 + 11 ≤ i) : fmV32 (updF F t x) i = fmV32 F i := by
  unfold fmV32 updF
  rw [if_neg (by omega)]
theorem Sd.frame32 {b g : Nat} {lv : Value} {b' : Nat} {r : RY} {lv' : Value} {w0 w : World} {k n t : Nat} {F : Nat → Fm} (h : Sd b g lv b' r lv' w0 w k n (fmV32 F)) (ht : t * 11 + 11 ≤ n) (x : Fm) : Sd b g lv b' r lv' w0 (w.setCells k (t * 11) (fml32 x)) k n (fmV32 (updF F t x)) := by
  refine h.sets (fml32 x) ht (fun j hj => ?_) (fun i hi ho => fmV32_out F t x i ho)
  have := fml32_at (updF F t x) t j
  have e : updF F t x t = x := if_pos rfl
  rw [e] at this
  exact this hj
theorem Sd.fr32 {b g : Nat} {lv : Value} {b' : Nat} {r : RY} {lv' : Value} {w0 w : World} {k n t : Nat} {F : Nat → Fm} (h : Sd b g lv b' r lv' w0 w k n (fmV32 F)) (ht : t * 11 + 11 ≤ n) : FR32 w k (t * 11) (F t).I (F t).Mn :=
  ⟨by rw [h.a.c (t * 11 + 4) (by omega), fmV32_at F t 4 (by decide)]; rfl, h.a.z (t * 11 + 4) (by omega), by rw [h.a.c (t * 11 + 7) (by omega), fmV32_at F t 7 (by decide)]; rfl, h.a.z (t * 11 + 7) (by omega), h.o⟩
/-- behind a step of a scan -/
theorem va_scan32 {w w' : World} {k n t : Nat} {F : Nat → Fm} {I M : Int} (h : VA n w k (fmV32 F)) (ht : t * 11 + 11 ≤ n) (hF : FR32 w' k (t * 11) I M) (hK : KeepS w w' k (t * 11)) : VA n w' k (fmV32 (updF F t { F t with I := I, Mn := M })) := by
  refine ⟨fun i hi => ?_, fun i hi => hK.z i _ (h.c i hi) (h.z i hi)⟩
  by_cases e4 : i = t * 11 + 4
  · subst e4
    rw [fmV32_at _ t 4 (by decide), hF.c4]
    simp [updF, fmc32, fml32]
  by_cases e7 : i = t * 11 + 7
  · subst e7
    rw [fmV32_at _ t 7 (by decide), hF.c7]
    simp [updF, fmc32, fml32]
  rw [hK.c i _ e4 e7 (h.c i hi)]
  by_cases e : i < t * 11 ∨ t * 11 + 11 ≤ i
  · rw [fmV32_out F t _ i e]
  · obtain ⟨j, hj, rfl⟩ : ∃ j, j < 11 ∧ i = t * 11 + j := ⟨i - t * 11, by omega, by omega⟩
    rw [fmV32_at _ t j hj, fmV32_at _ t j hj]
    have h11 : j = 0 ∨ j = 1 ∨ j = 2 ∨ j = 3 ∨ j = 5 ∨ j = 6 ∨ j = 8 ∨ j = 9 ∨ j = 10 := by omega
    rcases h11 with rfl | rfl | rfl | rfl | rfl | rfl | rfl | rfl | rfl <;> simp [updF, fmc32, fml32]
def fml64 (x : Fm) : List Value := [.int .i64 0, .int .i64 x.N, .int .i64 0, .int .i64 x.Pc, .int .i64 x.I, .int .i64 0, .int .u64 x.Fr, .int .u64 x.Mn, .int .u64 x.Vl, .int .u64 0, .slice none 0 0]
def fmc64 (x : Fm) (j : Nat) : Value := (fml64 x).getD j undef
/-- a row of registers -/
def fmV64 (F : Nat → Fm) (i : Nat) : Value := fmc64 (F (i / 11)) (i % 11)
theorem fmV64_at (F : Nat → Fm) (t k : Nat) (hk : k < 11) : fmV64 F (t * 11 + k) = fmc64 (F t) k := by
  unfold fmV64
  rw [(dm11 t k hk).1, (dm11 t k hk).2]
theorem fml64_at (F : Nat → Fm) (t j : Nat) (hj : j < (fml64 (F t)).length) : fmV64 F (t * 11 + j) = (fml64 (F t))[j] := by
  have hj' : j < 11 := hj
  rw [fmV64_at F t j hj']
  unfold fmc64
  rw [List.getD_eq_getElem?_getD, List.getElem?_eq_getElem hj]
  rfl
theorem fmV64_out (F : Nat → Fm) (t : Nat) (x : Fm) (i : Nat) (h : i < t * 11 ∨ t * 11 + 11 ≤ i) : fmV64 (updF F t x) i = fmV64 F i := by
  unfold fmV64 updF
  rw [if_neg (by omega)]
theorem Sd.frame64 {b g : Nat} {lv : Value} {b' : Nat} {r : RY} {lv' : Value} {w0 w : World} {k n t : Nat} {F : Nat → Fm} (h : Sd b g lv b' r lv' w0 w k n (fmV64 F)) (ht : t * 11 + 11 ≤ n) (x : Fm) : Sd b g lv b' r lv' w0 (w.setCells k (t * 11) (fml64 x)) k n (fmV64 (updF F t x)) := by
  refine h.sets (fml64 x) ht (fun j hj => ?_) (fun i hi ho => fmV64_out F t x i ho)
  have := fml64_at (updF F t x) t j
  have e : updF F t x t = x := if_pos rfl
  rw [e] at this
  exact this hj
theorem Sd.fr64 {b g : Nat} {lv : Value} {b' : Nat} {r : RY} {lv' : Value} {w0 w : World} {k n t : Nat} {F : Nat → Fm} (h : Sd b g lv b' r lv' w0 w k n (fmV64 F)) (ht : t * 11 + 11 ≤ n) : FR64 w k (t * 11) (F t).I (F t).Mn :=
  ⟨by rw [h.a.c (t * 11 + 4) (by omega), fmV64_at F t 4 (by decide)]; rfl, h.a.z (t * 11 + 4) (by omega), by rw [h.a.c (t * 11 + 7) (by omega), fmV64_at F t 7 (by decide)]; rfl, h.a.z (t * 11 + 7) (by omega), h.o⟩
/-- behind a step of a scan -/
theorem va_scan64 {w w' : World} {k n t : Nat} {F : Nat → Fm} {I M : Int} (h : VA n w k (fmV64 F)) (ht : t * 11 + 11 ≤ n) (hF : FR64 w' k (t * 11) I M) (hK : KeepS w w' k (t * 11)) : VA n w' k (fmV64 (updF F t { F t with I := I, Mn := M })) := by
  refine ⟨fun i hi => ?_, fun i hi => hK.z i _ (h.c i hi) (h.z i hi)⟩
  by_cases e4 : i = t * 11 + 4
  · subst e4
    rw [fmV64_at _ t 4 (by decide), hF.c4]
    simp [updF, fmc64, fml64]
  by_cases e7 : i = t * 11 + 7
  · subst e7
    rw [fmV64_at _ t 7 (by decide), hF.c7]
    simp [updF, fmc64, fml64]
  rw [hK.c i _ e4 e7 (h.c i hi)]
  by_cases e : i < t * 11 ∨ t * 11 + 11 ≤ i
  · rw [fmV64_out F t _ i e]
  · obtain ⟨j, hj, rfl⟩ : ∃ j, j < 11 ∧ i = t * 11 + j := ⟨i - t * 11, by omega, by omega⟩
    rw [fmV64_at _ t j hj, fmV64_at _ t j hj]
    have h11 : j = 0 ∨ j = 1 ∨ j = 2 ∨ j = 3 ∨ j = 5 ∨ j = 6 ∨ j = 8 ∨ j = 9 ∨ j = 10 := by omega
    rcases h11 with rfl | rfl | rfl | rfl | rfl | rfl | rfl | rfl | rfl <;> simp [updF, fmc64, fml64]
/-- the registers behind a step of a scan, the answer -/
def scnM (D : Int → Int) (I M z : Int) : Int := if I = 0 ∨ D (z - M) < 0 then z else M
def scnI (n : Nat) (I : Int) : Int := if I + 1 = n then 0 else I + 1
end Go.Proofs.YtkmfamidahlgiaaGreatDoor
/- The document's least of some cells of its board. -/
namespace Go.Proofs.YtkmfamidahlgiaaGreatDoor
open Go.RowKit
set_option linter.unusedVariables false
set_option linter.unusedSimpArgs false
set_option maxHeartbeats 4000000
attribute [local go_sem] later_cell later_frozen later_const
/-- the least of g 0 .. g (k - 1), as a scan looks at them: the first, then what is behind -/
def leastP (D : Int → Int) (g : Nat → Int) : Nat → Int
  | 0 => 0
  | k + 1 => if k = 0 ∨ D (g k - leastP D g k) < 0 then g k else leastP D g k
theorem leastP_0 (D : Int → Int) (g : Nat → Int) : leastP D g (0 + 1) = g 0 := by simp [leastP]
theorem leastP_lt (D : Int → Int) (g : Nat → Int) (k : Nat) (h : D (g k - leastP D g k) < 0) : leastP D g (k + 1) = g k := by simp [leastP, h]
theorem leastP_ge (D : Int → Int) (g : Nat → Int) (k : Nat) (h0 : k ≠ 0) (h : ¬ D (g k - leastP D g k) < 0) : leastP D g (k + 1) = leastP D g k := by
  simp only [leastP]
  exact if_neg (by rintro (e | e); exact h0 e; exact h e)
theorem leastP_nn (D : Int → Int) (g : Nat → Int) (h : ∀ i, 0 ≤ g i) : ∀ k, 0 ≤ leastP D g k
  | 0 => Int.le_refl _
  | k + 1 => by
    unfold leastP
    split
    · exact h k
    · exact leastP_nn D g h k
set_option maxRecDepth 100000 in
theorem rGtLeast0 (D : Int → Int) (b : Nat) (r : RY) (f : Nat → Int) (lv : Value) (log : List Acc) (v : Value) (xs : List Int) (w : World) (h : RB w b r f lv log) (hv : IntsV w v xs) (hx : ∀ i, i < xs.length → ∃ c : Nat, xs.getD i 0 = c ∧ c < r.m) (hf0 : ∀ i, 0 ≤ f i) (hn : xs.length ≤ 1000)
    (CG : ∀ (a b : Int) (w : World), 0 ≤ a → 0 ≤ b → Calls Tryz.prog 79 #[.int .i64 r.W, .int .u64 a, .int .u64 b] w fun e w' => e = .returned (.int .i64 (D (a - b))) ∧ w = w') :
    Calls Tryz.prog 62 #[.pointer (some ⟨b, 0, none⟩), v] w fun e w' => e = .returned (.int .u64 (leastP D (fun i => f (xs.getD i 0).toNat) xs.length)) ∧ Ext w w' := by
  obtain ⟨va, vc, ev, hf⟩ := hv.form
  subst ev
  have HF := Lib.hid hf
  have HX := Lib.hid hx
  have HN := Lib.hid (fun k => leastP_nn D (fun i => f (xs.getD i 0).toNat) (fun i => hf0 _) k)
  have H0 := Lib.hid (leastP_0 D (fun i => f (xs.getD i 0).toNat))
  have HL := Lib.hid (leastP_lt D (fun i => f (xs.getD i 0).toNat))
  have HE := Lib.hid (leastP_ge D (fun i => f (xs.getD i 0).toNat))
  have HF0 := Lib.hid hf0
  have HCG := Lib.hid CG
  have HVA := Lib.hid h.va
  have q1 := h.q1
  have q7 := h.q7
  clear h hv hf hx hf0 CG
  generalize hP : leastP D (fun i => f (xs.getD i 0).toNat) = P at *
  go_enter Tryz.func62, Tryz.ntmps62
  go_wp2
  go_loopw [5, 6] (fun m i wr => ∃ k : Nat, k ≤ xs.length ∧ i = .int .i64 k ∧ m = .int .u64 (P k) ∧ Ext w wr) (fun _ i _ => xs.length - (intOf i).toNat)
  case atStart => exact ⟨0, Nat.zero_le _, rfl, by rw [← hP]; rfl, Ext.refl _⟩
  case round =>
    obtain ⟨k, hk, rfl, rfl, hx⟩ := hrel
    by_cases hlt : k < xs.length
    case neg =>
      obtain rfl : k = xs.length := by omega
      go_wp2
      go_ret
      exact ⟨rfl, hx⟩
    have hlt' : (k : Int) < (xs.length : Int) := by omega
    obtain ⟨vb, off, ea, c0⟩ := HF.out k hlt
    subst ea
    obtain ⟨c, ec, hc⟩ := HX.out k hlt
    have c1 : w.cell? ⟨r.gh, c, none⟩ = some (.int .u64 (f c)) := HVA.out.c c hc
    have hg : f (xs.getD k 0).toNat = f c := by rw [ec]; rfl
    have l1 := HL.out k
    have e1 := HE.out k
    have n1 := HN.out k
    have f1 := HF0.out c
    have hc' : (c : Int) < (r.m : Int) := by omega
    have hc0 : (0 : Int) ≤ (c : Int) := by omega
    have h01 := H0.out
    have hk0 : k = 0 → P (k + 1) = f c := by rintro rfl; rw [h01]; exact hg
    rw [hg] at l1 e1
    rw [ec] at c0
    clear hg h01 ec
    have HK0 := Lib.hid hk0
    have L1 := Lib.hid l1
    have E1 := Lib.hid e1
    clear hk0 l1 e1
    generalize f c = z at *
    clear HF HX HN H0 HL HE HF0 HVA
    have q1' := hx.cell q1
    have HX := Lib.hid hx
    have F7 := fun w' (hz : Ext wr w') => hz.cell (HX.out.cell q7)
    have G0 := fun w' (hz : Ext wr w') => hz.cell (HX.out.cell c0)
    have G1 := fun w' (hz : Ext wr w') => hz.cell (HX.out.cell c1)
    clear hx q1 q7 c0 c1
    go_upto_region 5 with (fail)
    refine wp_region_held_drew (S := fun w' => Ext wr w') (by kernel_rfl) ?hbeg (fun hHeld => ?_)
    case hbeg => exact (Ext.refl wr).drew
    have hHeld0 : Ext wr wr := by first | exact Ext.refl _ | assumption
    first
      | (refine take_at (i := 0) (v := ?_) rfl rfl (by kernel_rfl) (by kernel_rfl) (by kernel_rfl) (fun _ _ _ h => h) (Or.inl ⟨by rfl, ?hy⟩) (by assumption) ?_
         case hy => (intro wz hSw; (try dsimp only at hSw); go_simp <;> with_reducible rfl)
         simp only [List.setIfInBounds_toArray, List.set_cons_zero, List.set_cons_succ])
      | (refine take_at (i := 0) (v := undef) rfl rfl (by kernel_rfl) (by kernel_rfl) (by kernel_rfl) (fun _ _ _ h => h) (Or.inr ⟨by rfl, rfl⟩) (by assumption) ?_
         simp only [List.setIfInBounds_toArray, List.set_cons_zero, List.set_cons_succ])
    first
      | (refine take_at (i := 1) (v := ?_) rfl rfl (by kernel_rfl) (by kernel_rfl) (by kernel_rfl) (fun _ _ _ h => h) (Or.inl ⟨by rfl, ?hy⟩) (by assumption) ?_
         case hy => (intro wz hSw; (try dsimp only at hSw); go_simp <;> with_reducible rfl)
         simp only [List.setIfInBounds_toArray, List.set_cons_zero, List.set_cons_succ])
      | (refine take_at (i := 1) (v := undef) rfl rfl (by kernel_rfl) (by kernel_rfl) (by kernel_rfl) (fun _ _ _ h => h) (Or.inr ⟨by rfl, rfl⟩) (by assumption) ?_
         simp only [List.setIfInBounds_toArray, List.set_cons_zero, List.set_cons_succ])
    first
      | (refine take_at (i := 2) (v := ?_) rfl rfl (by kernel_rfl) (by kernel_rfl) (by kernel_rfl) (fun _ _ _ h => h) (Or.inl ⟨by rfl, ?hy⟩) (by assumption) ?_
         case hy => (intro wz hSw; (try dsimp only at hSw); go_simp <;> with_reducible rfl)
         simp only [List.setIfInBounds_toArray, List.set_cons_zero, List.set_cons_succ])
      | (refine take_at (i := 2) (v := undef) rfl rfl (by kernel_rfl) (by kernel_rfl) (by kernel_rfl) (fun _ _ _ h => h) (Or.inr ⟨by rfl, rfl⟩) (by assumption) ?_
         simp only [List.setIfInBounds_toArray, List.set_cons_zero, List.set_cons_succ])
    first
      | (refine take_at (i := 3) (v := ?_) rfl rfl (by kernel_rfl) (by kernel_rfl) (by kernel_rfl) (fun _ _ _ h => h) (Or.inl ⟨by rfl, ?hy⟩) (by assumption) ?_
         case hy => (intro wz hSw; (try dsimp only at hSw); go_simp <;> with_reducible rfl)
         simp only [List.setIfInBounds_toArray, List.set_cons_zero, List.set_cons_succ])
      | (refine take_at (i := 3) (v := undef) rfl rfl (by kernel_rfl) (by kernel_rfl) (by kernel_rfl) (fun _ _ _ h => h) (Or.inr ⟨by rfl, rfl⟩) (by assumption) ?_
         simp only [List.setIfInBounds_toArray, List.set_cons_zero, List.set_cons_succ])
    first
      | (refine take_at (i := 4) (v := ?_) rfl rfl (by kernel_rfl) (by kernel_rfl) (by kernel_rfl) (fun _ _ _ h => h) (Or.inl ⟨by rfl, ?hy⟩) (by assumption) ?_
         case hy => (intro wz hSw; (try dsimp only at hSw); go_simp <;> with_reducible rfl)
         simp only [List.setIfInBounds_toArray, List.set_cons_zero, List.set_cons_succ])
      | (refine take_at (i := 4) (v := undef) rfl rfl (by kernel_rfl) (by kernel_rfl) (by kernel_rfl) (fun _ _ _ h => h) (Or.inr ⟨by rfl, rfl⟩) (by assumption) ?_
         simp only [List.setIfInBounds_toArray, List.set_cons_zero, List.set_cons_succ])
    first
      | (refine take_at (i := 5) (v := ?_) rfl rfl (by kernel_rfl) (by kernel_rfl) (by kernel_rfl) (fun _ _ _ h => h) (Or.inl ⟨by rfl, ?hy⟩) (by assumption) ?_
         case hy => (intro wz hSw; (try dsimp only at hSw); go_simp <;> with_reducible rfl)
         simp only [List.setIfInBounds_toArray, List.set_cons_zero, List.set_cons_succ])
      | (refine take_at (i := 5) (v := undef) rfl rfl (by kernel_rfl) (by kernel_rfl) (by kernel_rfl) (fun _ _ _ h => h) (Or.inr ⟨by rfl, rfl⟩) (by assumption) ?_
         simp only [List.setIfInBounds_toArray, List.set_cons_zero, List.set_cons_succ])
    first
      | (refine take_at (i := 6) (v := ?_) rfl rfl (by kernel_rfl) (by kernel_rfl) (by kernel_rfl) (fun _ _ _ h => h) (Or.inl ⟨by rfl, ?hy⟩) (by assumption) ?_
         case hy => (intro wz hSw; (try dsimp only at hSw); go_simp <;> with_reducible rfl)
         simp only [List.setIfInBounds_toArray, List.set_cons_zero, List.set_cons_succ])
      | (refine take_at (i := 6) (v := undef) rfl rfl (by kernel_rfl) (by kernel_rfl) (by kernel_rfl) (fun _ _ _ h => h) (Or.inr ⟨by rfl, rfl⟩) (by assumption) ?_
         simp only [List.setIfInBounds_toArray, List.set_cons_zero, List.set_cons_succ])
    first
      | (refine take_at (i := 7) (v := ?_) rfl rfl (by kernel_rfl) (by kernel_rfl) (by kernel_rfl) (fun _ _ _ h => h) (Or.inl ⟨by rfl, ?hy⟩) (by assumption) ?_
         case hy => (intro wz hSw; (try dsimp only at hSw); go_simp <;> with_reducible rfl)
         simp only [List.setIfInBounds_toArray, List.set_cons_zero, List.set_cons_succ])
      | (refine take_at (i := 7) (v := undef) rfl rfl (by kernel_rfl) (by kernel_rfl) (by kernel_rfl) (fun _ _ _ h => h) (Or.inr ⟨by rfl, rfl⟩) (by assumption) ?_
         simp only [List.setIfInBounds_toArray, List.set_cons_zero, List.set_cons_succ])
    first
      | (refine take_at (i := 8) (v := ?_) rfl rfl (by kernel_rfl) (by kernel_rfl) (by kernel_rfl) (fun _ _ _ h => h) (Or.inl ⟨by rfl, ?hy⟩) (by assumption) ?_
         case hy => (intro wz hSw; (try dsimp only at hSw); go_simp <;> with_reducible rfl)
         simp only [List.setIfInBounds_toArray, List.set_cons_zero, List.set_cons_succ])
      | (refine take_at (i := 8) (v := undef) rfl rfl (by kernel_rfl) (by kernel_rfl) (by kernel_rfl) (fun _ _ _ h => h) (Or.inr ⟨by rfl, rfl⟩) (by assumption) ?_
         simp only [List.setIfInBounds_toArray, List.set_cons_zero, List.set_cons_succ])
    first
      | (refine take_at (i := 9) (v := ?_) rfl rfl (by kernel_rfl) (by kernel_rfl) (by kernel_rfl) (fun _ _ _ h => h) (Or.inl ⟨by rfl, ?hy⟩) (by assumption) ?_
         case hy => (intro wz hSw; (try dsimp only at hSw); go_simp <;> with_reducible rfl)
         simp only [List.setIfInBounds_toArray, List.set_cons_zero, List.set_cons_succ])
      | (refine take_at (i := 9) (v := undef) rfl rfl (by kernel_rfl) (by kernel_rfl) (by kernel_rfl) (fun _ _ _ h => h) (Or.inr ⟨by rfl, rfl⟩) (by assumption) ?_
         simp only [List.setIfInBounds_toArray, List.set_cons_zero, List.set_cons_succ])
    first
      | (refine take_at (i := 10) (v := ?_) rfl rfl (by kernel_rfl) (by kernel_rfl) (by kernel_rfl) (fun _ _ _ h => h) (Or.inl ⟨by rfl, ?hy⟩) (by assumption) ?_
         case hy => (intro wz hSw; (try dsimp only at hSw); go_simp <;> with_reducible rfl)
         simp only [List.setIfInBounds_toArray, List.set_cons_zero, List.set_cons_succ])
      | (refine take_at (i := 10) (v := undef) rfl rfl (by kernel_rfl) (by kernel_rfl) (by kernel_rfl) (fun _ _ _ h => h) (Or.inr ⟨by rfl, rfl⟩) (by assumption) ?_
         simp only [List.setIfInBounds_toArray, List.set_cons_zero, List.set_cons_succ])
    refine wpAnyH_done (by kernel_rfl) ?_ _
    clear F7 G0 G1
    have r1 := Ext.drew (Ext.refl wr) |>.cell q1'
    have HXD : Hid (Ext w wr.drew) := Lib.hid (Ext.drew HX.out)
    clear q1' HX
    by_cases h0 : k = 0
    · have d0 : ((k : Int) == 0) = true := by simp [h0]
      have HP := Lib.hid (HK0.out h0)
      clear h0
      go_wp2
      exact ⟨⟨k + 1, by omega, by go_num, by rw [HP.out], HXD.out⟩, by simp [intOf]; omega⟩
    have d0 : ((k : Int) == 0) = false := by simp; omega
    have C := Lib.hid (HCG.out z (P k) wr.drew f1 n1)
    generalize hM : P k = M at *
    go_wp2_with fail
    refine C.out.mono ?_
    rintro e w' ⟨rfl, rfl⟩
    by_cases hd : D (z - M) < 0
    · have HP := Lib.hid (L1.out hd)
      go_wp2
      exact ⟨⟨k + 1, by omega, by go_num, by rw [HP.out], HXD.out⟩, by simp [intOf]; omega⟩
    · have HP := Lib.hid (E1.out h0 (by omega))
      go_wp2
      exact ⟨⟨k + 1, by omega, by go_num, by rw [HP.out], HXD.out⟩, by simp [intOf]; omega⟩
/-- the document's least of some cells, at a width -/
theorem rGtLeast_32 (b : Nat) (r : RY) (f : Nat → Int) (lv : Value) (log : List Acc) (v : Value) (xs : List Int) (w : World) (h : RB w b r f lv log) (hv : IntsV w v xs) (hx : ∀ i, i < xs.length → ∃ c : Nat, xs.getD i 0 = c ∧ c < r.m) (hf0 : ∀ i, 0 ≤ f i) (hn : xs.length ≤ 1000) (hW : r.W = 32) :
    Calls Tryz.prog 62 #[.pointer (some ⟨b, 0, none⟩), v] w fun e w' => e = .returned (.int .u64 (leastP D32 (fun i => f (xs.getD i 0).toNat) xs.length)) ∧ Ext w w' :=
  rGtLeast0 D32 b r f lv log v xs w h hv hx hf0 hn (fun a b w h0 h1 => by
    rw [hW]
    first | exact rGap_32 a b w h0 h1 | exact rGap_32 a b w)
/-- the document's least of some cells, at a width -/
theorem rGtLeast_64 (b : Nat) (r : RY) (f : Nat → Int) (lv : Value) (log : List Acc) (v : Value) (xs : List Int) (w : World) (h : RB w b r f lv log) (hv : IntsV w v xs) (hx : ∀ i, i < xs.length → ∃ c : Nat, xs.getD i 0 = c ∧ c < r.m) (hf0 : ∀ i, 0 ≤ f i) (hn : xs.length ≤ 1000) (hW : r.W = 64) :
    Calls Tryz.prog 62 #[.pointer (some ⟨b, 0, none⟩), v] w fun e w' => e = .returned (.int .u64 (leastP D64 (fun i => f (xs.getD i 0).toNat) xs.length)) ∧ Ext w w' :=
  rGtLeast0 D64 b r f lv log v xs w h hv hx hf0 hn (fun a b w h0 h1 => by
    rw [hW]
    first | exact rGap_64 a b w h0 h1 | exact rGap_64 a b w)
end Go.Proofs.YtkmfamidahlgiaaGreatDoor
/- wide.Least: the one behind which there is none. -/
namespace Go.Proofs.YtkmfamidahlgiaaGreatDoor
open Go.RowKit
set_option linter.unusedVariables false
set_option maxHeartbeats 400000
def least32 (f : Int) (xs : List Int) : Int := xs.foldl (fun m x => if D32 (x - m) < 0 then x else m) f
def least64 (f : Int) (xs : List Int) : Int := xs.foldl (fun m x => if D64 (x - m) < 0 then x else m) f
theorem least32_snoc (f : Int) (xs : List Int) (k : Nat) (h : k < xs.length) : least32 f (xs.take (k + 1)) = if D32 (xs.getD k 0 - least32 f (xs.take k)) < 0 then xs.getD k 0 else least32 f (xs.take k) := by
  unfold least32
  rw [List.take_succ_eq_append_getElem h, List.foldl_append]
  simp [h]
theorem least64_snoc (f : Int) (xs : List Int) (k : Nat) (h : k < xs.length) : least64 f (xs.take (k + 1)) = if D64 (xs.getD k 0 - least64 f (xs.take k)) < 0 then xs.getD k 0 else least64 f (xs.take k) := by
  unfold least64
  rw [List.take_succ_eq_append_getElem h, List.foldl_append]
  simp [h]
theorem leastU32 (f : Int) (v : Value) (xs : List Int) (w : World) (h : IntsAt .u32 w v xs) (hl : xs.length ≤ 1000000) :
    Calls Tryz.prog 74 #[.int .u32 f, v] w fun e w' => e = .returned (.int .u32 (least32 f xs)) ∧ w = w' := by
  rcases h with ⟨rfl, rfl⟩ | ⟨b, off, cap, rfl, hc⟩
  · go_enter Tryz.func74, Tryz.ntmps74
    go_wp2
    refine wp_loop_rounds 1 ?_
    rw [rounds_succ]
    go_wp2
    go_ret
    exact ⟨rfl, rfl⟩
  · have HC := Lib.hid hc
    clear hc
    obtain ⟨n, hn⟩ : ∃ n, n = xs.length := ⟨_, rfl⟩
    rw [← hn]
    have HN := Lib.hid hn
    have hl2 : n ≤ 1000000 := by omega
    clear hn hl
    go_enter Tryz.func74, Tryz.ntmps74
    go_wp2
    go_loop [5, 11] (fun m i => ∃ k : Nat, k ≤ n ∧ i = .int .i64 k ∧ m = .int .u32 (least32 f (xs.take k))) (fun _ i => n - (intOf i).toNat)
    case atStart => exact ⟨0, Nat.zero_le _, rfl, rfl⟩
    case round =>
      obtain ⟨k, hk, rfl, rfl⟩ := hrel
      by_cases hlt : k < n
      · have hx : k < xs.length := by have := HN.out; omega
        have hcell := HC.out k hx
        have HS := Lib.hid (least32_snoc f xs k hx)
        clear hx
        have hkn : (k : Int) < (n : Int) := by omega
        generalize xs.getD k 0 = x at *
        generalize least32 f (xs.take k) = m at *
        go_wp2_with fail
        refine (lessU32 _ _ _).mono ?_
        rintro e w' ⟨rfl, rfl⟩
        by_cases hd : D32 (x - m) < 0
        · have d1 : decide (D32 (x - m) < 0) = true := by simpa using hd
          go_wp2
          exact ⟨⟨k + 1, by omega, by go_num, by rw [HS.out, if_pos hd]⟩, by simp [intOf]; omega⟩
        · have d1 : decide (D32 (x - m) < 0) = false := by simpa using hd
          go_wp2
          exact ⟨⟨k + 1, by omega, by go_num, by rw [HS.out, if_neg (by omega)]⟩, by simp [intOf]; omega⟩
      · have e : xs.take k = xs := List.take_of_length_le (by have := HN.out; omega)
        have HE := Lib.hid e
        clear e
        go_wp2
        go_ret
        exact ⟨ret_int (by rw [HE.out]), rfl⟩
theorem leastU64 (f : Int) (v : Value) (xs : List Int) (w : World) (h : IntsAt .u64 w v xs) (hl : xs.length ≤ 1000000) :
    Calls Tryz.prog 118 #[.int .u64 f, v] w fun e w' => e = .returned (.int .u64 (least64 f xs)) ∧ w = w' := by
  rcases h with ⟨rfl, rfl⟩ | ⟨b, off, cap, rfl, hc⟩
  · go_enter Tryz.func118, Tryz.ntmps118
    go_wp2
    refine wp_loop_rounds 1 ?_
    rw [rounds_succ]
    go_wp2
    go_ret
    exact ⟨rfl, rfl⟩
  · have HC := Lib.hid hc
    clear hc
    obtain ⟨n, hn⟩ : ∃ n, n = xs.length := ⟨_, rfl⟩
    rw [← hn]
    have HN := Lib.hid hn
    have hl2 : n ≤ 1000000 := by omega
    clear hn hl
    go_enter Tryz.func118, Tryz.ntmps118
    go_wp2
    go_loop [5, 11] (fun m i => ∃ k : Nat, k ≤ n ∧ i = .int .i64 k ∧ m = .int .u64 (least64 f (xs.take k))) (fun _ i => n - (intOf i).toNat)
    case atStart => exact ⟨0, Nat.zero_le _, rfl, rfl⟩
    case round =>
      obtain ⟨k, hk, rfl, rfl⟩ := hrel
      by_cases hlt : k < n
      · have hx : k < xs.length := by have := HN.out; omega
        have hcell := HC.out k hx
        have HS := Lib.hid (least64_snoc f xs k hx)
        clear hx
        have hkn : (k : Int) < (n : Int) := by omega
        generalize xs.getD k 0 = x at *
        generalize least64 f (xs.take k) = m at *
        go_wp2_with fail
        refine (lessU64 _ _ _).mono ?_
        rintro e w' ⟨rfl, rfl⟩
        by_cases hd : D64 (x - m) < 0
        · have d1 : decide (D64 (x - m) < 0) = true := by simpa using hd
          go_wp2
          exact ⟨⟨k + 1, by omega, by go_num, by rw [HS.out, if_pos hd]⟩, by simp [intOf]; omega⟩
        · have d1 : decide (D64 (x - m) < 0) = false := by simpa using hd
          go_wp2
          exact ⟨⟨k + 1, by omega, by go_num, by rw [HS.out, if_neg (by omega)]⟩, by simp [intOf]; omega⟩
      · have e : xs.take k = xs := List.take_of_length_le (by have := HN.out; omega)
        have HE := Lib.hid e
        clear e
        go_wp2
        go_ret
        exact ⟨ret_int (by rw [HE.out]), rfl⟩
end Go.Proofs.YtkmfamidahlgiaaGreatDoor
/- gate.Least on a board: the least of some cells that are gates. -/
namespace Go.Proofs.YtkmfamidahlgiaaGreatDoor
open Go.RowKit
set_option linter.unusedVariables false
set_option linter.unusedSimpArgs false
set_option maxHeartbeats 4000000
attribute [local go_sem] later_cell later_frozen later_const
def sv1 (r n : Nat) : Value := if n = 1 then .slice (some ⟨r, 0, none⟩) 0 0 else .slice (some ⟨r, 1, none⟩) (n - 1) (n - 1)
theorem info_gu32 : (Tryz.prog.info? 41).map (fun i => (i.zero, i.size, i.bytes)) = some (some (.int .u32 0), 1, 32 / 8) := by kernel_rfl
/-- the values found, the first k of them -/
def gvl32 (q : Nat → Int) (k i : Nat) : Value := .int .u32 (if i < k then q i else 0)
theorem gvl32_step {n k r : Nat} {q : Nat → Int} {w : World} (h : VA n w r (gvl32 q k)) (hk : k < n) : VA n (w.setCell ⟨r, k, none⟩ (.int .u32 (q k))) r (gvl32 q (k + 1)) := by
  refine (va_set h _ hk).congr fun u hu => ?_
  unfold gvl32
  by_cases e : u = k
  · subst e; simp
  · rw [if_neg e]
    by_cases e2 : u < k
    · rw [if_pos e2, if_pos (by omega)]
    · rw [if_neg e2, if_neg (by omega)]
set_option maxRecDepth 100000 in
theorem gtLeast32 (b g : Nat) (y : LY) (f : Nat → Int) (lv : Value) (log : List Acc) (ups : List (List Int)) (v : Value) (xs : List Int) (q : Nat → Nat) (w : World) (hB : BD w 121 b g y f lv log) (K : BK y ups) (hL : ListsV w (.slice y.a y.n y.cap) ups) (E : Parts w)
    (hv : IntsV w v xs) (h1 : 0 < xs.length) (hl : xs.length ≤ 1000) (hx : ∀ i, i < xs.length → xs.getD i 0 = (q i : Nat) ∧ kd y (q i : Nat) = 1) (hf : ∀ c, 0 ≤ f c ∧ f c < 4294967296) :
    Calls Tryz.prog 23 #[.pointer (some ⟨b, 0, none⟩), v] w fun e w' => e = .returned (.int .u32 (least32 (f (q 0)) ((List.range (xs.length - 1)).map (fun i => f (q (i + 1)))))) ∧ Ext w w' := by
  have HLY := Lib.hid (Layout32 b g y f lv log ups w hB hL K.ll (by have := K.num.n6; have := K.n; omega) K.ck K.lay)
  have HY := Lib.hid K.yok
  have hn := K.n
  have HE := Lib.hid (fun w' (hx : Ext w w') => E.ext hx)
  have HBD := Lib.hid (fun w' (hx : Ext w w') => hB.ext hx)
  have HQ := Lib.hid hx
  have HFR := Lib.hid hf
  obtain ⟨va, vc, ev, hf2⟩ := hv.form
  subst ev
  have HF := Lib.hid hf2

  have HN := Lib.hid hn
  have HLE : Hid (∀ w' r, VA xs.length w' r (gvl32 (fun i => f (q i)) xs.length) → IntsAt .u32 w' (sv1 r xs.length) ((List.range (xs.length - 1)).map (fun i => f (q (i + 1))))) := Lib.hid (fun w' r h => by
    unfold sv1
    by_cases hn1 : xs.length = 1
    · rw [if_pos hn1, hn1]
      exact .inr ⟨r, 0, 0, by simp, fun j hj => absurd hj (by simp)⟩
    · rw [if_neg hn1]
      refine .inr ⟨r, 1, xs.length - 1, by simp, fun j hj => ?_⟩
      have hj' : j < xs.length - 1 := by simpa using hj
      have h2 := h.c (1 + j) (by omega)
      rw [h2]
      unfold gvl32
      rw [if_pos (by omega)]
      simp [hj', Nat.add_comm])
  have hLL : ((List.range (xs.length - 1)).map (fun i => f (q (i + 1)))).length ≤ 1000000 := by simp; omega
  generalize (List.range (xs.length - 1)).map (fun i => f (q (i + 1))) = rest at *
  generalize xs.length = n at *
  clear hB K hL E hv hf2 hx hn hf
  have h1I : (0 : Int) < (n : Int) := by omega
  have hn0 : ((n : Int) == 0) = false := by simp; omega
  go_enter Tryz.func23, Tryz.ntmps23
  go_wp2_with fail
  refine HLY.out.mono ?_
  rintro e w1 ⟨u, rfl, hU, X1⟩
  obtain ⟨ua, ucap, hu, -⟩ := hU
  subst hu
  rw [← HN.out]
  have HX1 := Lib.hid X1
  clear X1 HLY
  go_upto_region 4 with (fail)
  refine settle_wp ?_
  intro w2 hb2
  have ql_0 : w2.cell? ⟨w1.heap.size, 0, none⟩ = some (.int .i64 y.V) := hb2.cell (by simp [go_sem])
  have ql_1 : w2.cell? ⟨w1.heap.size, 1, none⟩ = some (.int .i64 y.W) := hb2.cell (by simp [go_sem])
  have ql_2 : w2.cell? ⟨w1.heap.size, 2, none⟩ = some (.int .i64 y.C) := hb2.cell (by simp [go_sem])
  have ql_3 : w2.cell? ⟨w1.heap.size, 3, none⟩ = some (.int .i64 y.P) := hb2.cell (by simp [go_sem])
  have ql_4 : w2.cell? ⟨w1.heap.size, 4, none⟩ = some (.int .u64 y.S) := hb2.cell (by simp [go_sem])
  have ql_5 : w2.cell? ⟨w1.heap.size, 5, none⟩ = some (.slice ua y.n ucap) := hb2.cell (by simp [go_sem])
  have ql_6 : w2.cell? ⟨w1.heap.size, 6, none⟩ = some (.int .i64 y.Cu) := hb2.cell (by simp [go_sem])
  have ql_7 : w2.cell? ⟨w1.heap.size, 7, none⟩ = some (.int .i64 y.Cl) := hb2.cell (by simp [go_sem])
  have ql_8 : w2.cell? ⟨w1.heap.size, 8, none⟩ = some (.int .i64 y.Ti) := hb2.cell (by simp [go_sem])
  have ql_9 : w2.cell? ⟨w1.heap.size, 9, none⟩ = some (.int .i64 y.Se) := hb2.cell (by simp [go_sem])
  have ql_10 : w2.cell? ⟨w1.heap.size, 10, none⟩ = some (.int .i64 y.Ne) := hb2.cell (by simp [go_sem])
  have ql_11 : w2.cell? ⟨w1.heap.size, 11, none⟩ = some (.int .i64 y.Ma) := hb2.cell (by simp [go_sem])
  have ql_12 : w2.cell? ⟨w1.heap.size, 12, none⟩ = some (.int .i64 y.Sl) := hb2.cell (by simp [go_sem])
  have ql_13 : w2.cell? ⟨w1.heap.size, 13, none⟩ = some (.int .i64 y.m) := hb2.cell (by simp [go_sem])
  have HX2 := Lib.hid (HX1.out.trans (Ext.trans ((Ext.refl w1).alloc _) hb2))
  clear hb2
  generalize w1.heap.size = lb at *
  have hmk := fun W => run_make_row' (P := Tryz.prog) 127 41 (.int .u32 0) (32 / 8) Tryz.underlying127 info_gu32 rfl .i64 .i64 n (by omega) (by omega) W
  have V1 := va_new (n := n) w2 41 (madeCells #[.int .u32 0] n) (fun _ => .int .u32 0) (made_vl _ rfl n)
  have HV1 : Hid (VA n (w2.alloc (.cells (madeCells #[.int .u32 0] n) 41)) w2.heap.size (gvl32 (fun i => f (q i)) 0)) := Lib.hid (V1.congr fun u hu => by unfold gvl32; rw [if_neg (by omega)])
  have HX3 := Lib.hid ((Ext.refl w2).alloc (.cells (madeCells #[.int .u32 0] n) 41))
  obtain ⟨r, hr⟩ : ∃ r, r = w2.heap.size := ⟨_, rfl⟩
  have hrr : w2.heap.size ≤ r := Nat.le_of_eq hr.symm
  rw [← hr] at HV1
  clear V1
  go_upto_region 5 with (fail)
  clear hmk
  rw [← hr]
  clear hr
  generalize w2.alloc (.cells (madeCells #[.int .u32 0] n) 41) = w3 at *
  go_wp2
  go_loopw [23] (fun x wr => ∃ k : Nat, k ≤ n ∧ x = .int .i64 k ∧ VA n wr r (gvl32 (fun i => f (q i)) k) ∧ Ext w2 wr) (fun x _ => n - (intOf x).toNat)
  case atStart => exact ⟨0, Nat.zero_le _, rfl, HV1.out, HX3.out⟩
  case round =>
    obtain ⟨k, hk, rfl, hV, hx⟩ := hrel
    by_cases hlt : k < n
    case neg =>
      have s1 : (1 : Int) ≤ (n : Int) := by omega
      obtain rfl : n = k := by omega
      have c0 := hV.c 0 (by omega)
      unfold gvl32 at c0
      rw [if_pos (by omega)] at c0
      have HC := Lib.hid (fun w' (hz : Ext wr w') => leastU32 (f (q 0)) _ rest w' (HLE.out w' r (hV.ext hz)) hLL)
      have HX := Lib.hid (HX2.out.trans hx)
      clear hV hx
      go_upto_region 11 with (fail)
      have k0 := fun w' (hz : Ext wr w') => hz.cell c0
      refine wp_region_held_drew (S := fun w' => Ext wr w') (by kernel_rfl) ?hbeg (fun hHeld => ?_)
      case hbeg => exact (Ext.refl wr).drew
      have hHeld0 : Ext wr wr := by first | exact Ext.refl _ | assumption
      first
        | (refine take_at (i := 0) (v := ?_) rfl rfl (by kernel_rfl) (by kernel_rfl) (by kernel_rfl) (fun _ _ _ h => h) (Or.inl ⟨by rfl, ?hy⟩) (by assumption) ?_
           case hy => (intro wz hSw; (try dsimp only at hSw); go_simp <;> with_reducible rfl)
           simp only [List.setIfInBounds_toArray, List.set_cons_zero, List.set_cons_succ])
        | (refine take_at (i := 0) (v := undef) rfl rfl (by kernel_rfl) (by kernel_rfl) (by kernel_rfl) (fun _ _ _ h => h) (Or.inr ⟨by rfl, rfl⟩) (by assumption) ?_
           simp only [List.setIfInBounds_toArray, List.set_cons_zero, List.set_cons_succ])
      first
        | (refine take_at (i := 1) (v := ?_) rfl rfl (by kernel_rfl) (by kernel_rfl) (by kernel_rfl) (fun _ _ _ h => h) (Or.inl ⟨by rfl, ?hy⟩) (by assumption) ?_
           case hy => (intro wz hSw; (try dsimp only at hSw); go_simp <;> with_reducible rfl)
           simp only [List.setIfInBounds_toArray, List.set_cons_zero, List.set_cons_succ])
        | (refine take_at (i := 1) (v := undef) rfl rfl (by kernel_rfl) (by kernel_rfl) (by kernel_rfl) (fun _ _ _ h => h) (Or.inr ⟨by rfl, rfl⟩) (by assumption) ?_
           simp only [List.setIfInBounds_toArray, List.set_cons_zero, List.set_cons_succ])
      first
        | (refine take_at (i := 2) (v := ?_) rfl rfl (by kernel_rfl) (by kernel_rfl) (by kernel_rfl) (fun _ _ _ h => h) (Or.inl ⟨by rfl, ?hy⟩) (by assumption) ?_
           case hy => (intro wz hSw; (try dsimp only at hSw); go_simp <;> with_reducible rfl)
           simp only [List.setIfInBounds_toArray, List.set_cons_zero, List.set_cons_succ])
        | (refine take_at (i := 2) (v := undef) rfl rfl (by kernel_rfl) (by kernel_rfl) (by kernel_rfl) (fun _ _ _ h => h) (Or.inr ⟨by rfl, rfl⟩) (by assumption) ?_
           simp only [List.setIfInBounds_toArray, List.set_cons_zero, List.set_cons_succ])
      first
        | (refine take_at (i := 3) (v := ?_) rfl rfl (by kernel_rfl) (by kernel_rfl) (by kernel_rfl) (fun _ _ _ h => h) (Or.inl ⟨by rfl, ?hy⟩) (by assumption) ?_
           case hy => (intro wz hSw; (try dsimp only at hSw); go_simp <;> with_reducible rfl)
           simp only [List.setIfInBounds_toArray, List.set_cons_zero, List.set_cons_succ])
        | (refine take_at (i := 3) (v := undef) rfl rfl (by kernel_rfl) (by kernel_rfl) (by kernel_rfl) (fun _ _ _ h => h) (Or.inr ⟨by rfl, rfl⟩) (by assumption) ?_
           simp only [List.setIfInBounds_toArray, List.set_cons_zero, List.set_cons_succ])
      refine take_at (i := 4) (v := sv1 r n) rfl rfl (by kernel_rfl) (by kernel_rfl) (by kernel_rfl) (fun _ _ _ h => h) (Or.inl ⟨by rfl, ?hy⟩) (by assumption) ?_
      case hy =>
        intro wz hSw
        (try dsimp only at hSw)
        unfold sv1
        by_cases hn1 : n = 1
        · simp only [hn1, if_true]
          go_simp
        · simp only [hn1, if_false]
          go_simp
          try exact hn1
      simp only [List.setIfInBounds_toArray, List.set_cons_zero, List.set_cons_succ]
      refine call_at (i := 5) (F := 74) (HC.out _ (by repeat (first | with_reducible exact Ext.refl _ | with_reducible assumption | with_reducible refine Ext.alloc ?_ _ | with_reducible refine Ext.drew ?_ | with_reducible refine Ext.drewN ?_ _ | with_reducible refine Ext.setCell ?_ (by simp <;> omega) _ | with_reducible refine Ext.trans ?_ (by assumption)))) rfl rfl (by kernel_rfl) (by rfl) (by first | rfl | (go_simp <;> rfl)) ?_
      rintro e w' ⟨rfl, rfl⟩
      refine ⟨_, rfl, by assumption, ?_⟩
      simp only [List.setIfInBounds_toArray, List.set_cons_zero, List.set_cons_succ]
      first
        | (refine take_at (i := 6) (v := ?_) rfl rfl (by kernel_rfl) (by kernel_rfl) (by kernel_rfl) (fun _ _ _ h => h) (Or.inl ⟨by rfl, ?hy⟩) (by assumption) ?_
           case hy => (intro wz hSw; (try dsimp only at hSw); go_simp <;> with_reducible rfl)
           simp only [List.setIfInBounds_toArray, List.set_cons_zero, List.set_cons_succ])
        | (refine take_at (i := 6) (v := undef) rfl rfl (by kernel_rfl) (by kernel_rfl) (by kernel_rfl) (fun _ _ _ h => h) (Or.inr ⟨by rfl, rfl⟩) (by assumption) ?_
           simp only [List.setIfInBounds_toArray, List.set_cons_zero, List.set_cons_succ])
      refine wpAnyH_done (by kernel_rfl) ?_ _
      have HX4 := Lib.hid (HX.out.trans hHeld)
      clear k0 c0
      go_wp2
      first
        | exact ⟨rfl, HX4.out⟩
        | (go_ret; exact ⟨rfl, HX4.out⟩)
    have hkI : (k : Int) < (n : Int) := by omega
    obtain ⟨xb, xo, ea, cx⟩ := HF.out k hlt
    subst ea
    replace cx := (HX2.out.trans hx).cell cx
    obtain ⟨hq1, hq2⟩ := HQ.out k hlt
    rw [hq1] at cx
    have l_0 := hx.cell ql_0
    have l_1 := hx.cell ql_1
    have l_2 := hx.cell ql_2
    have l_3 := hx.cell ql_3
    have l_4 := hx.cell ql_4
    have l_5 := hx.cell ql_5
    have l_6 := hx.cell ql_6
    have l_7 := hx.cell ql_7
    have l_8 := hx.cell ql_8
    have l_9 := hx.cell ql_9
    have l_10 := hx.cell ql_10
    have l_11 := hx.cell ql_11
    have l_12 := hx.cell ql_12
    have l_13 := hx.cell ql_13
    have hk2 : pKind (useL y.V y.n y.Cu y.Cl y.Ti y.Se y.Ne y.Ma y.Sl y.m (q k : Nat)).1.toNat = 1 := hq2
    have HXk := Lib.hid (HX2.out.trans hx)
    have HV := Lib.hid hV
    have HX := Lib.hid hx
    clear hV hx ql_0 ql_1 ql_2 ql_3 ql_4 ql_5 ql_6 ql_7 ql_8 ql_9 ql_10 ql_11 ql_12 ql_13
    go_wp2_with fail
    refine (lKind y.V y.W y.C y.P y.S ua y.n ucap y.Cu y.Cl y.Ti y.Se y.Ne y.Ma y.Sl y.m (q k : Nat) wr HY.out.sl0 HY.out.ma0 HY.out.ma1 (by have := HY.out.m1; omega) (HE.out _ HXk.out)).mono ?_
    rintro e w4 ⟨rfl, X4⟩
    rw [hk2]
    have HX4 := Lib.hid X4
    clear l_0 l_1 l_2 l_3 l_4 l_5 l_6 l_7 l_8 l_9 l_10 l_11 l_12 l_13 X4 cx
    go_wp2_with fail
    refine (Peek32 b g y f lv log (q k) w4 (HBD.out _ (HXk.out.trans HX4.out)) HY.out (HE.out _ (HXk.out.trans HX4.out)) (by rw [hq2]; decide)).mono ?_
    rintro e w5 ⟨rfl, X5⟩
    have V5 := HV.out.ext (HX4.out.trans X5)
    have HX5 := Lib.hid ((HX.out.trans HX4.out).trans X5)
    have HV5 := Lib.hid V5
    have c5 := V5.c k hlt
    have z5 := V5.z k hlt
    unfold gvl32 at c5
    rw [if_neg (by omega)] at c5
    have hfk := HFR.out (q k)
    clear V5 X5
    go_wp2_with fail
    first
      | refine (ofU32 _ _).mono ?_
      | refine (ofU32 _ _ hfk.1 hfk.2).mono ?_
    rintro e w' ⟨rfl, rfl⟩
    try rw [show f (q k) % 4294967296 = f (q k) from Int.emod_eq_of_lt hfk.1 hfk.2]
    try rw [show U64 (f (q k)) = f (q k) from U64_of hfk.1 hfk.2]
    have HS := Lib.hid (gvl32_step (q := fun i => f (q i)) HV5.out hlt)
    have HX6 := Lib.hid (HX5.out.setCell (p := ⟨r, k, none⟩) hrr (.int .u32 (f (q k))))
    go_wp2
    exact ⟨⟨k + 1, by omega, by go_num, HS.out, HX6.out⟩, by simp [intOf]; omega⟩
theorem info_gu64 : (Tryz.prog.info? 22).map (fun i => (i.zero, i.size, i.bytes)) = some (some (.int .u64 0), 1, 64 / 8) := by kernel_rfl
/-- the values found, the first k of them -/
def gvl64 (q : Nat → Int) (k i : Nat) : Value := .int .u64 (if i < k then q i else 0)
theorem gvl64_step {n k r : Nat} {q : Nat → Int} {w : World} (h : VA n w r (gvl64 q k)) (hk : k < n) : VA n (w.setCell ⟨r, k, none⟩ (.int .u64 (q k))) r (gvl64 q (k + 1)) := by
  refine (va_set h _ hk).congr fun u hu => ?_
  unfold gvl64
  by_cases e : u = k
  · subst e; simp
  · rw [if_neg e]
    by_cases e2 : u < k
    · rw [if_pos e2, if_pos (by omega)]
    · rw [if_neg e2, if_neg (by omega)]
set_option maxRecDepth 100000 in
theorem gtLeast64 (b g : Nat) (y : LY) (f : Nat → Int) (lv : Value) (log : List Acc) (ups : List (List Int)) (v : Value) (xs : List Int) (q : Nat → Nat) (w : World) (hB : BD w 152 b g y f lv log) (K : BK y ups) (hL : ListsV w (.slice y.a y.n y.cap) ups) (E : Parts w)
    (hv : IntsV w v xs) (h1 : 0 < xs.length) (hl : xs.length ≤ 1000) (hx : ∀ i, i < xs.length → xs.getD i 0 = (q i : Nat) ∧ kd y (q i : Nat) = 1) (hf : ∀ c, 0 ≤ f c ∧ f c < 18446744073709551616) :
    Calls Tryz.prog 67 #[.pointer (some ⟨b, 0, none⟩), v] w fun e w' => e = .returned (.int .u64 (least64 (f (q 0)) ((List.range (xs.length - 1)).map (fun i => f (q (i + 1)))))) ∧ Ext w w' := by
  have HLY := Lib.hid (Layout64 b g y f lv log ups w hB hL K.ll (by have := K.num.n6; have := K.n; omega) K.ck K.lay)
  have HY := Lib.hid K.yok
  have hn := K.n
  have HE := Lib.hid (fun w' (hx : Ext w w') => E.ext hx)
  have HBD := Lib.hid (fun w' (hx : Ext w w') => hB.ext hx)
  have HQ := Lib.hid hx
  have HFR := Lib.hid hf
  obtain ⟨va, vc, ev, hf2⟩ := hv.form
  subst ev
  have HF := Lib.hid hf2

  have HN := Lib.hid hn
  have HLE : Hid (∀ w' r, VA xs.length w' r (gvl64 (fun i => f (q i)) xs.length) → IntsAt .u64 w' (sv1 r xs.length) ((List.range (xs.length - 1)).map (fun i => f (q (i + 1))))) := Lib.hid (fun w' r h => by
    unfold sv1
    by_cases hn1 : xs.length = 1
    · rw [if_pos hn1, hn1]
      exact .inr ⟨r, 0, 0, by simp, fun j hj => absurd hj (by simp)⟩
    · rw [if_neg hn1]
      refine .inr ⟨r, 1, xs.length - 1, by simp, fun j hj => ?_⟩
      have hj' : j < xs.length - 1 := by simpa using hj
      have h2 := h.c (1 + j) (by omega)
      rw [h2]
      unfold gvl64
      rw [if_pos (by omega)]
      simp [hj', Nat.add_comm])
  have hLL : ((List.range (xs.length - 1)).map (fun i => f (q (i + 1)))).length ≤ 1000000 := by simp; omega
  generalize (List.range (xs.length - 1)).map (fun i => f (q (i + 1))) = rest at *
  generalize xs.length = n at *
  clear hB K hL E hv hf2 hx hn hf
  have h1I : (0 : Int) < (n : Int) := by omega
  have hn0 : ((n : Int) == 0) = false := by simp; omega
  go_enter Tryz.func67, Tryz.ntmps67
  go_wp2_with fail
  refine HLY.out.mono ?_
  rintro e w1 ⟨u, rfl, hU, X1⟩
  obtain ⟨ua, ucap, hu, -⟩ := hU
  subst hu
  rw [← HN.out]
  have HX1 := Lib.hid X1
  clear X1 HLY
  go_upto_region 4 with (fail)
  refine settle_wp ?_
  intro w2 hb2
  have ql_0 : w2.cell? ⟨w1.heap.size, 0, none⟩ = some (.int .i64 y.V) := hb2.cell (by simp [go_sem])
  have ql_1 : w2.cell? ⟨w1.heap.size, 1, none⟩ = some (.int .i64 y.W) := hb2.cell (by simp [go_sem])
  have ql_2 : w2.cell? ⟨w1.heap.size, 2, none⟩ = some (.int .i64 y.C) := hb2.cell (by simp [go_sem])
  have ql_3 : w2.cell? ⟨w1.heap.size, 3, none⟩ = some (.int .i64 y.P) := hb2.cell (by simp [go_sem])
  have ql_4 : w2.cell? ⟨w1.heap.size, 4, none⟩ = some (.int .u64 y.S) := hb2.cell (by simp [go_sem])
  have ql_5 : w2.cell? ⟨w1.heap.size, 5, none⟩ = some (.slice ua y.n ucap) := hb2.cell (by simp [go_sem])
  have ql_6 : w2.cell? ⟨w1.heap.size, 6, none⟩ = some (.int .i64 y.Cu) := hb2.cell (by simp [go_sem])
  have ql_7 : w2.cell? ⟨w1.heap.size, 7, none⟩ = some (.int .i64 y.Cl) := hb2.cell (by simp [go_sem])
  have ql_8 : w2.cell? ⟨w1.heap.size, 8, none⟩ = some (.int .i64 y.Ti) := hb2.cell (by simp [go_sem])
  have ql_9 : w2.cell? ⟨w1.heap.size, 9, none⟩ = some (.int .i64 y.Se) := hb2.cell (by simp [go_sem])
  have ql_10 : w2.cell? ⟨w1.heap.size, 10, none⟩ = some (.int .i64 y.Ne) := hb2.cell (by simp [go_sem])
  have ql_11 : w2.cell? ⟨w1.heap.size, 11, none⟩ = some (.int .i64 y.Ma) := hb2.cell (by simp [go_sem])
  have ql_12 : w2.cell? ⟨w1.heap.size, 12, none⟩ = some (.int .i64 y.Sl) := hb2.cell (by simp [go_sem])
  have ql_13 : w2.cell? ⟨w1.heap.size, 13, none⟩ = some (.int .i64 y.m) := hb2.cell (by simp [go_sem])
  have HX2 := Lib.hid (HX1.out.trans (Ext.trans ((Ext.refl w1).alloc _) hb2))
  clear hb2
  generalize w1.heap.size = lb at *
  have hmk := fun W => run_make_row' (P := Tryz.prog) 52 22 (.int .u64 0) (64 / 8) Tryz.underlying52 info_gu64 rfl .i64 .i64 n (by omega) (by omega) W
  have V1 := va_new (n := n) w2 22 (madeCells #[.int .u64 0] n) (fun _ => .int .u64 0) (made_vl _ rfl n)
  have HV1 : Hid (VA n (w2.alloc (.cells (madeCells #[.int .u64 0] n) 22)) w2.heap.size (gvl64 (fun i => f (q i)) 0)) := Lib.hid (V1.congr fun u hu => by unfold gvl64; rw [if_neg (by omega)])
  have HX3 := Lib.hid ((Ext.refl w2).alloc (.cells (madeCells #[.int .u64 0] n) 22))
  obtain ⟨r, hr⟩ : ∃ r, r = w2.heap.size := ⟨_, rfl⟩
  have hrr : w2.heap.size ≤ r := Nat.le_of_eq hr.symm
  rw [← hr] at HV1
  clear V1
  go_upto_region 5 with (fail)
  clear hmk
  rw [← hr]
  clear hr
  generalize w2.alloc (.cells (madeCells #[.int .u64 0] n) 22) = w3 at *
  go_wp2
  go_loopw [23] (fun x wr => ∃ k : Nat, k ≤ n ∧ x = .int .i64 k ∧ VA n wr r (gvl64 (fun i => f (q i)) k) ∧ Ext w2 wr) (fun x _ => n - (intOf x).toNat)
  case atStart => exact ⟨0, Nat.zero_le _, rfl, HV1.out, HX3.out⟩
  case round =>
    obtain ⟨k, hk, rfl, hV, hx⟩ := hrel
    by_cases hlt : k < n
    case neg =>
      have s1 : (1 : Int) ≤ (n : Int) := by omega
      obtain rfl : n = k := by omega
      have c0 := hV.c 0 (by omega)
      unfold gvl64 at c0
      rw [if_pos (by omega)] at c0
      have HC := Lib.hid (fun w' (hz : Ext wr w') => leastU64 (f (q 0)) _ rest w' (HLE.out w' r (hV.ext hz)) hLL)
      have HX := Lib.hid (HX2.out.trans hx)
      clear hV hx
      go_upto_region 11 with (fail)
      have k0 := fun w' (hz : Ext wr w') => hz.cell c0
      refine wp_region_held_drew (S := fun w' => Ext wr w') (by kernel_rfl) ?hbeg (fun hHeld => ?_)
      case hbeg => exact (Ext.refl wr).drew
      have hHeld0 : Ext wr wr := by first | exact Ext.refl _ | assumption
      first
        | (refine take_at (i := 0) (v := ?_) rfl rfl (by kernel_rfl) (by kernel_rfl) (by kernel_rfl) (fun _ _ _ h => h) (Or.inl ⟨by rfl, ?hy⟩) (by assumption) ?_
           case hy => (intro wz hSw; (try dsimp only at hSw); go_simp <;> with_reducible rfl)
           simp only [List.setIfInBounds_toArray, List.set_cons_zero, List.set_cons_succ])
        | (refine take_at (i := 0) (v := undef) rfl rfl (by kernel_rfl) (by kernel_rfl) (by kernel_rfl) (fun _ _ _ h => h) (Or.inr ⟨by rfl, rfl⟩) (by assumption) ?_
           simp only [List.setIfInBounds_toArray, List.set_cons_zero, List.set_cons_succ])
      first
        | (refine take_at (i := 1) (v := ?_) rfl rfl (by kernel_rfl) (by kernel_rfl) (by kernel_rfl) (fun _ _ _ h => h) (Or.inl ⟨by rfl, ?hy⟩) (by assumption) ?_
           case hy => (intro wz hSw; (try dsimp only at hSw); go_simp <;> with_reducible rfl)
           simp only [List.setIfInBounds_toArray, List.set_cons_zero, List.set_cons_succ])
        | (refine take_at (i := 1) (v := undef) rfl rfl (by kernel_rfl) (by kernel_rfl) (by kernel_rfl) (fun _ _ _ h => h) (Or.inr ⟨by rfl, rfl⟩) (by assumption) ?_
           simp only [List.setIfInBounds_toArray, List.set_cons_zero, List.set_cons_succ])
      first
        | (refine take_at (i := 2) (v := ?_) rfl rfl (by kernel_rfl) (by kernel_rfl) (by kernel_rfl) (fun _ _ _ h => h) (Or.inl ⟨by rfl, ?hy⟩) (by assumption) ?_
           case hy => (intro wz hSw; (try dsimp only at hSw); go_simp <;> with_reducible rfl)
           simp only [List.setIfInBounds_toArray, List.set_cons_zero, List.set_cons_succ])
        | (refine take_at (i := 2) (v := undef) rfl rfl (by kernel_rfl) (by kernel_rfl) (by kernel_rfl) (fun _ _ _ h => h) (Or.inr ⟨by rfl, rfl⟩) (by assumption) ?_
           simp only [List.setIfInBounds_toArray, List.set_cons_zero, List.set_cons_succ])
      first
        | (refine take_at (i := 3) (v := ?_) rfl rfl (by kernel_rfl) (by kernel_rfl) (by kernel_rfl) (fun _ _ _ h => h) (Or.inl ⟨by rfl, ?hy⟩) (by assumption) ?_
           case hy => (intro wz hSw; (try dsimp only at hSw); go_simp <;> with_reducible rfl)
           simp only [List.setIfInBounds_toArray, List.set_cons_zero, List.set_cons_succ])
        | (refine take_at (i := 3) (v := undef) rfl rfl (by kernel_rfl) (by kernel_rfl) (by kernel_rfl) (fun _ _ _ h => h) (Or.inr ⟨by rfl, rfl⟩) (by assumption) ?_
           simp only [List.setIfInBounds_toArray, List.set_cons_zero, List.set_cons_succ])
      refine take_at (i := 4) (v := sv1 r n) rfl rfl (by kernel_rfl) (by kernel_rfl) (by kernel_rfl) (fun _ _ _ h => h) (Or.inl ⟨by rfl, ?hy⟩) (by assumption) ?_
      case hy =>
        intro wz hSw
        (try dsimp only at hSw)
        unfold sv1
        by_cases hn1 : n = 1
        · simp only [hn1, if_true]
          go_simp
        · simp only [hn1, if_false]
          go_simp
          try exact hn1
      simp only [List.setIfInBounds_toArray, List.set_cons_zero, List.set_cons_succ]
      refine call_at (i := 5) (F := 118) (HC.out _ (by repeat (first | with_reducible exact Ext.refl _ | with_reducible assumption | with_reducible refine Ext.alloc ?_ _ | with_reducible refine Ext.drew ?_ | with_reducible refine Ext.drewN ?_ _ | with_reducible refine Ext.setCell ?_ (by simp <;> omega) _ | with_reducible refine Ext.trans ?_ (by assumption)))) rfl rfl (by kernel_rfl) (by rfl) (by first | rfl | (go_simp <;> rfl)) ?_
      rintro e w' ⟨rfl, rfl⟩
      refine ⟨_, rfl, by assumption, ?_⟩
      simp only [List.setIfInBounds_toArray, List.set_cons_zero, List.set_cons_succ]
      first
        | (refine take_at (i := 6) (v := ?_) rfl rfl (by kernel_rfl) (by kernel_rfl) (by kernel_rfl) (fun _ _ _ h => h) (Or.inl ⟨by rfl, ?hy⟩) (by assumption) ?_
           case hy => (intro wz hSw; (try dsimp only at hSw); go_simp <;> with_reducible rfl)
           simp only [List.setIfInBounds_toArray, List.set_cons_zero, List.set_cons_succ])
        | (refine take_at (i := 6) (v := undef) rfl rfl (by kernel_rfl) (by kernel_rfl) (by kernel_rfl) (fun _ _ _ h => h) (Or.inr ⟨by rfl, rfl⟩) (by assumption) ?_
           simp only [List.setIfInBounds_toArray, List.set_cons_zero, List.set_cons_succ])
      refine wpAnyH_done (by kernel_rfl) ?_ _
      have HX4 := Lib.hid (HX.out.trans hHeld)
      clear k0 c0
      go_wp2
      first
        | exact ⟨rfl, HX4.out⟩
        | (go_ret; exact ⟨rfl, HX4.out⟩)
    have hkI : (k : Int) < (n : Int) := by omega
    obtain ⟨xb, xo, ea, cx⟩ := HF.out k hlt
    subst ea
    replace cx := (HX2.out.trans hx).cell cx
    obtain ⟨hq1, hq2⟩ := HQ.out k hlt
    rw [hq1] at cx
    have l_0 := hx.cell ql_0
    have l_1 := hx.cell ql_1
    have l_2 := hx.cell ql_2
    have l_3 := hx.cell ql_3
    have l_4 := hx.cell ql_4
    have l_5 := hx.cell ql_5
    have l_6 := hx.cell ql_6
    have l_7 := hx.cell ql_7
    have l_8 := hx.cell ql_8
    have l_9 := hx.cell ql_9
    have l_10 := hx.cell ql_10
    have l_11 := hx.cell ql_11
    have l_12 := hx.cell ql_12
    have l_13 := hx.cell ql_13
    have hk2 : pKind (useL y.V y.n y.Cu y.Cl y.Ti y.Se y.Ne y.Ma y.Sl y.m (q k : Nat)).1.toNat = 1 := hq2
    have HXk := Lib.hid (HX2.out.trans hx)
    have HV := Lib.hid hV
    have HX := Lib.hid hx
    clear hV hx ql_0 ql_1 ql_2 ql_3 ql_4 ql_5 ql_6 ql_7 ql_8 ql_9 ql_10 ql_11 ql_12 ql_13
    go_wp2_with fail
    refine (lKind y.V y.W y.C y.P y.S ua y.n ucap y.Cu y.Cl y.Ti y.Se y.Ne y.Ma y.Sl y.m (q k : Nat) wr HY.out.sl0 HY.out.ma0 HY.out.ma1 (by have := HY.out.m1; omega) (HE.out _ HXk.out)).mono ?_
    rintro e w4 ⟨rfl, X4⟩
    rw [hk2]
    have HX4 := Lib.hid X4
    clear l_0 l_1 l_2 l_3 l_4 l_5 l_6 l_7 l_8 l_9 l_10 l_11 l_12 l_13 X4 cx
    go_wp2_with fail
    refine (Peek64 b g y f lv log (q k) w4 (HBD.out _ (HXk.out.trans HX4.out)) HY.out (HE.out _ (HXk.out.trans HX4.out)) (by rw [hq2]; decide)).mono ?_
    rintro e w5 ⟨rfl, X5⟩
    have V5 := HV.out.ext (HX4.out.trans X5)
    have HX5 := Lib.hid ((HX.out.trans HX4.out).trans X5)
    have HV5 := Lib.hid V5
    have c5 := V5.c k hlt
    have z5 := V5.z k hlt
    unfold gvl64 at c5
    rw [if_neg (by omega)] at c5
    have hfk := HFR.out (q k)
    clear V5 X5
    go_wp2_with fail
    first
      | refine (ofU64 _ _).mono ?_
      | refine (ofU64 _ _ hfk.1 hfk.2).mono ?_
    rintro e w' ⟨rfl, rfl⟩
    try rw [show f (q k) % 4294967296 = f (q k) from Int.emod_eq_of_lt hfk.1 hfk.2]
    try rw [show U64 (f (q k)) = f (q k) from U64_of hfk.1 hfk.2]
    have HS := Lib.hid (gvl64_step (q := fun i => f (q i)) HV5.out hlt)
    have HX6 := Lib.hid (HX5.out.setCell (p := ⟨r, k, none⟩) hrr (.int .u64 (f (q k))))
    go_wp2
    exact ⟨⟨k + 1, by omega, by go_num, HS.out, HX6.out⟩, by simp [intOf]; omega⟩
end Go.Proofs.YtkmfamidahlgiaaGreatDoor

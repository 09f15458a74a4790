/- group's All and List. -/
import Derived.Test.YtlalkefbcddbfaaDoorGrp2
import Derived.Test.YtlalkefbcddbfaaDoorSeq
import Derived.Test.YtlalkefbcddbfaaDoorMem
import Derived.Deep.DeepCutAuto
import Derived.Deep.AppendLies
import Derived.OwnWalk
import Derived.RangeFuncBound
import Derived.Shelf.Abstract
namespace Go.Proofs.YtlalkefbcddbfaaDoor
open Go.RowKit Go.Shelf
set_option linter.unusedVariables false
set_option maxHeartbeats 1000000
attribute [local go_sem] later_cell later_frozen later_const
theorem info_int : (Tryd.prog.info? 3).map (fun i => (i.zero, i.size, i.bytes)) = some (some (.int .i64 0), 1, 8) := by kernel_rfl
theorem World.ownsRow.lower {w : World} {base base' e sz : Nat} {v : Value} {n : Nat} {xs : List Value} (h : w.ownsRow base e sz v n xs) (hb : base' ≤ base) : w.ownsRow base' e sz v n xs := by
  refine ⟨h.1, ?_⟩
  rcases h.2 with hn | ⟨g, cap, cur, hv, hg, rest⟩
  · exact .inl hn
  · exact .inr ⟨g, cap, cur, hv, Nat.le_trans hb hg, rest⟩
theorem gAll (x : Nat) (w : World) : Calls Tryd.prog 34 #[.int .u64 x] w fun e w' => e = .returned (.func (.func 48) #[] #[.pointer (some ⟨w.heap.size, 0, none⟩)]) ∧
    w'.cell? ⟨w.heap.size, 0, none⟩ = some (.int .u64 x) ∧ w'.heap.size = w.heap.size + 1 ∧ Ext w w' := by
  go_enter Tryd.func34, Tryd.ntmps34
  go_wp2
  go_ret
  refine ⟨rfl, by simp [go_sem], by simp, ?_⟩
  repeat (first | with_reducible exact Ext.refl _ | with_reducible assumption | with_reducible refine Ext.alloc ?_ _ | with_reducible refine Ext.drew ?_ | with_reducible refine Ext.drewN ?_ _ | with_reducible refine Ext.setCell ?_ (by simp <;> omega) _ | with_reducible refine Ext.trans ?_ (by assumption))
/-- the cells of the first k -/
def rowB (L : List Nat) (k : Nat) : List Value := (L.take k).map fun (j : Nat) => Value.int .i64 (j : Int)
theorem rowB_snoc (L : List Nat) (k : Nat) (h : k < L.length) : rowB L (k + 1) = rowB L k ++ [.int .i64 ((L[k] : Nat) : Int)] := by
  unfold rowB
  rw [List.take_succ_eq_append_getElem h, List.map_append]
  rfl
/-- what a round does -/
def RoundDoes (w0 : World) (base E l pb : Nat) (r : Loop) (v : Value) (k : Nat) (cs : List Value) (z : Int) (W : World) (e : Ending) (W' : World) : Prop :=
  e = .returned (.bool true) ∧ ∃ v', Mid w0 base E 1 l pb r v' (k + 1) (cs ++ [.int .i64 z]) W' ∧ But (fun b => b = l ∨ b = pb ∨ v.ownBlock = some b) W W'
def numI : Option Nat → Int
  | some j => j
  | none => 0
/-- where the iterator stands at the loop's head -/
def ItRel (w0 : World) (base E l pb cb : Nat) (r : Loop) (x : Nat) (n ok : Value) (wr : World) : Prop :=
  ∃ (k : Nat) (v : Value), k ≤ (bitsOf x).length ∧ n = .int .i64 (numI (bitsOf x)[k]?) ∧ ok = .bool (decide (k < (bitsOf x).length)) ∧ wr.cell? ⟨cb, 0, none⟩ = some (.int .u64 x) ∧ Mid w0 base E 1 l pb r v k (rowB (bitsOf x) k) wr
def restI (n ok : Value) : Nat :=
  match n, ok with
  | .int _ z, .bool true => (64 - z).toNat
  | _, _ => 0
theorem nxt_at (x k : Nat) (h : k < (bitsOf x).length) : nxt x (((bitsOf x)[k] : Nat) : Int) = (bitsOf x)[k + 1]? := by
  rw [← find_next (bits_sorted x) k h]
  unfold nxt
  congr 1
  funext j
  rw [decide_eq_decide]
  omega
theorem opt_num (x k : Nat) : optV (bitsOf x)[k]? = .tuple #[.int .i64 (numI (bitsOf x)[k]?), .bool (decide (k < (bitsOf x).length))] := by
  by_cases h : k < (bitsOf x).length
  · rw [List.getElem?_eq_getElem h]; simp [optV, numI, h]
  · rw [List.getElem?_eq_none (by omega)]; simp [optV, numI, h]
theorem rest_less (x k z : Nat) (hz : z < 64) (h : ∀ h : k + 1 < (bitsOf x).length, z < (bitsOf x)[k + 1]) : restI (.int .i64 (numI (bitsOf x)[k + 1]?)) (.bool (decide (k + 1 < (bitsOf x).length))) < restI (.int .i64 (z : Int)) (.bool true) := by
  by_cases hk : k + 1 < (bitsOf x).length
  · have h1 := h hk
    have h2 := bits_lt hk
    rw [List.getElem?_eq_getElem hk]
    simp only [restI, numI, hk, decide_true]
    omega
  · simp only [hk, decide_false]
    simp only [restI]
    omega
theorem gIt (x : Nat) (w0 : World) (base E l pb cb : Nat) (r : Loop) (W : World) (hx : x < 18446744073709551616) (hT : Tab w0)
    (hcb : W.cell? ⟨cb, 0, none⟩ = some (.int .u64 x)) (hl : l < base) (hp : pb < base) (hcb' : cb < base) (hbase : base ≤ W.heap.size) (hcl : cb ≠ l) (hcp : cb ≠ pb) (h0 : w0.heap.size ≤ base)
    (hM : Mid w0 base E 1 l pb r (.slice none 0 0) 0 [] W)
    (hY : ∀ (v : Value) (k : Nat) (cs : List Value) (z : Int) (W : World), Mid w0 base E 1 l pb r v k cs W → k ≤ 1000000 → base ≤ W.heap.size →
      YieldAt Fence.wide 2 Tryd.prog l #[.int .i64 z] W (RoundDoes w0 base E l pb r v k cs z W)) :
    Calls Tryd.prog 48 #[.func (.yield l) #[] #[], .pointer (some ⟨cb, 0, none⟩)] W fun e W' => (∃ v, e = .returned v) ∧ ∃ v k, Mid w0 base E 1 l pb r v k (rowB (bitsOf x) (bitsOf x).length) W' := by
  have HM := Lib.hid hM
  have HY := Lib.hid hY
  have HT := Lib.hid hT
  have HB := Lib.hid hbase
  have hlen := bits_len x
  clear hM hY hT hbase
  have cl := fun w hT => gLeast x w hx hT
  have hd : (bitsOf x).head? = (bitsOf x)[0]? := by cases bitsOf x <;> rfl
  rw [hd] at cl
  have CL := Lib.hid cl
  have H0 : Hid (optV (bitsOf x)[0]? = .tuple #[.int .i64 (numI (bitsOf x)[0]?), .bool (decide (0 < (bitsOf x).length))]) := Lib.hid (by cases bitsOf x <;> rfl)
  clear cl hd
  go_enter Tryd.func48, Tryd.ntmps48
  go_wp2_with fail
  refine (CL.out _ (HT.out.ext HM.out.b)).mono ?_
  rw [H0.out]
  rintro e w' ⟨rfl, rfl⟩
  go_wp2
  go_loopw [3, 4] (fun n ok wr => ItRel w0 base E l pb cb r x n ok wr ∧ base ≤ wr.heap.size) (fun n ok _ => restI n ok)
  case atStart => exact ⟨⟨0, .slice none 0 0, Nat.zero_le _, rfl, rfl, hcb, HM.out⟩, HB.out⟩
  case round =>
    obtain ⟨⟨k, v, hk, rfl, rfl, qc_0, hM⟩, hbs⟩ := hrel
    by_cases hlt : k < (bitsOf x).length
    · have hz := bits_lt hlt
      have hn : (bitsOf x)[k]? = some (bitsOf x)[k] := List.getElem?_eq_getElem hlt
      have N1 := nxt_at x k hlt
      have R1 := rowB_snoc (bitsOf x) k hlt
      have mono : ∀ h : k + 1 < (bitsOf x).length, (bitsOf x)[k] < (bitsOf x)[k + 1] := fun h => bits_mono h (by omega)
      have MONO := Lib.hid mono
      rw [hn, show decide (k < (bitsOf x).length) = true by simpa using hlt]
      generalize hq : (bitsOf x)[k] = z at *
      have HN1 := Lib.hid N1
      have HR1 := Lib.hid R1
      have HMr := Lib.hid hM
      clear mono N1 R1 hq hn hM
      rw [show numI (some z) = (z : Int) from rfl]
      go_upto_region 3 with (fail)
      obtain ⟨fn, tmps, assign, body, hy, hR⟩ := HY.out v k (rowB (bitsOf x) k) z wr HMr.out (by omega) hbs
      have HR := Lib.hid hR
      clear hR
      refine (wpIn_wide (n := 3)).1 ?_
      gi_wp2
      refine HR.out.mono ?_
      rintro e W1 ⟨rfl, v1, hM1, hbut⟩
      have nc : ¬ (cb = l ∨ cb = pb ∨ v.ownBlock = some cb) := by
        rintro (h | h | h)
        · exact hcl h
        · exact hcp h
        · have := (HMr.out.row.lt _ h).1; omega
      replace qc_0 := hbut.cell qc_0 nc
      have hbs1 := Nat.le_trans hbs hbut.size
      rw [← HR1.out] at hM1
      have HM1 := Lib.hid hM1
      clear hM1 hbut nc
      gi_wp2
      have c2 := fun w hT => gNext x (z : Int) w hx (by omega) (by omega) hT
      rw [HN1.out, opt_num] at c2
      have C2 := Lib.hid c2
      have RL := Lib.hid (rest_less x k z hz MONO.out)
      clear c2
      go_wp2_with fail
      refine (C2.out _ (HT.out.ext HM1.out.b)).mono ?_
      rintro e w' ⟨rfl, rfl⟩
      go_wp2
      exact ⟨⟨⟨k + 1, v1, by omega, rfl, rfl, qc_0, HM1.out⟩, hbs1⟩, RL.out⟩
    · obtain rfl : k = (bitsOf x).length := by omega
      have HMr := Lib.hid hM
      clear hM
      rw [show decide ((bitsOf x).length < (bitsOf x).length) = false by simp]
      go_wp2
      go_end0
      exact ⟨⟨_, rfl⟩, v, _, HMr.out⟩
/-- the list, in a slice of the call's own -/
def GListDoes (w : World) (x : Nat) (e : Ending) (w' : World) : Prop := ∃ v, e = .returned v ∧ w'.ownsRow w.heap.size 3 1 v (bitsOf x).length (rowB (bitsOf x) (bitsOf x).length) ∧ Ext w w'
theorem rowB_len (L : List Nat) : (rowB L L.length).length = L.length := by simp [rowB]
set_option maxRecDepth 100000 in
theorem gList (x : Nat) (w : World) (hx : x < 18446744073709551616) (hT : Tab w) : Calls Tryd.prog 22 #[.int .u64 x] w (GListDoes w x) := by
  obtain ⟨i0, hi, hz0, hz1, hz2⟩ := info_parts info_int
  have HT := Lib.hid hT
  clear hT
  refine callsIn_wide.1 (callsIn_of_wp_marks (n := 3) Tryd.func22 rfl trivial ?_ rfl)
  simp only [Tryd.ntmps22, List.size_toArray, List.length_cons, List.length_nil, Nat.reduceAdd, Nat.reduceSub, Array.replicate_succ, Array.replicate_zero, List.push_toArray, List.append_toArray, List.nil_append, List.cons_append]
  refine wpIn_wide.2 ?_
  go_wp2_with fail
  refine (gAll _ _).mono ?_
  rintro e w2 ⟨rfl, c0, hz, hb2⟩
  have qp := hb2.cell (b := w.heap.size) (o := 0) (v := .slice none 0 0) (by simp [go_sem])
  have zp := hb2.frozen (b := w.heap.size) (o := 0) (v := .slice none 0 0) (by simp [go_sem]) (by simp [go_sem])
  go_wp2
  have hsz2 : w2.heap.size = w.heap.size + 2 := by rw [hz]; simp
  have hle2 : w.heap.size + 2 ≤ w2.heap.size := by omega
  have hge2 : w2.heap.size ≤ w.heap.size + 2 := by omega
  clear hz hsz2
  have E2 : Ext w w2 := by repeat (first | with_reducible exact Ext.refl _ | with_reducible assumption | with_reducible refine Ext.alloc ?_ _ | with_reducible refine Ext.drew ?_ | with_reducible refine Ext.drewN ?_ _ | with_reducible refine Ext.setCell ?_ (by simp <;> omega) _ | with_reducible refine Ext.trans ?_ (by assumption))
  refine wp_range (gf := 48) rfl (enters_of Tryd.func48 (by kernel_rfl) rfl) ?_
  intro fn rec hrec
  simp only [List.append_toArray, List.nil_append, List.cons_append]
  have hdef : rec.defers = w2.heap.size := by rw [hrec]; rfl
  obtain ⟨W0, hW0⟩ : ∃ W0, (w2.alloc (.deferred (some []))).alloc (.loop rec) = W0 := ⟨_, rfl⟩
  rw [hW0]
  have X0 : Ext w2 W0 := by rw [← hW0]; exact ((Ext.refl _).alloc _).alloc _
  have hs0 : W0.heap.size = w2.heap.size + 2 := by rw [← hW0]; simp
  have M0 : Mid w (w2.heap.size + 2) 3 1 (w2.heap.size + 1) w.heap.size rec (.slice none 0 0) 0 [] W0 := by
    refine ⟨?_, ?_, X0.cell qp, X0.frozen qp zp, World.ownsRow_nil _ _ _ _, E2.trans X0⟩
    · rw [← hW0]; have := World.alloc_heap_new (w2.alloc (.deferred (some []))) (.loop rec); rwa [World.size_alloc] at this
    · rw [hdef, ← hW0]; exact (Below.heap_alloc _ _ _ (by simp)).trans (World.alloc_heap_new w2 _)
  have c0' := X0.cell (b := w.heap.size + 1) (o := 0) (v := .int .u64 x) (by simpa using c0)
  refine (gIt x w (w2.heap.size + 2) 3 (w2.heap.size + 1) w.heap.size (w.heap.size + 1) rec W0 hx HT.out c0' (by omega) (by omega) (by omega) (by omega) (by omega) (by omega) (by omega) M0 ?hY).mono ?_
  case hY =>
    intro v k cs z W hM hk1 hbs
    have hy := run_yield (P := Tryd.prog) (args := #[.int .i64 z]) hM.L (by rw [hrec]; rfl)
    simp [hrec, recOf] at hy
    refine ⟨_, _, _, _, hy, ?_⟩
    refine roundIn_of_wpIn trivial ?_
    refine region_round_list (by kernel_rfl) ?_
    have HM := Lib.hid hM
    clear hM
    have hbW : w.heap.size < W.heap.size := World.block_lt_of_cell? _ ⟨w.heap.size, 0, none⟩ HM.out.c
    go_wp2
    have MW := HM.out
    obtain ⟨W5, hW5⟩ : ∃ W5, W.putObj (w2.heap.size + 1) (.loop { rec with state := .busy }) = W5 := ⟨_, rfl⟩
    have B5 : But (· = w2.heap.size + 1) W W5 := by rw [← hW5]; exact but_putObj _ _ _
    have hbegin := run_beginRound (P := Tryd.prog) MW.L (by rw [hrec]; rfl)
    rw [hW5] at hbegin
    have L5 : W5.heap[w2.heap.size + 1]? = some (.loop { rec with state := .busy }) := by
      rw [← hW5]; exact World.putObj_heap_same (by omega)
    have K5 := B5.heap MW.K (by omega)
    have q5 := B5.cell MW.c (by omega)
    have z5 := B5.frozen MW.c MW.f (by omega)
    have R5 := B5.row MW.row (fun g hg e => by have := (MW.row.lt g hg).1; omega)
    have T5 : But (fun b => b = w2.heap.size + 1 ∨ b = w.heap.size ∨ v.ownBlock = some b) W W5 := B5.mono fun k _ e => .inl e
    have X5 := B5.ext MW.b (fun i e => by omega)
    have S5 := B5.size
    have HT5 := Lib.hid T5
    have HR5 := Lib.hid R5
    have HK5 := Lib.hid K5
    have HL5 := Lib.hid L5
    have HREC := Lib.hid hrec
    have HX5 := Lib.hid X5
    have HHDEF := Lib.hid hdef
    clear B5 T5 R5 K5 L5 hW5 hW0 M0 X0 c0 c0' qp zp hy hrec X5 MW hdef
    show ∃ w₂, (Instr.beginRound _).run Tryd.prog _ = .ok () w₂ ∧ _
    refine ⟨W5, hbegin, ?_⟩
    clear hbegin
    refine wpIn_block ?_
    refine region_round_list (by kernel_rfl) ?_
    go_wp2_with (at_builtin; refine wpList_append_lies _ rfl _ _ 27 rfl (w2.heap.size + 2) 3 i0 (.int .i64 0) 1 8 Tryd.underlying27 hi hz0 hz1 hz2 rfl (by decide) _ _ _ rfl (HR5.out.alloc _) ⟨W5.heap.size, 0, none⟩ 1 1 [.int .i64 z] rfl rfl ?c1 ?c2 (by decide) ?c3 ?c4 ?c5 (W5.heap.size + 1) ?c6 ?_)
    case c1 =>
      intro j u hj
      match j, hj with
      | 0, hj => simp at hj; subst hj; simp [Addr.add]
    case c2 => intro u hu; simp at hu; subst hu; rfl
    case c3 => unfold maxLen; omega
    case c4 => omega
    case c5 => simp; omega
    case c6 => simp
    have X7 : Ext W5 (W5.alloc (.cells #[.int .i64 z] 3)) := (Ext.refl _).alloc _
    have q7 := X7.cell q5
    have z7 := X7.frozen q5 z5
    generalize W5.alloc (.cells #[.int .i64 z] 3) = W7 at *
    have HX7 := Lib.hid X7
    have S7 := X7.size
    clear X7
    intro g cap w8 hown8 hgrow8 hat8 hlt8
    have hvp : ∀ b, b < w2.heap.size + 2 → ¬ v.ownBlock = some b := fun b hb e => by have := (HR5.out.lt b e).1; omega
    have B8 := but_grown hgrow8
    have q8 := B8.cell q7 (hvp _ (by omega))
    have z8 := B8.frozen q7 z7 (hvp _ (by omega))
    have hgb : w2.heap.size + 2 ≤ g := (hown8.lt g rfl).1
    have HO8 := Lib.hid hown8
    have HB8 := Lib.hid B8
    have HVP := Lib.hid hvp
    clear hown8 B8 hat8 hgrow8 hvp
    go_wp2
    show ∃ v w', (Instr.endRound _ none).run Tryd.prog _ = .ok v w' ∧ _
    have X7 := HX7.out
    have B9 := but_setCell w8 ⟨w.heap.size, 0, none⟩ (.slice (some ⟨g, 0, none⟩) (k + 1) cap)
    have c9 : (w8.setCell ⟨w.heap.size, 0, none⟩ (.slice (some ⟨g, 0, none⟩) (k + 1) cap)).cell? ⟨w.heap.size, 0, none⟩ = some (.slice (some ⟨g, 0, none⟩) (k + 1) cap) := World.cell?_setCell_same' _ _ _ (by rw [q8]; rfl)
    have z9 : (w8.setCell ⟨w.heap.size, 0, none⟩ (.slice (some ⟨g, 0, none⟩) (k + 1) cap)).frozen? ⟨w.heap.size, 0, none⟩ = false := by rw [World.frozen?_setCell]; exact z8
    generalize w8.setCell ⟨w.heap.size, 0, none⟩ (.slice (some ⟨g, 0, none⟩) (k + 1) cap) = W9 at *
    have hdef := HHDEF.out
    have L9 := B9.heap (HB8.out.heap ((X7.but (fun _ => False)).heap HL5.out id) (HVP.out _ (by omega))) (by simp; omega)
    have K9 := B9.heap (HB8.out.heap ((X7.but (fun _ => False)).heap HK5.out id) (HVP.out _ (by omega))) (by simp; omega)
    have R9 := B9.row HO8.out (fun g' hg' e => by simp [Value.ownBlock] at hg' e; omega)
    refine ⟨_, _, run_endRound none L9, rfl, .slice (some ⟨g, 0, none⟩) (k + 1) cap, ?_, ?_⟩
    · have erec : ({ ({ rec with state := .busy } : Loop) with state := if (none : Option Code).isNone = true then LoopState.ready else LoopState.done, pending := none } : Loop) = rec := by rw [HREC.out]; rfl
      rw [erec]
      have BL := but_putObj W9 (w2.heap.size + 1) (.loop rec)
      exact ⟨World.putObj_heap_same (Array.getElem?_eq_some_iff.1 L9).1, BL.heap K9 (by omega), BL.cell c9 (by omega), BL.frozen c9 z9 (by omega), BL.row R9 (fun g' hg' e => by simp [Value.ownBlock] at hg' e; omega),
        BL.ext (B9.ext (HB8.out.ext (HX5.out.trans X7) (fun i e => by have := (HR5.out.lt i e).1; omega)) (fun i e => by simp at e; omega)) (fun i e => by omega)⟩
    · exact HT5.out.trans ((X7.but _).trans ((HB8.out.mono fun b _ e => .inr (.inr e)).trans ((B9.mono fun b _ e => .inr (.inl e)).trans ((but_putObj W9 (w2.heap.size + 1) _).mono fun b _ e => .inl e))))
  rintro e W3 ⟨hv, v, k, hM⟩
  refine ⟨hv, hM.L, fun W4 o4 hW4 => ?_⟩
  have B4 : But (· = w2.heap.size + 1) W3 W4 := by rw [hW4]; exact but_putObj _ _ _
  clear hW4
  have q4 := B4.cell hM.c (by omega)
  have K4 := B4.heap hM.K (by omega)
  have R4 := B4.row hM.row (fun g hg e => by have := (hM.row.lt g hg).1; omega)
  have X4 := B4.ext hM.b (fun i e => by omega)
  rw [hdef] at K4
  clear c0 c0' qp zp
  go_wp2
  refine ⟨by simp, .inl ⟨_, _, rfl, run_takeDeferred K4, ?_⟩⟩
  have BD := but_putObj W4 w2.heap.size (.deferred none)
  refine ⟨_, results_tmp rfl _ _ _, ?_⟩
  have RD := BD.row R4 (fun g hg e => by have := (R4.lt g hg).1; omega)
  have hk : k = (bitsOf x).length := by
    have := RD.1
    rw [rowB_len] at this
    omega
  subst hk
  exact ⟨v, rfl, World.ownsRow.lower RD (by have := E2.size; omega), BD.ext X4 (fun i e => by omega)⟩
end Go.Proofs.YtlalkefbcddbfaaDoor

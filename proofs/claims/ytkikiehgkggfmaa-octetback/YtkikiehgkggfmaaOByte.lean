/- Slices of bytes: read, of the call's own, appended, as texts. -/
import Derived.Test.YtkikiehgkggfmaaRows
import Derived.Test.YtkikiehgkggfmaaExt
import Derived.Test.YtkikiehgkggfmaaMem
import Derived.Test.YtkikiehgkggfmaaOpen
import Derived.Test.YtkikiehgkggfmaaOpen2
import Derived.WalkKit
import Derived.ProofKit
import Derived.OwnWalk
import Derived.Deep.AppendLies
import Derived.Deep.OwnRows
import Derived.Lib.SliceRun
import Derived.Laws.BytesArg
import Derived.Laws.IdiomStrings
namespace Go.Proofs.Ytkikiehgkggfmaa
open Go.RowKit
set_option linter.unusedVariables false
theorem info_byte : (Try.prog.info? 5).map (fun i => (i.zero, i.size, i.bytes)) = some (some (.int .u8 0), 1, 1) := by kernel_rfl
/-- a text of these bytes -/
def tx (l : List UInt8) : ByteArray := ⟨l.toArray⟩
theorem tx_size (l : List UInt8) : (tx l).size = l.length := rfl
theorem tx_append (a b : List UInt8) : tx (a ++ b) = tx a ++ tx b := by
  apply ByteArray.ext
  simp [tx]
def bv (c : UInt8) : Value := .int .u8 (c.toNat : Int)
/-- a slice reads as these bytes -/
def BytesV (w : World) (v : Value) (bs : List UInt8) : Prop :=
  (∃ a cap, v = .slice a 0 cap ∧ bs = []) ∨ ∃ b off cap, v = .slice (some ⟨b, off, none⟩) bs.length cap ∧ bs.length ≤ cap ∧ ∀ j, j < bs.length → w.cell? ⟨b, off + j, none⟩ = some (.int .u8 ((bs.getD j 0).toNat : Int))
theorem BytesV.ext {w w' : World} {v : Value} {bs : List UInt8} (h : BytesV w v bs) (hx : Ext w w') : BytesV w' v bs := by
  rcases h with h | ⟨b, off, cap, hv, hl, hc⟩
  · exact .inl h
  · exact .inr ⟨b, off, cap, hv, hl, fun j hj => hx.cell (hc j hj)⟩
theorem BytesV.form {w : World} {v : Value} {bs : List UInt8} (h : BytesV w v bs) : ∃ a cap, v = .slice a bs.length cap := by
  rcases h with ⟨a, cap, rfl, rfl⟩ | ⟨b, off, cap, rfl, _⟩
  · exact ⟨a, cap, rfl⟩
  · exact ⟨_, cap, rfl⟩
theorem BytesV.full {w : World} {v : Value} {bs : List UInt8} (h : BytesV w v bs) (h0 : 0 < bs.length) : ∃ b off cap, v = .slice (some ⟨b, off, none⟩) bs.length cap ∧ bs.length ≤ cap ∧ ∀ j, j < bs.length → w.cell? ⟨b, off + j, none⟩ = some (.int .u8 ((bs.getD j 0).toNat : Int)) := by
  rcases h with ⟨a, cap, rfl, rfl⟩ | h
  · simp at h0
  · exact h
/-- a row of bytes of the call's own -/
def RB (w : World) (base : Nat) (v : Value) (bs : List UInt8) : Prop := w.ownsRow base 5 1 v bs.length (bs.map bv)
theorem RB.bytes {w : World} {base : Nat} {v : Value} {bs : List UInt8} (h : RB w base v bs) : BytesV w v bs := by
  have hl := h.1
  rcases h.2 with ⟨h1, h2⟩ | ⟨g, cap, cur, h1, hb, hg, hc, hm, hs, ht⟩
  · exact .inl ⟨none, 0, h1, by simpa using h2⟩
  · refine .inr ⟨g, 0, cap, h1, hc, fun j hj => ?_⟩
    subst h1
    rw [Nat.zero_add, h.cellAt j (by omega)]
    simp [hj, bv]
theorem Ext.row {a b : World} (h : Ext a b) {base e sz : Nat} {v : Value} {n : Nat} {xs : List Value} (hr : a.ownsRow base e sz v n xs) : b.ownsRow base e sz v n xs := by
  refine ⟨hr.1, ?_⟩
  rcases hr.2 with hn | ⟨g, cap, cur, rfl, hb, hg, rest⟩
  · exact .inl hn
  · exact .inr ⟨g, cap, cur, rfl, hb, (h.block g (Array.getElem?_eq_some_iff.1 hg).1).trans hg, rest⟩
theorem RB.ext {w w' : World} {base : Nat} {v : Value} {bs : List UInt8} (h : RB w base v bs) (hx : Ext w w') : RB w' base v bs := hx.row h
theorem RB.mono {w : World} {base base' : Nat} {v : Value} {bs : List UInt8} (h : RB w base v bs) (hb : base' ≤ base) : RB w base' v bs :=
  ⟨h.1, h.2.imp id fun ⟨g, cap, cur, a, b, c⟩ => ⟨g, cap, cur, a, Nat.le_trans hb b, c⟩⟩
/-- a call gives these bytes, in memory of its own -/
def GivesB (w : World) (bs : List UInt8) (e : Ending) (w' : World) : Prop := ∃ v, e = .returned v ∧ RB w' w.heap.size v bs ∧ Ext w w'
theorem bmap_get (bs : List UInt8) (j : Nat) (u : Value) (h : (bs.map bv)[j]? = some u) : j < bs.length ∧ u = .int .u8 ((bs.getD j 0).toNat : Int) := by
  rw [List.getElem?_map] at h
  obtain ⟨x, hx, rfl⟩ := Option.map_eq_some_iff.1 h
  obtain ⟨hj, rfl⟩ := List.getElem?_eq_some_iff.1 hx
  exact ⟨hj, by simp [hj, bv]⟩
theorem bmap_one (bs : List UInt8) : ∀ u ∈ bs.map bv, u.oneCell' = true := by
  intro u hu
  obtain ⟨x, _, rfl⟩ := List.mem_map.1 hu
  rfl
/-- bytes appended to a row of the call's own -/
theorem appB {ops : Array Oper} {rest : List Oper} {o : Oper} {a : Act} {Q : Exit → Act → World → Prop} (w : World) (hgd : o.guard = none) (s x : Operand)
    (ho : o.op = .call { callee := .builtin .append, args := #[s, x], argTypes := #[24, 24] })
    (W : World) (v : Value) (bs : List UInt8) (hs : a.eval s = v) (hown : RB w W.heap.size v bs) (hW : Ext W w) (u : Value) (cs : List UInt8) (hx : a.eval x = u) (hu : BytesV w u cs) (hc : 0 < cs.length) (hl : bs.length ≤ 1000000) (hl2 : cs.length ≤ 1000000)
    (h : ∀ v' w', RB w' W.heap.size v' (bs ++ cs) → Ext W w' → wpList Try.prog ops Q rest (a.put o.dst v') w') : wpList Try.prog ops Q (o :: rest) a w := by
  obtain ⟨i0, hi, hz0, hz1, hz2⟩ := info_parts info_byte
  obtain ⟨b, off, cap, rfl, hcap, hcell⟩ := hu.full hc
  refine wpList_append_own w hgd s x 24 ho W.heap.size 5 i0 (.int .u8 0) 1 1 Try.underlying24 hi hz0 hz1 hz2 rfl (by decide) v bs.length (bs.map bv) hs hown ⟨b, off, none⟩ cs.length cap (cs.map bv) hx (by simp) ?_ (bmap_one cs) ?_ ?_ ?_ ?_
  · intro j u hu
    obtain ⟨hj, rfl⟩ := bmap_get cs j u hu
    have := hcell j hj
    by_cases hj0 : j = 0
    · subst hj0; simpa [Addr.add] using this
    · simpa [Addr.add, hj0] using this
  · unfold maxLen; omega
  · omega
  · exact hW.size
  · intro v' w' h1 h2 _
    refine h v' w' ?_ (hW.grown h2 fun j hj => (World.ownsRow.lt hown j hj).1)
    unfold RB
    rw [List.length_append, List.map_append]
    exact h1
/-- .. or nothing, if there are none -/
theorem appB0 {ops : Array Oper} {rest : List Oper} {o : Oper} {a : Act} {Q : Exit → Act → World → Prop} (w : World) (hgd : o.guard = none) (s x : Operand)
    (ho : o.op = .call { callee := .builtin .append, args := #[s, x], argTypes := #[24, 24] })
    (W : World) (v : Value) (bs : List UInt8) (hs : a.eval s = v) (hown : RB w W.heap.size v bs) (hW : Ext W w) (p : Option Addr) (c : Nat) (hx : a.eval x = .slice p 0 c) (hl : bs.length ≤ 1000000)
    (h : ∀ v' w', RB w' W.heap.size v' bs → Ext W w' → wpList Try.prog ops Q rest (a.put o.dst v') w') : wpList Try.prog ops Q (o :: rest) a w := by
  obtain ⟨i0, hi, hz0, hz1, hz2⟩ := info_parts info_byte
  cases p with
  | some ad =>
    refine wpList_append_own w hgd s x 24 ho W.heap.size 5 i0 (.int .u8 0) 1 1 Try.underlying24 hi hz0 hz1 hz2 rfl (by decide) v bs.length (bs.map bv) hs hown ad 0 c [] hx rfl (by simp) (by simp) ?_ ?_ hW.size ?_
    · unfold maxLen; omega
    · omega
    · intro v' w' h1 h2 _
      refine h v' w' ?_ (hW.grown h2 fun j hj => (World.ownsRow.lt hown j hj).1)
      rw [List.append_nil] at h1
      exact h1
  | none =>
    refine wpList_plain hgd fun K hK => ?_
    have hr : ∀ t, (Builtin.append_ #[24, 24] t #[v, .slice none 0 c]).run Try.prog w = .ok v w := by
      intro t
      rcases hown.2 with ⟨rfl, _⟩ | ⟨g, cap, cur, rfl, _, _, hnc, _⟩
      · simp [Builtin.append_, run_underlying Try.underlying24, sizeOf, typeInfo, hi, Builtin.lenOf, Builtin.firstCells]
      · simp [Builtin.append_, run_underlying Try.underlying24, sizeOf, typeInfo, hi, Builtin.lenOf, Builtin.firstCells, hnc, storeCells]
    unfold Oper.wp execOp
    simp only [ho, resolve, invoke, builtin, Sem.run_bind, Sem.run_pure, Result.andThen_ok, List.map_toArray, List.map_cons, List.map_nil, hs, hx, hr]
    exact hK _ _ (h v w hown hW)
/-- .. any -/
theorem appBx {ops : Array Oper} {rest : List Oper} {o : Oper} {a : Act} {Q : Exit → Act → World → Prop} (w : World) (hgd : o.guard = none) (s x : Operand)
    (ho : o.op = .call { callee := .builtin .append, args := #[s, x], argTypes := #[24, 24] })
    (W : World) (v : Value) (bs : List UInt8) (hs : a.eval s = v) (hown : RB w W.heap.size v bs) (hW : Ext W w) (u : Value) (cs : List UInt8) (hx : a.eval x = u) (hu : BytesV w u cs) (hl : bs.length ≤ 1000000) (hl2 : cs.length ≤ 1000000)
    (h : ∀ v' w', RB w' W.heap.size v' (bs ++ cs) → Ext W w' → wpList Try.prog ops Q rest (a.put o.dst v') w') : wpList Try.prog ops Q (o :: rest) a w := by
  by_cases h0 : 0 < cs.length
  · exact appB w hgd s x ho W v bs hs hown hW u cs hx hu h0 hl hl2 h
  · have e : cs = [] := List.eq_nil_of_length_eq_zero (by omega)
    subst e
    obtain ⟨p, c, rfl⟩ := hu.form
    exact appB0 w hgd s x ho W v bs hs hown hW p c hx hl (by simpa using h)
theorem bytes_one {w : World} {g : Nat} {z : Int} {c : UInt8} (h : w.cell? ⟨g, 0, none⟩ = some (.int .u8 z)) (hz : z = (c.toNat : Int)) : BytesV w (.slice (some ⟨g, 0, none⟩) 1 1) [c] := by
  subst hz
  refine .inr ⟨g, 0, 1, rfl, by simp, fun j hj => ?_⟩
  match j, hj with
  | 0, _ => simpa using h
theorem conv_none (c : Nat) (w : World) : (convert 24 9 (.slice none 0 c)).run Try.prog w = .ok (.string (tx [])) w := by
  exact run_convert_bytes_nil (P := Try.prog) w 24 5 Try.underlying24 Try.underlying5 0 c 9 Try.underlying9
/-- bytes as a text -/
theorem conv_bytes {w : World} {v : Value} {bs : List UInt8} (h : BytesV w v bs) : (convert 24 9 v).run Try.prog w = .ok (.string (tx bs)) w := by
  by_cases h0 : 0 < bs.length
  · obtain ⟨b, off, cap, rfl, hcap, hc⟩ := h.full h0
    exact run_convert_bytes_back (P := Try.prog) w 24 9 5 ⟨b, off, none⟩ cap bs Try.underlying24 Try.underlying5 Try.underlying9 (fun j hj => by
      have := hc j hj
      rw [show bs.getD j 0 = bs[j] by simp [hj]] at this
      by_cases hj0 : j = 0
      · subst hj0; simpa [Addr.add] using this
      · simpa [Addr.add, hj0] using this)
  · have e : bs = [] := List.eq_nil_of_length_eq_zero (by omega)
    subst e
    obtain ⟨p, c, rfl⟩ := h.form
    cases p with
    | some ad => exact run_convert_bytes_back (P := Try.prog) w 24 9 5 ad c [] Try.underlying24 Try.underlying5 Try.underlying9 (fun j hj => by simp at hj)
    | none => exact conv_none c w
/-- a slice that came in reads as its bytes -/
theorem bytesV_of_row {w : World} {a : Option Addr} {len cap : Nat} {zs : List Int} (h : IsRow .u8 w a len cap zs) : ∃ bs : List UInt8, BytesV w (.slice a len cap) bs ∧ bs.length = len := by
  rcases h with ⟨rfl, rfl, rfl, rfl⟩ | ⟨x, rfl, hl, hm, hz, hc, hw⟩
  · exact ⟨[], .inl ⟨none, 0, rfl, rfl⟩, rfl⟩
  · by_cases h0 : len = 0
    · subst h0
      exact ⟨[], .inl ⟨some x, cap, rfl, rfl⟩, rfl⟩
    · have h1 := hc 0 (by omega)
      have hx := spot_none h1
      simp [Addr.add] at hx
      refine ⟨(zs.take len).map fun z => UInt8.ofNat z.toNat, .inr ⟨x.block, x.off, cap, ?_, ?_, fun j hj => ?_⟩, ?_⟩
      · rw [List.length_map, List.length_take, Nat.min_eq_left (by omega), ← hx]
      · rw [List.length_map, List.length_take]; omega
      · rw [List.length_map, List.length_take] at hj
        have hj2 : j < zs.length := by omega
        have h2 := hc j hj2
        have hw2 := hw (zs.getD j 0) (by simp [hj2])
        have e : ((zs.take len).map fun z => UInt8.ofNat z.toNat).getD j 0 = UInt8.ofNat (zs.getD j 0).toNat := by
          simp [hj2, show j < len by omega]
        rw [e]
        have hb : 0 ≤ zs.getD j 0 ∧ zs.getD j 0 ≤ 255 := by simpa [Lit.wf, IntKind.min, IntKind.max, IntKind.signed, IntKind.bits] using hw2
        have e2 : (((UInt8.ofNat (zs.getD j 0).toNat).toNat : Nat) : Int) = zs.getD j 0 := by rw [UInt8.toNat_ofNat']; omega
        rw [e2]
        rw [hx] at h2
        by_cases hj0 : j = 0
        · subst hj0; simpa [Addr.add] using h2
        · simpa [Addr.add, hj0] using h2
      · rw [List.length_map, List.length_take]; omega
end Go.Proofs.Ytkikiehgkggfmaa

/- slices.Clone of numbers (any), graph.Copy. -/
import Derived.Test.YtkmfamidahlgiaaGreatDoorLists
import Derived.Test.YtkmfamidahlgiaaGreatDoorSeq
import Derived.Deep.OwnRows
import Derived.Deep.AppendLies
import Derived.Lib.SliceRun
import Derived.Deep.DeepCutAuto
namespace Go.Proofs.YtkmfamidahlgiaaGreatDoor
open Go.RowKit
set_option linter.unusedVariables false
set_option maxHeartbeats 1000000
theorem info_int9 : (Tryz.prog.info? 3).map (fun i => (i.zero, i.size, i.bytes)) = some (some (.int .i64 0), 1, 8) := by kernel_rfl
theorem info_ints9 : (Tryz.prog.info? 35).map (fun i => (i.zero, i.size, i.bytes)) = some (some (.slice none 0 0), 1, 24) := by kernel_rfl
theorem Ext.row {a b : World} (h : Ext a b) {base e sz : Nat} {v : Value} {n : Nat} {xs : List Value} (hr : a.ownsRow base e sz v n xs) : b.ownsRow base e sz v n xs := by
  refine ⟨hr.1, ?_⟩
  rcases hr.2 with hn | ⟨g, cap, cur, rfl, hb, hg, rest⟩
  · exact .inl hn
  · exact .inr ⟨g, cap, cur, rfl, hb, (h.block g (Array.getElem?_eq_some_iff.1 hg).1).trans hg, rest⟩
/-- a row of numbers of the call's own -/
def RI (w : World) (base : Nat) (v : Value) (xs : List Int) : Prop := w.ownsRow base 3 1 v xs.length (xs.map (Value.int .i64))
theorem RI.ints {w : World} {base : Nat} {v : Value} {xs : List Int} (h : RI w base v xs) : IntsV w v xs := intsV_row h
theorem RI.ext {w w' : World} {base : Nat} {v : Value} {xs : List Int} (h : RI w base v xs) (hx : Ext w w') : RI w' base v xs := hx.row h
theorem RI.cap {w : World} {base : Nat} {v : Value} {xs : List Int} (h : RI w base v xs) : capOk v := by
  rcases h.2 with ⟨rfl, _⟩ | ⟨g, cap, cur, rfl, _, _, hc, _⟩
  · exact Nat.le_refl 0
  · exact hc
theorem row_lower {w : World} {base b e sz : Nat} {v : Value} {n : Nat} {xs : List Value} (h : w.ownsRow base e sz v n xs) (hb : b ≤ base) : w.ownsRow b e sz v n xs := by
  refine ⟨h.1, ?_⟩
  rcases h.2 with hn | ⟨g, cap, cur, h1, h2, rest⟩
  · exact .inl hn
  · exact .inr ⟨g, cap, cur, h1, Nat.le_trans hb h2, rest⟩
theorem RI.lower {w : World} {base b : Nat} {v : Value} {xs : List Int} (h : RI w base v xs) (hb : b ≤ base) : RI w b v xs := row_lower h hb
/-- a call gives these numbers, in memory of its own -/
def GivesI (w : World) (xs : List Int) (e : Ending) (w' : World) : Prop := ∃ v, e = .returned v ∧ RI w' w.heap.size v xs ∧ Ext w w'
theorem gives_nil {w w' : World} (hx : Ext w w') : GivesI w [] (.returned (.slice none 0 0)) w' := ⟨_, rfl, World.ownsRow_nil _ _ _ _, hx⟩
theorem map_get (xs : List Int) (j : Nat) (u : Value) (h : (xs.map (Value.int .i64))[j]? = some u) : j < xs.length ∧ u = .int .i64 (xs.getD j 0) := by
  rw [List.getElem?_map] at h
  obtain ⟨x, hx, rfl⟩ := Option.map_eq_some_iff.1 h
  obtain ⟨hj, rfl⟩ := List.getElem?_eq_some_iff.1 hx
  exact ⟨hj, by simp [hj]⟩
theorem gClone (v : Value) (xs : List Int) (w : World) (h : IntsV w v xs) (hl : xs.length ≤ 1000000) : Calls Tryz.prog 105 #[v] w (GivesI w xs) := by
  obtain ⟨a, cap, rfl, hf⟩ := h.form
  cases a with
  | none =>
    have h0 : xs = [] := by
      cases xs with
      | nil => rfl
      | cons z l => obtain ⟨b, off, e, _⟩ := hf 0 (by simp); cases e
    subst h0
    have heq := fun W => Lib.run_eql_slice_nil (P := Tryz.prog) W 35 3 none 0 cap 0 0 Tryz.underlying35
    clear hf h
    show Calls Tryz.prog 105 #[.slice none 0 cap] w (GivesI w [])
    go_enter Tryz.func105, Tryz.ntmps105
    go_wp2
    go_ret
    exact gives_nil (Ext.refl _)
  | some p =>
    obtain ⟨i0, hi, hz0, hz1, hz2⟩ := info_parts info_int9
    have hnews : ∀ j u, (xs.map (Value.int .i64))[j]? = some u → w.cell? (p.add j) = some u := by
      intro j u hu
      obtain ⟨hj, rfl⟩ := map_get xs j u hu
      obtain ⟨b, off, e, hc⟩ := hf j hj
      cases e
      by_cases hj0 : j = 0
      · subst hj0; simpa [Addr.add] using hc
      · simpa [Addr.add, hj0] using hc
    have HN := Lib.hid hnews
    have HL : Hid ((xs.map (Value.int .i64)).length = xs.length * 1) := Lib.hid (by simp)
    have HM : Hid (∀ u ∈ xs.map (Value.int .i64), u.oneCell' = true) := Lib.hid (by intro u hu; obtain ⟨x, _, rfl⟩ := List.mem_map.1 hu; rfl)
    have HG : Hid (∀ v' w', w'.ownsRow w.heap.size 3 1 v' xs.length (xs.map (Value.int .i64)) → Ext w w' → GivesI w xs (.returned v') w') := Lib.hid (fun v' w' h1 h2 => ⟨v', rfl, h1, h2⟩)
    generalize hgr : GivesI w xs = G at *
    generalize xs.map (Value.int .i64) = ns at *
    generalize xs.length = n at *
    clear h hnews hf hgr
    have heq := fun W => Lib.run_eql_slice_nil (P := Tryz.prog) W 35 3 (some p) n cap 0 0 Tryz.underlying35
    go_enter Tryz.func105, Tryz.ntmps105
    go_wp2_with (at_builtin; refine wpList_append_own _ rfl _ _ 35 rfl w.heap.size 3 i0 (.int .i64 0) 1 8 Tryz.underlying35 hi hz0 hz1 hz2 rfl (by decide) _ 0 [] rfl (World.ownsRow_made w #[] 0 (Nat.le_refl _) (by unfold maxLen; omega) rfl) p n cap ns rfl HL.out ?c1 HM.out ?c3 ?c4 ?c5 ?_)
    case c1 => intro j u hu; exact Lib.cell?_alloc_some _ (HN.out j u hu)
    case c3 => unfold maxLen; omega
    case c4 => omega
    case c5 => simp
    intro v' w' h1 h2 _
    have X := (((Ext.refl w).alloc (.cells #[] 3))).grown h2 (fun j h => by simp [Value.ownBlock] at h; omega)
    have h1' : w'.ownsRow w.heap.size 3 1 v' n ns := by simpa using h1
    have HG2 := Lib.hid (HG.out v' w' h1' X)
    clear h1 h1' h2 X
    go_wp2
    exact HG2.out
/-- the lists anew -/
def CopyDoes (w : World) (ups : List (List Int)) (e : Ending) (w' : World) : Prop := ∃ a cap, e = .returned (.slice a ups.length cap) ∧ ListsV w' (.slice a ups.length cap) ups ∧ Ext w w'
theorem made_vl (z : Value) (hz : z.cells = #[z]) (n : Nat) : madeCells #[z] n = (vl n (fun _ => z)).toArray := by
  apply Array.ext'
  rw [toList_madeCells_one]
  unfold vl
  simp only []
  apply List.ext_getElem
  · simp
  · intro i h1 h2; simp
theorem gCopy (v : Value) (ups : List (List Int)) (w : World) (hL : ListsV w v ups) (hll : ∀ l ∈ ups, l.length ≤ 1000000) (hn : ups.length ≤ 1000000) : Calls Tryz.prog 52 #[v] w (CopyDoes w ups) := by
  obtain ⟨a, cap, e, -⟩ := id hL
  subst e
  have HL := Lib.hid hL
  have HLL := Lib.hid hll
  obtain ⟨n, hN⟩ : ∃ n, n = ups.length := ⟨_, rfl⟩
  have HG : Hid (∀ (W : World) (f : Nat → Value), VA n W w.heap.size f → (∀ j, j < n → RI W (w.heap.size + 1) (f j) (ups.getD j [])) → Ext w W → CopyDoes w ups (.returned (.slice (some ⟨w.heap.size, 0, none⟩) n n)) W) := Lib.hid (fun W f hV hR hX => by
    rw [hN]
    refine ⟨_, _, rfl, ⟨_, _, rfl, fun j hj => ⟨w.heap.size, 0, f j, rfl, ?_, (hR j (by omega)).ints, (hR j (by omega)).cap⟩⟩, hX⟩
    rw [Nat.zero_add]
    exact hV.c j (by omega))
  generalize CopyDoes w ups = G at *
  rw [← hN]
  rw [← hN] at hn
  have HE := Lib.hid hN
  clear hL hll hN
  have hmk := fun W => run_make_row' (P := Tryz.prog) 23 35 (.slice none 0 0) 24 Tryz.underlying23 info_ints9 rfl .i64 .i64 n (by omega) (by omega) W
  go_enter Tryz.func52, Tryz.ntmps52
  go_wp2
  have hV0 := va_new (n := n) w 35 (madeCells #[.slice none 0 0] n) (fun _ => .slice none 0 0) (made_vl _ rfl n)
  have X0 : Ext w (w.alloc (.cells (madeCells #[.slice none 0 0] n) 35)) := (Ext.refl w).alloc _
  generalize w.alloc (.cells (madeCells #[.slice none 0 0] n) 35) = w1 at *
  have HV0 := Lib.hid hV0
  have HX0 := Lib.hid X0
  clear hV0 X0 hmk
  go_loopw [11] (fun i wr => ∃ k : Nat, k ≤ n ∧ i = .int .i64 k ∧ Ext w wr ∧ ∃ f, VA n wr w.heap.size f ∧ Hid (∀ j, j < k → RI wr (w.heap.size + 1) (f j) (ups.getD j []))) (fun i _ => n - (intOf i).toNat)
  case atStart => exact ⟨0, Nat.zero_le _, rfl, HX0.out, _, HV0.out, Lib.hid fun j hj => by omega⟩
  case round =>
    obtain ⟨k, hk, rfl, hx, f, hV, HR⟩ := hrel
    by_cases hlt : k < n
    · have hku : k < ups.length := by have := HE.out; omega
      have hkn : (k : Int) < (n : Int) := by omega
      obtain ⟨b, off, u, cu, ha, q, hI⟩ := HL.out.at hx hku
      subst ha
      have hlen : (ups.getD k []).length ≤ 1000000 := HLL.out _ (by rw [show ups.getD k [] = ups[k] by simp [hku]]; exact List.getElem_mem hku)
      have C := Lib.hid (gClone _ _ wr hI hlen)
      have HV := Lib.hid hV
      have hsz : w.heap.size + 1 ≤ wr.heap.size := by
        exact World.block_lt_of_cell? wr _ (hV.c k hlt)
      generalize hup : ups.getD k [] = l at *
      have HUP := Lib.hid hup
      clear hI hku hV hup
      generalize hll : l.length = m at *
      have HLM := Lib.hid hll
      clear hll
      go_wp2_with fail
      refine C.out.mono ?_
      rintro e w3 ⟨v3, rfl, R3, X3⟩
      obtain ⟨a3, c3, e3, -⟩ := R3.ints.form
      subst e3
      have V3 := HV.out.ext X3
      have q3 := V3.c k hlt
      have z3 := V3.z k hlt
      have B4 := but_setCell w3 ⟨w.heap.size, k, none⟩ (.slice a3 l.length c3)
      have HV4 := Lib.hid (va_set V3 (.slice a3 l.length c3) hlt)
      have HX4 := Lib.hid ((hx.trans X3).setCell (p := ⟨w.heap.size, k, none⟩) (Nat.le_refl _) (.slice a3 l.length c3))
      have HR4 : Hid (∀ j, j < k + 1 → RI (w3.setCell ⟨w.heap.size, k, none⟩ (.slice a3 l.length c3)) (w.heap.size + 1) ((fun j => if j = k then .slice a3 l.length c3 else f j) j) (ups.getD j [])) := Lib.hid (fun j hj => by
        by_cases ej : j = k
        · subst ej
          simp only [if_true]
          rw [HUP.out]
          exact B4.row (R3.lower hsz) (fun g hg e => by have := ((R3.lower hsz).lt g hg).1; simp at e; omega)
        · simp only [if_neg ej]
          have R := (HR.out j (by omega)).ext X3
          exact B4.row R (fun g hg e => by have := (World.ownsRow.lt R g hg).1; simp at e; omega))
      clear R3 V3 B4 HR HV
      go_wp2
      exact ⟨⟨k + 1, by omega, by go_num, HX4.out, _, HV4.out, HR4⟩, by simp [intOf]; omega⟩
    · obtain rfl : k = n := by omega
      have HG2 := Lib.hid (HG.out wr f hV HR.out hx)
      clear hV HR
      go_wp2
      exact HG2.out
end Go.Proofs.YtkmfamidahlgiaaGreatDoor

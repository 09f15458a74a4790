/- Graphs copied into memory of their own, beside blocks of other element types. -/
import Derived.Test.YtkmfamidahlgiaaGreatDoorGrCopy
namespace Go.Proofs.YtkmfamidahlgiaaGreatDoor
open Go.RowKit
set_option linter.unusedVariables false
set_option maxHeartbeats 1000000
/-- lists in memory of their own: the rows' element types are known -/
def OwnL (W : World) (u : Value) (ups : List (List Int)) : Prop :=
  ∃ (b : Nat) (f : Nat → Value) (cur : Array Value), u = .slice (some ⟨b, 0, none⟩) ups.length ups.length ∧ W.heap[b]? = some (.cells cur 35 (0, 0)) ∧ (∀ j, j < ups.length → W.cell? ⟨b, j, none⟩ = some (f j)) ∧ ∀ j, j < ups.length → RI W 0 (f j) (ups.getD j [])
theorem OwnL.lists {W : World} {u : Value} {ups : List (List Int)} (h : OwnL W u ups) : ListsV W u ups := by
  obtain ⟨b, f, cur, rfl, _, hc, hr⟩ := h
  exact ⟨_, _, rfl, fun j hj => ⟨b, 0, f j, rfl, by rw [Nat.zero_add]; exact hc j hj, (hr j hj).ints, (hr j hj).cap⟩⟩
theorem OwnL.but {W W' : World} {u : Value} {ups : List (List Int)} {S : Nat → Prop} (h : OwnL W u ups) (hb : But S W W') (hS : ∀ g, S g → g < W.heap.size → ∃ cur e fz, W.heap[g]? = some (.cells cur e fz) ∧ e ≠ 35 ∧ e ≠ 3) : OwnL W' u ups := by
  obtain ⟨b, f, cur, rfl, hg, hc, hr⟩ := h
  have off : ∀ g cur' (e : Nat) fz, W.heap[g]? = some (.cells cur' e fz) → (e = 35 ∨ e = 3) → ¬ S g := by
    intro g cur' e fz hg hne hs
    obtain ⟨c2, e2, z2, h2, n1, n2⟩ := hS g hs (Array.getElem?_eq_some_iff.1 hg).1
    rw [hg] at h2
    cases h2
    rcases hne with h | h
    · exact n1 h
    · exact n2 h
  have hb0 := off b _ _ _ hg (.inl rfl)
  refine ⟨b, f, cur, rfl, hb.heap hg hb0, fun j hj => hb.cell (hc j hj) hb0, fun j hj => ?_⟩
  refine hb.row (hr j hj) fun g hg' => ?_
  rcases (hr j hj).2 with ⟨e, _⟩ | ⟨g', cap', cur', e, _, hgo, _⟩
  · rw [e] at hg'; cases hg'
  · rw [e] at hg'
    cases hg'
    exact off _ _ _ _ hgo (.inr rfl)
theorem OwnL.ext {W W' : World} {u : Value} {ups : List (List Int)} (h : OwnL W u ups) (hx : Ext W W') : OwnL W' u ups := h.but (hx.but (fun _ => False)) (fun _ h => h.elim)
def CopyO (w : World) (ups : List (List Int)) (e : Ending) (w' : World) : Prop := ∃ b, e = .returned (.slice (some ⟨b, 0, none⟩) ups.length ups.length) ∧ OwnL w' (.slice (some ⟨b, 0, none⟩) ups.length ups.length) ups ∧ Ext w w'
theorem gCopyO (v : Value) (ups : List (List Int)) (w : World) (hL : ListsV w v ups) (hll : ∀ l ∈ ups, l.length ≤ 1000000) (hn : ups.length ≤ 1000000) : Calls Tryz.prog 52 #[v] w (CopyO w ups) := by
  obtain ⟨a, cap, e, -⟩ := id hL
  subst e
  have HL := Lib.hid hL
  have HLL := Lib.hid hll
  obtain ⟨n, hN⟩ : ∃ n, n = ups.length := ⟨_, rfl⟩
  have HG : Hid (∀ (W : World) (f : Nat → Value) cur, W.heap[w.heap.size]? = some (.cells cur 35 (0, 0)) → VA n W w.heap.size f → (∀ j, j < n → RI W (w.heap.size + 1) (f j) (ups.getD j [])) → Ext w W → CopyO w ups (.returned (.slice (some ⟨w.heap.size, 0, none⟩) n n)) W) := Lib.hid (fun W f cur hh hV hR hX => by
    rw [hN]
    exact ⟨_, rfl, ⟨_, f, cur, rfl, hh, fun j hj => hV.c j (by omega), fun j hj => (hR j (by omega)).lower (Nat.zero_le _)⟩, hX⟩)
  generalize CopyO w ups = G at *
  rw [← hN]
  rw [← hN] at hn
  have HE := Lib.hid hN
  clear hL hll hN
  have hmk := fun W => run_make_row' (P := Tryz.prog) 23 35 (.slice none 0 0) 24 Tryz.underlying23 info_ints9 rfl .i64 .i64 n (by omega) (by omega) W
  go_enter Tryz.func52, Tryz.ntmps52
  go_wp2
  have hV0 := va_new (n := n) w 35 (madeCells #[.slice none 0 0] n) (fun _ => .slice none 0 0) (made_vl _ rfl n)
  have X0 : Ext w (w.alloc (.cells (madeCells #[.slice none 0 0] n) 35)) := (Ext.refl w).alloc _
  have hh0 : (w.alloc (.cells (madeCells #[.slice none 0 0] n) 35)).heap[w.heap.size]? = some (.cells (madeCells #[.slice none 0 0] n) 35 (0, 0)) := World.alloc_heap_new w _
  generalize w.alloc (.cells (madeCells #[.slice none 0 0] n) 35) = w1 at *
  have HV0 := Lib.hid hV0
  have HX0 := Lib.hid X0
  have HH0 := Lib.hid hh0
  clear hV0 X0 hmk hh0
  go_loopw [11] (fun i wr => ∃ k : Nat, k ≤ n ∧ i = .int .i64 k ∧ Ext w wr ∧ ∃ f cur, wr.heap[w.heap.size]? = some (.cells cur 35 (0, 0)) ∧ VA n wr w.heap.size f ∧ Hid (∀ j, j < k → RI wr (w.heap.size + 1) (f j) (ups.getD j []))) (fun i _ => n - (intOf i).toNat)
  case atStart => exact ⟨0, Nat.zero_le _, rfl, HX0.out, _, _, HH0.out, HV0.out, Lib.hid fun j hj => by omega⟩
  case round =>
    obtain ⟨k, hk, rfl, hx, f, cur, hh, hV, HR⟩ := hrel
    have HH := Lib.hid hh
    clear hh
    by_cases hlt : k < n
    · have hku : k < ups.length := by have := HE.out; omega
      have hkn : (k : Int) < (n : Int) := by omega
      obtain ⟨b, off, u, cu, ha, q, hI⟩ := HL.out.at hx hku
      subst ha
      have hlen : (ups.getD k []).length ≤ 1000000 := HLL.out _ (by rw [show ups.getD k [] = ups[k] by simp [hku]]; exact List.getElem_mem hku)
      have C := Lib.hid (gClone _ _ wr hI hlen)
      have HV := Lib.hid hV
      have hsz : w.heap.size + 1 ≤ wr.heap.size := by
        exact World.block_lt_of_cell? wr _ (hV.c k hlt)
      generalize hup : ups.getD k [] = l at *
      have HUP := Lib.hid hup
      clear hI hku hV hup
      generalize hll : l.length = m at *
      have HLM := Lib.hid hll
      clear hll
      go_wp2_with fail
      refine C.out.mono ?_
      rintro e w3 ⟨v3, rfl, R3, X3⟩
      obtain ⟨a3, c3, e3, -⟩ := R3.ints.form
      subst e3
      have V3 := HV.out.ext X3
      have q3 := V3.c k hlt
      have z3 := V3.z k hlt
      have B4 := but_setCell w3 ⟨w.heap.size, k, none⟩ (.slice a3 l.length c3)
      have HV4 := Lib.hid (va_set V3 (.slice a3 l.length c3) hlt)
      have HX4 := Lib.hid ((hx.trans X3).setCell (p := ⟨w.heap.size, k, none⟩) (Nat.le_refl _) (.slice a3 l.length c3))
      have HH4 := Lib.hid (heap_setCell_same w3 w.heap.size k cur 35 (.slice a3 l.length c3) ((X3.but (fun _ => False)).heap HH.out id))
      have HR4 : Hid (∀ j, j < k + 1 → RI (w3.setCell ⟨w.heap.size, k, none⟩ (.slice a3 l.length c3)) (w.heap.size + 1) ((fun j => if j = k then .slice a3 l.length c3 else f j) j) (ups.getD j [])) := Lib.hid (fun j hj => by
        by_cases ej : j = k
        · subst ej
          simp only [if_true]
          rw [HUP.out]
          exact B4.row (R3.lower hsz) (fun g hg e => by have := ((R3.lower hsz).lt g hg).1; simp at e; omega)
        · simp only [if_neg ej]
          have R := (HR.out j (by omega)).ext X3
          exact B4.row R (fun g hg e => by have := (World.ownsRow.lt R g hg).1; simp at e; omega))
      clear R3 V3 B4 HR HV
      go_wp2
      exact ⟨⟨k + 1, by omega, by go_num, HX4.out, _, _, HH4.out, HV4.out, HR4⟩, by simp [intOf]; omega⟩
    · obtain rfl : k = n := by omega
      have HG2 := Lib.hid (HG.out wr f cur HH.out hV HR.out hx)
      clear hV HR
      go_wp2
      exact HG2.out
end Go.Proofs.YtkmfamidahlgiaaGreatDoor

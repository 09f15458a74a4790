/- Graphs copied into memory of their own, beside rows of configurations; which configurations there are. -/
import Derived.Test.YtlalkefbcddbfabGrCopy
import Derived.Test.YtlalkefbcddbfabCf5
import Derived.Test.YtlalkefbcddbfabCf6
namespace Go.Proofs.Ytlalkefbcddbfab
open Go.RowKit
set_option linter.unusedVariables false
set_option maxHeartbeats 1000000
/-- lists in memory of their own: the rows' element types are known -/
def OwnL (W : World) (u : Value) (ups : List (List Int)) : Prop :=
  ∃ (b : Nat) (f : Nat → Value) (cur : Array Value), u = .slice (some ⟨b, 0, none⟩) ups.length ups.length ∧ W.heap[b]? = some (.cells cur 40 (0, 0)) ∧ (∀ j, j < ups.length → W.cell? ⟨b, j, none⟩ = some (f j)) ∧ ∀ j, j < ups.length → RI W 0 (f j) (ups.getD j [])
theorem OwnL.lists {W : World} {u : Value} {ups : List (List Int)} (h : OwnL W u ups) : ListsV W u ups := by
  obtain ⟨b, f, cur, rfl, _, hc, hr⟩ := h
  exact ⟨_, _, rfl, fun j hj => ⟨b, 0, f j, rfl, by rw [Nat.zero_add]; exact hc j hj, (hr j hj).ints, (hr j hj).cap⟩⟩
theorem OwnL.but {W W' : World} {u : Value} {ups : List (List Int)} {S : Nat → Prop} (h : OwnL W u ups) (hb : But S W W') (hS : ∀ g, S g → g < W.heap.size → ∃ cur fz, W.heap[g]? = some (.cells cur 25 fz)) : OwnL W' u ups := by
  obtain ⟨b, f, cur, rfl, hg, hc, hr⟩ := h
  have off : ∀ g cur' (e : Nat) fz, W.heap[g]? = some (.cells cur' e fz) → e ≠ 25 → ¬ S g := by
    intro g cur' e fz hg hne hs
    obtain ⟨c2, z2, h2⟩ := hS g hs (Array.getElem?_eq_some_iff.1 hg).1
    rw [hg] at h2
    cases h2
    exact hne rfl
  have hb0 := off b _ _ _ hg (by decide)
  refine ⟨b, f, cur, rfl, hb.heap hg hb0, fun j hj => hb.cell (hc j hj) hb0, fun j hj => ?_⟩
  refine hb.row (hr j hj) fun g hg' => ?_
  rcases (hr j hj).2 with ⟨e, _⟩ | ⟨g', cap', cur', e, _, hgo, _⟩
  · rw [e] at hg'; cases hg'
  · rw [e] at hg'
    cases hg'
    exact off _ _ _ _ hgo (by decide)
theorem OwnL.ext {W W' : World} {u : Value} {ups : List (List Int)} (h : OwnL W u ups) (hx : Ext W W') : OwnL W' u ups := h.but (hx.but (fun _ => False)) (fun _ h => h.elim)
def CopyO (w : World) (ups : List (List Int)) (e : Ending) (w' : World) : Prop := ∃ b, e = .returned (.slice (some ⟨b, 0, none⟩) ups.length ups.length) ∧ OwnL w' (.slice (some ⟨b, 0, none⟩) ups.length ups.length) ups ∧ Ext w w'
theorem gCopyO (v : Value) (ups : List (List Int)) (w : World) (hL : ListsV w v ups) (hll : ∀ l ∈ ups, l.length ≤ 1000000) (hn : ups.length ≤ 1000000) : Calls Try.prog 48 #[v] w (CopyO w ups) := by
  obtain ⟨a, cap, e, -⟩ := id hL
  subst e
  have HL := Lib.hid hL
  have HLL := Lib.hid hll
  obtain ⟨n, hN⟩ : ∃ n, n = ups.length := ⟨_, rfl⟩
  have HG : Hid (∀ (W : World) (f : Nat → Value) cur, W.heap[w.heap.size]? = some (.cells cur 40 (0, 0)) → VA n W w.heap.size f → (∀ j, j < n → RI W (w.heap.size + 1) (f j) (ups.getD j [])) → Ext w W → CopyO w ups (.returned (.slice (some ⟨w.heap.size, 0, none⟩) n n)) W) := Lib.hid (fun W f cur hh hV hR hX => by
    rw [hN]
    exact ⟨_, rfl, ⟨_, f, cur, rfl, hh, fun j hj => hV.c j (by omega), fun j hj => (hR j (by omega)).lower (Nat.zero_le _)⟩, hX⟩)
  generalize CopyO w ups = G at *
  rw [← hN]
  rw [← hN] at hn
  have HE := Lib.hid hN
  clear hL hll hN
  have hmk := fun W => run_make_row' (P := Try.prog) 23 40 (.slice none 0 0) 24 Try.underlying23 info_ints9 rfl .i64 .i64 n (by omega) (by omega) W
  go_enter Try.func48, Try.ntmps48
  go_wp2
  have hV0 := va_new (n := n) w 40 (madeCells #[.slice none 0 0] n) (fun _ => .slice none 0 0) (made_vl _ rfl n)
  have X0 : Ext w (w.alloc (.cells (madeCells #[.slice none 0 0] n) 40)) := (Ext.refl w).alloc _
  have hh0 : (w.alloc (.cells (madeCells #[.slice none 0 0] n) 40)).heap[w.heap.size]? = some (.cells (madeCells #[.slice none 0 0] n) 40 (0, 0)) := World.alloc_heap_new w _
  generalize w.alloc (.cells (madeCells #[.slice none 0 0] n) 40) = w1 at *
  have HV0 := Lib.hid hV0
  have HX0 := Lib.hid X0
  have HH0 := Lib.hid hh0
  clear hV0 X0 hmk hh0
  go_loopw [11] (fun i wr => ∃ k : Nat, k ≤ n ∧ i = .int .i64 k ∧ Ext w wr ∧ ∃ f cur, wr.heap[w.heap.size]? = some (.cells cur 40 (0, 0)) ∧ VA n wr w.heap.size f ∧ Hid (∀ j, j < k → RI wr (w.heap.size + 1) (f j) (ups.getD j []))) (fun i _ => n - (intOf i).toNat)
  case atStart => exact ⟨0, Nat.zero_le _, rfl, HX0.out, _, _, HH0.out, HV0.out, Lib.hid fun j hj => by omega⟩
  case round =>
    obtain ⟨k, hk, rfl, hx, f, cur, hh, hV, HR⟩ := hrel
    have HH := Lib.hid hh
    clear hh
    by_cases hlt : k < n
    · have hku : k < ups.length := by have := HE.out; omega
      have hkn : (k : Int) < (n : Int) := by omega
      obtain ⟨b, off, u, cu, ha, q, hI⟩ := HL.out.at hx hku
      subst ha
      have hlen : (ups.getD k []).length ≤ 1000000 := HLL.out _ (by rw [show ups.getD k [] = ups[k] by simp [hku]]; exact List.getElem_mem hku)
      have C := Lib.hid (gClone _ _ wr hI hlen)
      have HV := Lib.hid hV
      have hsz : w.heap.size + 1 ≤ wr.heap.size := by
        exact World.block_lt_of_cell? wr _ (hV.c k hlt)
      generalize hup : ups.getD k [] = l at *
      have HUP := Lib.hid hup
      clear hI hku hV hup
      generalize hll : l.length = m at *
      have HLM := Lib.hid hll
      clear hll
      go_wp2_with fail
      refine C.out.mono ?_
      rintro e w3 ⟨v3, rfl, R3, X3⟩
      obtain ⟨a3, c3, e3, -⟩ := R3.ints.form
      subst e3
      have V3 := HV.out.ext X3
      have q3 := V3.c k hlt
      have z3 := V3.z k hlt
      have B4 := but_setCell w3 ⟨w.heap.size, k, none⟩ (.slice a3 l.length c3)
      have HV4 := Lib.hid (va_set V3 (.slice a3 l.length c3) hlt)
      have HX4 := Lib.hid ((hx.trans X3).setCell (p := ⟨w.heap.size, k, none⟩) (Nat.le_refl _) (.slice a3 l.length c3))
      have HH4 := Lib.hid (heap_setCell_same w3 w.heap.size k cur 40 (.slice a3 l.length c3) ((X3.but (fun _ => False)).heap HH.out id))
      have HR4 : Hid (∀ j, j < k + 1 → RI (w3.setCell ⟨w.heap.size, k, none⟩ (.slice a3 l.length c3)) (w.heap.size + 1) ((fun j => if j = k then .slice a3 l.length c3 else f j) j) (ups.getD j [])) := Lib.hid (fun j hj => by
        by_cases ej : j = k
        · subst ej
          simp only [if_true]
          rw [HUP.out]
          exact B4.row (R3.lower hsz) (fun g hg e => by have := ((R3.lower hsz).lt g hg).1; simp at e; omega)
        · simp only [if_neg ej]
          have R := (HR.out j (by omega)).ext X3
          exact B4.row R (fun g hg e => by have := (World.ownsRow.lt R g hg).1; simp at e; omega))
      clear R3 V3 B4 HR HV
      go_wp2
      exact ⟨⟨k + 1, by omega, by go_num, HX4.out, _, _, HH4.out, HV4.out, HR4⟩, by simp [intOf]; omega⟩
    · obtain rfl : k = n := by omega
      have HG2 := Lib.hid (HG.out wr f cur HH.out hV HR.out hx)
      clear hV HR
      go_wp2
      exact HG2.out
/-! which configurations there are -/
def allT : List (Int × Int) := [(1, 32), (1, 64), (2, 32), (2, 64), (3, 32), (3, 64), (4, 32), (4, 64), (5, 32), (5, 64)]
def tg (P : Int) (m : Nat) : List (Int × Int) := (allT.take m).filter fun p => decide (P ≤ mostOf p.1)
theorem tg_step {P : Int} {m : Nat} {p : Int × Int} (hp : allT[m]? = some p) : tg P (m + 1) = if P ≤ mostOf p.1 then tg P m ++ [p] else tg P m := by
  obtain ⟨hm, rfl⟩ := List.getElem?_eq_some_iff.1 hp
  unfold tg
  rw [List.take_succ_eq_append_getElem hm, List.filter_append]
  by_cases h : P ≤ mostOf (allT[m]).1
  · rw [if_pos h]; simp [h]
  · rw [if_neg h]; simp [h]
theorem tg_len (P : Int) (m : Nat) : (tg P m).length ≤ 10 := by
  unfold tg
  refine Nat.le_trans (List.length_filter_le _ _) ?_
  rw [List.length_take]
  exact Nat.min_le_right _ _
theorem tg_mem {P : Int} {m : Nat} {p : Int × Int} (h : p ∈ tg P m) : 1 ≤ p.1 ∧ p.1 ≤ 5 ∧ (p.2 = 32 ∨ p.2 = 64) ∧ P ≤ mostOf p.1 := by
  unfold tg at h
  rw [List.mem_filter] at h
  have h1 := List.mem_of_mem_take h.1
  have h2 : P ≤ mostOf p.1 := by simpa using h.2
  have : ∀ q ∈ allT, 1 ≤ q.1 ∧ q.1 ≤ 5 ∧ (q.2 = 32 ∨ q.2 = 64) := by decide
  obtain ⟨a, b, c⟩ := this p h1
  exact ⟨a, b, c, h2⟩
theorem tg_count {P : Int} (h1 : 1 ≤ P) (h4 : P ≤ 4) : (tg P 10).length = if P = 1 then 10 else 8 := by
  have : P = 1 ∨ P = 2 ∨ P = 3 ∨ P = 4 := by omega
  rcases this with rfl | rfl | rfl | rfl <;> decide
theorem ok_other {V W C P : Int} {ups : List (List Int)} (ok : Ok V W C P ups) {V' W' : Int} (h1 : 1 ≤ V') (h5 : V' ≤ 5) (hW : W' = 32 ∨ W' = 64) : ckC V' W' C P ups = 0 ↔ P ≤ mostOf V' := by
  rw [ok_iff]
  exact ⟨fun h => h.pm, fun h => ⟨h1, h5, hW, ok.rc, ok.c2, ok.c64, ok.p1, ok.p4, h, ok.rt⟩⟩
/-- a configuration's cells -/
def cc (C P S : Int) (p : Int × Int) (u : Value) : List Value := [.int .i64 p.1, .int .i64 p.2, .int .i64 C, .int .i64 P, .int .u64 S, u]
/-- rows of configurations -/
def rowT (C P S : Int) : List (Int × Int) → List Value → List Value
  | p :: ps, u :: us => cc C P S p u ++ rowT C P S ps us
  | _, _ => []
theorem rowT_len (C P S : Int) : ∀ (ps : List (Int × Int)) (us : List Value), us.length = ps.length → (rowT C P S ps us).length = ps.length * 6
  | [], [], _ => rfl
  | p :: ps, u :: us, h => by
    rw [rowT, List.length_append, rowT_len C P S ps us (by simpa using h)]
    simp [cc]
    omega
  | [], _ :: _, h => by simp at h
  | _ :: _, [], h => by simp at h
theorem rowT_snoc (C P S : Int) (q : Int × Int) (v : Value) : ∀ (ps : List (Int × Int)) (us : List Value), us.length = ps.length → rowT C P S (ps ++ [q]) (us ++ [v]) = rowT C P S ps us ++ cc C P S q v
  | [], [], _ => by simp [rowT]
  | p :: ps, u :: us, h => by
    simp only [List.cons_append, rowT]
    rw [rowT_snoc C P S q v ps us (by simpa using h), List.append_assoc]
  | [], _ :: _, h => by simp at h
  | _ :: _, [], h => by simp at h
theorem rowT_at (C P S : Int) : ∀ (ps : List (Int × Int)) (us : List Value) (i : Nat) (p : Int × Int) (u : Value) (j : Nat), us.length = ps.length → ps[i]? = some p → us[i]? = some u → j < 6 → (rowT C P S ps us)[i * 6 + j]? = (cc C P S p u)[j]?
  | p0 :: ps, u0 :: us, i, p, u, j, h, hp, hu, hj => by
    rw [rowT]
    cases i with
    | zero =>
      simp at hp hu
      subst hp hu
      rw [Nat.zero_mul, Nat.zero_add, List.getElem?_append_left (by simp [cc]; omega)]
    | succ i =>
      rw [List.getElem?_append_right (by simp [cc]; omega)]
      have := rowT_at C P S ps us i p u j (by simpa using h) (by simpa using hp) (by simpa using hu) hj
      rw [show (i + 1) * 6 + j - (cc C P S p0 u0).length = i * 6 + j by simp [cc]; omega]
      exact this
  | [], _, i, p, u, j, h, hp, hu, hj => by simp at hp
  | _ :: _, [], i, p, u, j, h, hp, hu, hj => by simp at hu
theorem info_conf : (Try.prog.info? 25).map (fun i => (i.zero, i.size, i.bytes)) = some (some (.agg #[.int .i64 0, .int .i64 0, .int .i64 0, .int .i64 0, .int .u64 0, .slice none 0 0]), 6, 64) := by kernel_rfl
end Go.Proofs.Ytlalkefbcddbfab

/- layout.Of. -/
import Derived.Test.YtkmfamidahlgiaaGreatDoorLy
import Derived.Test.YtkmfamidahlgiaaGreatDoorCf3
import Derived.Test.YtkmfamidahlgiaaGreatDoorOwnG
namespace Go.Proofs.YtkmfamidahlgiaaGreatDoor
open Go.RowKit
set_option linter.unusedVariables false
set_option maxHeartbeats 2000000
set_option linter.unusedSimpArgs false
attribute [local go_sem] later_cell later_frozen later_const
theorem set_some {w : World} {a b : Addr} {v : Value} (h : (w.cell? b).isSome = true) : ((w.setCell a v).cell? b).isSome = true := by
  obtain ⟨u, hu⟩ := Option.isSome_iff_exists.1 h
  by_cases e : a = b
  · subst e; rw [World.cell?_setCell_same _ _ _ hu]; rfl
  · rw [World.cell?_setCell_other _ _ _ _ e, hu]; rfl
theorem set_same {w : World} {a : Addr} {v : Value} (h : (w.cell? a).isSome = true) : (w.setCell a v).cell? a = some v := by
  obtain ⟨u, hu⟩ := Option.isSome_iff_exists.1 h
  exact World.cell?_setCell_same _ _ _ hu
attribute [local go_sem] set_some set_same
/-- a block's element type -/
def Tag (w : World) (b t : Nat) : Prop := ∃ cur, w.heap[b]? = some (.cells cur t (0, 0))
theorem Tag.ext {w w' : World} {b t : Nat} (h : Tag w b t) (hx : Ext w w') : Tag w' b t := by
  obtain ⟨cur, h⟩ := h
  exact ⟨cur, (hx.but (fun _ => False)).heap h id⟩
theorem Tag.new (w : World) (cs : Array Value) (t : Nat) : Tag (w.alloc (.cells cs t)) w.heap.size t := ⟨cs, World.alloc_heap_new w _⟩
theorem Tag.set {w : World} {b t g k : Nat} {v : Value} (h : Tag w b t) : Tag (w.setCell ⟨g, k, none⟩ v) b t := by
  obtain ⟨cur, h⟩ := h
  by_cases e : b = g
  · subst e; exact ⟨_, heap_setCell_same w b k cur t v h⟩
  · exact ⟨cur, (but_setCell w ⟨g, k, none⟩ v).heap h (by simpa using e)⟩
theorem OwnL.set {w : World} {u : Value} {ups : List (List Int)} {g k t : Nat} {v : Value} (h : OwnL w u ups) (ht : Tag w g t) (h1 : t ≠ 35) (h2 : t ≠ 3) : OwnL (w.setCell ⟨g, k, none⟩ v) u ups := by
  obtain ⟨cur, ht⟩ := ht
  refine h.but (but_setCell w ⟨g, k, none⟩ v) fun g' hg' _ => ?_
  have : g' = g := by simpa using hg'
  subst this
  exact ⟨cur, t, _, ht, h1, h2⟩
/-- the numbers of a layout -/
def nCu (V n : Int) : Int := if V = 1 then n else -1
def nCl (V n : Int) : Int := if V = 1 ∨ V = 5 then -1 else n
def nTi (V n : Int) : Int := if V = 5 then n else -1
def nSe (V n : Int) : Int := if V = 5 then n + 1 else -1
def nNe (V n : Int) : Int := if V = 5 then n + 2 else -1
def nMa (V n : Int) : Int := if V = 1 then -1 else if V = 5 then n + 3 else n + 1
def nSl (V n C : Int) : Int := if V = 1 then n + 1 else if V = 5 then n + 3 + C else n + 1 + C
def nCe (V n C : Int) : Int := nSl V n C + C
def layV (V W C P S : Int) (u : Value) (n : Int) : Value := (.agg #[.int .i64 V, .int .i64 W, .int .i64 C, .int .i64 P, .int .u64 S, u, .int .i64 (nCu V n), .int .i64 (nCl V n), .int .i64 (nTi V n), .int .i64 (nSe V n), .int .i64 (nNe V n), .int .i64 (nMa V n), .int .i64 (nSl V n C), .int .i64 (nCe V n C)])
def OfDoes (V W C P S : Int) (ups : List (List Int)) (w : World) (e : Ending) (w' : World) : Prop :=
  ∃ u, e = .returned (.tuple #[layV V W C P S u ups.length, .int .i64 0]) ∧ OwnL w' u ups ∧ Ext w w'
set_option maxRecDepth 100000 in
theorem lOf_no (V W C P S : Int) (u : Value) (ups : List (List Int)) (w : World) (hL : ListsV w u ups) (hll : ∀ l ∈ ups, l.length ≤ 1000000) (hn : ups.length ≤ 1000000) (hg : ¬ ckC V W C P ups = 0) :
    Calls Tryz.prog 11 #[(.agg #[.int .i64 V, .int .i64 W, .int .i64 C, .int .i64 P, .int .u64 (S), u])] w fun e w' => e = .returned (.tuple #[(.agg #[.int .i64 0, .int .i64 0, .int .i64 0, .int .i64 0, .int .u64 0, .slice none 0 0, .int .i64 0, .int .i64 0, .int .i64 0, .int .i64 0, .int .i64 0, .int .i64 0, .int .i64 0, .int .i64 0]), .int .i64 (ckC V W C P ups)]) ∧ Ext w w' := by
  obtain ⟨a, cap, e, -⟩ := id hL
  subst e
  have CG := Lib.hid (fun w' (hx : Ext w w') => cCheck V W C P S _ ups w' (hL.ext hx) hll hn)
  clear hL hll
  have kg : (ckC V W C P ups == 0) = false := by simpa using hg
  generalize ckC V W C P ups = g at *
  generalize ups.length = n at *
  clear hg
  go_enter Tryz.func11, Tryz.ntmps11
  go_wp2_with fail
  refine (CG.out _ (by repeat (first | with_reducible exact Ext.refl _ | with_reducible assumption | with_reducible refine Ext.alloc ?_ _ | with_reducible refine Ext.drew ?_ | with_reducible refine Ext.drewN ?_ _ | with_reducible refine Ext.setCell ?_ (by simp <;> omega) _ | with_reducible refine Ext.trans ?_ (by assumption)))).mono ?_
  rintro e w1 ⟨rfl, hb1⟩
  obtain ⟨hc1, hf1⟩ := hb1.cells
  clear hc1 hf1
  have qr_0 : w1.cell? ⟨(w.heap.size + 1), 0, none⟩ = some (.int .i64 0) := (hb1.cells.1 _ _ (by simp <;> omega)).trans (by simp [go_sem])
  have zr_0 : w1.frozen? ⟨(w.heap.size + 1), 0, none⟩ = false := (hb1.cells.2 _ _ (by simp <;> omega)).trans (by simp [go_sem])
  have qr_1 : w1.cell? ⟨(w.heap.size + 1), 1, none⟩ = some (.int .i64 0) := (hb1.cells.1 _ _ (by simp <;> omega)).trans (by simp [go_sem])
  have zr_1 : w1.frozen? ⟨(w.heap.size + 1), 1, none⟩ = false := (hb1.cells.2 _ _ (by simp <;> omega)).trans (by simp [go_sem])
  have qr_2 : w1.cell? ⟨(w.heap.size + 1), 2, none⟩ = some (.int .i64 0) := (hb1.cells.1 _ _ (by simp <;> omega)).trans (by simp [go_sem])
  have zr_2 : w1.frozen? ⟨(w.heap.size + 1), 2, none⟩ = false := (hb1.cells.2 _ _ (by simp <;> omega)).trans (by simp [go_sem])
  have qr_3 : w1.cell? ⟨(w.heap.size + 1), 3, none⟩ = some (.int .i64 0) := (hb1.cells.1 _ _ (by simp <;> omega)).trans (by simp [go_sem])
  have zr_3 : w1.frozen? ⟨(w.heap.size + 1), 3, none⟩ = false := (hb1.cells.2 _ _ (by simp <;> omega)).trans (by simp [go_sem])
  have qr_4 : w1.cell? ⟨(w.heap.size + 1), 4, none⟩ = some (.int .u64 0) := (hb1.cells.1 _ _ (by simp <;> omega)).trans (by simp [go_sem])
  have zr_4 : w1.frozen? ⟨(w.heap.size + 1), 4, none⟩ = false := (hb1.cells.2 _ _ (by simp <;> omega)).trans (by simp [go_sem])
  have qr_5 : w1.cell? ⟨(w.heap.size + 1), 5, none⟩ = some (.slice none 0 0) := (hb1.cells.1 _ _ (by simp <;> omega)).trans (by simp [go_sem])
  have zr_5 : w1.frozen? ⟨(w.heap.size + 1), 5, none⟩ = false := (hb1.cells.2 _ _ (by simp <;> omega)).trans (by simp [go_sem])
  have qr_6 : w1.cell? ⟨(w.heap.size + 1), 6, none⟩ = some (.int .i64 0) := (hb1.cells.1 _ _ (by simp <;> omega)).trans (by simp [go_sem])
  have zr_6 : w1.frozen? ⟨(w.heap.size + 1), 6, none⟩ = false := (hb1.cells.2 _ _ (by simp <;> omega)).trans (by simp [go_sem])
  have qr_7 : w1.cell? ⟨(w.heap.size + 1), 7, none⟩ = some (.int .i64 0) := (hb1.cells.1 _ _ (by simp <;> omega)).trans (by simp [go_sem])
  have zr_7 : w1.frozen? ⟨(w.heap.size + 1), 7, none⟩ = false := (hb1.cells.2 _ _ (by simp <;> omega)).trans (by simp [go_sem])
  have qr_8 : w1.cell? ⟨(w.heap.size + 1), 8, none⟩ = some (.int .i64 0) := (hb1.cells.1 _ _ (by simp <;> omega)).trans (by simp [go_sem])
  have zr_8 : w1.frozen? ⟨(w.heap.size + 1), 8, none⟩ = false := (hb1.cells.2 _ _ (by simp <;> omega)).trans (by simp [go_sem])
  have qr_9 : w1.cell? ⟨(w.heap.size + 1), 9, none⟩ = some (.int .i64 0) := (hb1.cells.1 _ _ (by simp <;> omega)).trans (by simp [go_sem])
  have zr_9 : w1.frozen? ⟨(w.heap.size + 1), 9, none⟩ = false := (hb1.cells.2 _ _ (by simp <;> omega)).trans (by simp [go_sem])
  have qr_10 : w1.cell? ⟨(w.heap.size + 1), 10, none⟩ = some (.int .i64 0) := (hb1.cells.1 _ _ (by simp <;> omega)).trans (by simp [go_sem])
  have zr_10 : w1.frozen? ⟨(w.heap.size + 1), 10, none⟩ = false := (hb1.cells.2 _ _ (by simp <;> omega)).trans (by simp [go_sem])
  have qr_11 : w1.cell? ⟨(w.heap.size + 1), 11, none⟩ = some (.int .i64 0) := (hb1.cells.1 _ _ (by simp <;> omega)).trans (by simp [go_sem])
  have zr_11 : w1.frozen? ⟨(w.heap.size + 1), 11, none⟩ = false := (hb1.cells.2 _ _ (by simp <;> omega)).trans (by simp [go_sem])
  have qr_12 : w1.cell? ⟨(w.heap.size + 1), 12, none⟩ = some (.int .i64 0) := (hb1.cells.1 _ _ (by simp <;> omega)).trans (by simp [go_sem])
  have zr_12 : w1.frozen? ⟨(w.heap.size + 1), 12, none⟩ = false := (hb1.cells.2 _ _ (by simp <;> omega)).trans (by simp [go_sem])
  have qr_13 : w1.cell? ⟨(w.heap.size + 1), 13, none⟩ = some (.int .i64 0) := (hb1.cells.1 _ _ (by simp <;> omega)).trans (by simp [go_sem])
  have zr_13 : w1.frozen? ⟨(w.heap.size + 1), 13, none⟩ = false := (hb1.cells.2 _ _ (by simp <;> omega)).trans (by simp [go_sem])
  have pr := World.block_lt_of_cell? _ ⟨(w.heap.size + 1), 0, none⟩ qr_0
  have rr := Nat.lt_succ_of_lt pr
  go_wp2
  refine bodyPost_ret (v := .tuple #[(.agg #[.int .i64 0, .int .i64 0, .int .i64 0, .int .i64 0, .int .u64 0, .slice none 0 0, .int .i64 0, .int .i64 0, .int .i64 0, .int .i64 0, .int .i64 0, .int .i64 0, .int .i64 0, .int .i64 0]), .int .i64 g]) (by simp [results, Tryz.results11, go_sem, qr_0, qr_1, qr_2, qr_3, qr_4, qr_5, qr_6, qr_7, qr_8, qr_9, qr_10, qr_11, qr_12, qr_13]) rfl ⟨rfl, ?_⟩
  repeat (first | with_reducible exact Ext.refl _ | with_reducible assumption | with_reducible refine Ext.alloc ?_ _ | with_reducible refine Ext.drew ?_ | with_reducible refine Ext.drewN ?_ _ | with_reducible refine Ext.setCell ?_ (by simp <;> omega) _ | with_reducible refine Ext.trans ?_ (by assumption))
set_option maxRecDepth 100000 in
theorem lOf_ok (V W C P S : Int) (u : Value) (ups : List (List Int)) (w : World) (hL : ListsV w u ups) (hll : ∀ l ∈ ups, l.length ≤ 1000000) (hn : ups.length ≤ 1000000) (hg : ckC V W C P ups = 0) :
    Calls Tryz.prog 11 #[(.agg #[.int .i64 V, .int .i64 W, .int .i64 C, .int .i64 P, .int .u64 (S), u])] w (OfDoes V W C P S ups w) := by
  obtain ⟨a, cap, e, -⟩ := id hL
  subst e
  have ok := ok_iff.1 hg
  have CG := fun w' (hx : Ext w w') => cCheck V W C P S _ ups w' (hL.ext hx) hll hn
  rw [hg] at CG
  replace CG := Lib.hid CG
  have CC := Lib.hid (fun w' (hx : Ext w w') => gCopyO _ ups w' (hL.ext hx) hll hn)
  have hc2 := ok.c2
  have hc64 := ok.c64
  have h6 := ok.rt.six
  clear hL hll hg ok
  have HG : Hid (∀ b w', OwnL w' (.slice (some ⟨b, 0, none⟩) ups.length ups.length) ups → Ext w w' → OfDoes V W C P S ups w (.returned (.tuple #[layV V W C P S (.slice (some ⟨b, 0, none⟩) ups.length ups.length) ups.length, .int .i64 0])) w') := Lib.hid (fun b w' h1 h2 => ⟨_, rfl, h1, h2⟩)
  unfold layV at HG
  generalize OfDoes V W C P S ups w = G at *
  obtain ⟨n, hN⟩ : ∃ n, n = ups.length := ⟨_, rfl⟩
  rw [← hN] at CG CC HG hn h6 ⊢
  have HN := Lib.hid hN
  clear hN
  go_enter Tryz.func11, Tryz.ntmps11
  go_wp2_with fail
  refine (CG.out _ (by repeat (first | with_reducible exact Ext.refl _ | with_reducible assumption | with_reducible refine Ext.alloc ?_ _ | with_reducible refine Ext.drew ?_ | with_reducible refine Ext.drewN ?_ _ | with_reducible refine Ext.setCell ?_ (by simp <;> omega) _ | with_reducible refine Ext.trans ?_ (by assumption)))).mono ?_
  rintro e w1 ⟨rfl, hb1⟩
  obtain ⟨hc1, hf1⟩ := hb1.cells
  clear hc1 hf1
  have qc_0 : w1.cell? ⟨w.heap.size, 0, none⟩ = some (.int .i64 V) := (hb1.cells.1 _ _ (by simp <;> omega)).trans (by simp [go_sem])
  have qc_1 : w1.cell? ⟨w.heap.size, 1, none⟩ = some (.int .i64 W) := (hb1.cells.1 _ _ (by simp <;> omega)).trans (by simp [go_sem])
  have qc_2 : w1.cell? ⟨w.heap.size, 2, none⟩ = some (.int .i64 C) := (hb1.cells.1 _ _ (by simp <;> omega)).trans (by simp [go_sem])
  have qc_3 : w1.cell? ⟨w.heap.size, 3, none⟩ = some (.int .i64 P) := (hb1.cells.1 _ _ (by simp <;> omega)).trans (by simp [go_sem])
  have qc_4 : w1.cell? ⟨w.heap.size, 4, none⟩ = some (.int .u64 (S)) := (hb1.cells.1 _ _ (by simp <;> omega)).trans (by simp [go_sem])
  have qc_5 : w1.cell? ⟨w.heap.size, 5, none⟩ = some (.slice a n cap) := (hb1.cells.1 _ _ (by simp <;> omega)).trans (by simp [go_sem])
  have pc := World.block_lt_of_cell? _ ⟨w.heap.size, 0, none⟩ qc_0
  have rc := Nat.lt_succ_of_lt pc
  have qr_0 : w1.cell? ⟨(w.heap.size + 1), 0, none⟩ = some (.int .i64 0) := (hb1.cells.1 _ _ (by simp <;> omega)).trans (by simp [go_sem])
  have zr_0 : w1.frozen? ⟨(w.heap.size + 1), 0, none⟩ = false := (hb1.cells.2 _ _ (by simp <;> omega)).trans (by simp [go_sem])
  have qr_1 : w1.cell? ⟨(w.heap.size + 1), 1, none⟩ = some (.int .i64 0) := (hb1.cells.1 _ _ (by simp <;> omega)).trans (by simp [go_sem])
  have zr_1 : w1.frozen? ⟨(w.heap.size + 1), 1, none⟩ = false := (hb1.cells.2 _ _ (by simp <;> omega)).trans (by simp [go_sem])
  have qr_2 : w1.cell? ⟨(w.heap.size + 1), 2, none⟩ = some (.int .i64 0) := (hb1.cells.1 _ _ (by simp <;> omega)).trans (by simp [go_sem])
  have zr_2 : w1.frozen? ⟨(w.heap.size + 1), 2, none⟩ = false := (hb1.cells.2 _ _ (by simp <;> omega)).trans (by simp [go_sem])
  have qr_3 : w1.cell? ⟨(w.heap.size + 1), 3, none⟩ = some (.int .i64 0) := (hb1.cells.1 _ _ (by simp <;> omega)).trans (by simp [go_sem])
  have zr_3 : w1.frozen? ⟨(w.heap.size + 1), 3, none⟩ = false := (hb1.cells.2 _ _ (by simp <;> omega)).trans (by simp [go_sem])
  have qr_4 : w1.cell? ⟨(w.heap.size + 1), 4, none⟩ = some (.int .u64 0) := (hb1.cells.1 _ _ (by simp <;> omega)).trans (by simp [go_sem])
  have zr_4 : w1.frozen? ⟨(w.heap.size + 1), 4, none⟩ = false := (hb1.cells.2 _ _ (by simp <;> omega)).trans (by simp [go_sem])
  have qr_5 : w1.cell? ⟨(w.heap.size + 1), 5, none⟩ = some (.slice none 0 0) := (hb1.cells.1 _ _ (by simp <;> omega)).trans (by simp [go_sem])
  have zr_5 : w1.frozen? ⟨(w.heap.size + 1), 5, none⟩ = false := (hb1.cells.2 _ _ (by simp <;> omega)).trans (by simp [go_sem])
  have qr_6 : w1.cell? ⟨(w.heap.size + 1), 6, none⟩ = some (.int .i64 0) := (hb1.cells.1 _ _ (by simp <;> omega)).trans (by simp [go_sem])
  have zr_6 : w1.frozen? ⟨(w.heap.size + 1), 6, none⟩ = false := (hb1.cells.2 _ _ (by simp <;> omega)).trans (by simp [go_sem])
  have qr_7 : w1.cell? ⟨(w.heap.size + 1), 7, none⟩ = some (.int .i64 0) := (hb1.cells.1 _ _ (by simp <;> omega)).trans (by simp [go_sem])
  have zr_7 : w1.frozen? ⟨(w.heap.size + 1), 7, none⟩ = false := (hb1.cells.2 _ _ (by simp <;> omega)).trans (by simp [go_sem])
  have qr_8 : w1.cell? ⟨(w.heap.size + 1), 8, none⟩ = some (.int .i64 0) := (hb1.cells.1 _ _ (by simp <;> omega)).trans (by simp [go_sem])
  have zr_8 : w1.frozen? ⟨(w.heap.size + 1), 8, none⟩ = false := (hb1.cells.2 _ _ (by simp <;> omega)).trans (by simp [go_sem])
  have qr_9 : w1.cell? ⟨(w.heap.size + 1), 9, none⟩ = some (.int .i64 0) := (hb1.cells.1 _ _ (by simp <;> omega)).trans (by simp [go_sem])
  have zr_9 : w1.frozen? ⟨(w.heap.size + 1), 9, none⟩ = false := (hb1.cells.2 _ _ (by simp <;> omega)).trans (by simp [go_sem])
  have qr_10 : w1.cell? ⟨(w.heap.size + 1), 10, none⟩ = some (.int .i64 0) := (hb1.cells.1 _ _ (by simp <;> omega)).trans (by simp [go_sem])
  have zr_10 : w1.frozen? ⟨(w.heap.size + 1), 10, none⟩ = false := (hb1.cells.2 _ _ (by simp <;> omega)).trans (by simp [go_sem])
  have qr_11 : w1.cell? ⟨(w.heap.size + 1), 11, none⟩ = some (.int .i64 0) := (hb1.cells.1 _ _ (by simp <;> omega)).trans (by simp [go_sem])
  have zr_11 : w1.frozen? ⟨(w.heap.size + 1), 11, none⟩ = false := (hb1.cells.2 _ _ (by simp <;> omega)).trans (by simp [go_sem])
  have qr_12 : w1.cell? ⟨(w.heap.size + 1), 12, none⟩ = some (.int .i64 0) := (hb1.cells.1 _ _ (by simp <;> omega)).trans (by simp [go_sem])
  have zr_12 : w1.frozen? ⟨(w.heap.size + 1), 12, none⟩ = false := (hb1.cells.2 _ _ (by simp <;> omega)).trans (by simp [go_sem])
  have qr_13 : w1.cell? ⟨(w.heap.size + 1), 13, none⟩ = some (.int .i64 0) := (hb1.cells.1 _ _ (by simp <;> omega)).trans (by simp [go_sem])
  have zr_13 : w1.frozen? ⟨(w.heap.size + 1), 13, none⟩ = false := (hb1.cells.2 _ _ (by simp <;> omega)).trans (by simp [go_sem])
  have pr := World.block_lt_of_cell? _ ⟨(w.heap.size + 1), 0, none⟩ qr_0
  have rr := Nat.lt_succ_of_lt pr
  have tr1 := Tag.ext (Tag.new _ _ _) hb1
  rw [show (w.alloc (.cells #[.int .i64 V, .int .i64 W, .int .i64 C, .int .i64 P, .int .u64 S, .slice a n cap] 25)).heap.size = w.heap.size + 1 by simp] at tr1
  go_wp2_with fail
  refine (CC.out _ (by repeat (first | with_reducible exact Ext.refl _ | with_reducible assumption | with_reducible refine Ext.alloc ?_ _ | with_reducible refine Ext.drew ?_ | with_reducible refine Ext.drewN ?_ _ | with_reducible refine Ext.setCell ?_ (by simp <;> omega) _ | with_reducible refine Ext.trans ?_ (by assumption)))).mono ?_
  rintro e w2 ⟨b2, rfl, O2, X2⟩
  rw [← HN.out] at O2 ⊢
  have X12 : Ext w1 w2 := Ext.trans ((Ext.refl w1).alloc _) X2
  have ql_0 : w2.cell? ⟨w1.heap.size, 0, none⟩ = some (.int .i64 V) := X2.cell (by simp [go_sem])
  have zl_0 : w2.frozen? ⟨w1.heap.size, 0, none⟩ = false := X2.frozen (v := .int .i64 V) (by simp [go_sem]) (by simp [go_sem])
  have ql_1 : w2.cell? ⟨w1.heap.size, 1, none⟩ = some (.int .i64 W) := X2.cell (by simp [go_sem])
  have zl_1 : w2.frozen? ⟨w1.heap.size, 1, none⟩ = false := X2.frozen (v := .int .i64 W) (by simp [go_sem]) (by simp [go_sem])
  have ql_2 : w2.cell? ⟨w1.heap.size, 2, none⟩ = some (.int .i64 C) := X2.cell (by simp [go_sem])
  have zl_2 : w2.frozen? ⟨w1.heap.size, 2, none⟩ = false := X2.frozen (v := .int .i64 C) (by simp [go_sem]) (by simp [go_sem])
  have ql_3 : w2.cell? ⟨w1.heap.size, 3, none⟩ = some (.int .i64 P) := X2.cell (by simp [go_sem])
  have zl_3 : w2.frozen? ⟨w1.heap.size, 3, none⟩ = false := X2.frozen (v := .int .i64 P) (by simp [go_sem]) (by simp [go_sem])
  have ql_4 : w2.cell? ⟨w1.heap.size, 4, none⟩ = some (.int .u64 S) := X2.cell (by simp [go_sem])
  have zl_4 : w2.frozen? ⟨w1.heap.size, 4, none⟩ = false := X2.frozen (v := .int .u64 S) (by simp [go_sem]) (by simp [go_sem])
  have ql_5 : w2.cell? ⟨w1.heap.size, 5, none⟩ = some (.slice a n cap) := X2.cell (by simp [go_sem])
  have zl_5 : w2.frozen? ⟨w1.heap.size, 5, none⟩ = false := X2.frozen (v := .slice a n cap) (by simp [go_sem]) (by simp [go_sem])
  have ql_6 : w2.cell? ⟨w1.heap.size, 6, none⟩ = some (.int .i64 (-1)) := X2.cell (by simp [go_sem])
  have zl_6 : w2.frozen? ⟨w1.heap.size, 6, none⟩ = false := X2.frozen (v := .int .i64 (-1)) (by simp [go_sem]) (by simp [go_sem])
  have ql_7 : w2.cell? ⟨w1.heap.size, 7, none⟩ = some (.int .i64 (-1)) := X2.cell (by simp [go_sem])
  have zl_7 : w2.frozen? ⟨w1.heap.size, 7, none⟩ = false := X2.frozen (v := .int .i64 (-1)) (by simp [go_sem]) (by simp [go_sem])
  have ql_8 : w2.cell? ⟨w1.heap.size, 8, none⟩ = some (.int .i64 (-1)) := X2.cell (by simp [go_sem])
  have zl_8 : w2.frozen? ⟨w1.heap.size, 8, none⟩ = false := X2.frozen (v := .int .i64 (-1)) (by simp [go_sem]) (by simp [go_sem])
  have ql_9 : w2.cell? ⟨w1.heap.size, 9, none⟩ = some (.int .i64 (-1)) := X2.cell (by simp [go_sem])
  have zl_9 : w2.frozen? ⟨w1.heap.size, 9, none⟩ = false := X2.frozen (v := .int .i64 (-1)) (by simp [go_sem]) (by simp [go_sem])
  have ql_10 : w2.cell? ⟨w1.heap.size, 10, none⟩ = some (.int .i64 (-1)) := X2.cell (by simp [go_sem])
  have zl_10 : w2.frozen? ⟨w1.heap.size, 10, none⟩ = false := X2.frozen (v := .int .i64 (-1)) (by simp [go_sem]) (by simp [go_sem])
  have ql_11 : w2.cell? ⟨w1.heap.size, 11, none⟩ = some (.int .i64 (-1)) := X2.cell (by simp [go_sem])
  have zl_11 : w2.frozen? ⟨w1.heap.size, 11, none⟩ = false := X2.frozen (v := .int .i64 (-1)) (by simp [go_sem]) (by simp [go_sem])
  have ql_12 : w2.cell? ⟨w1.heap.size, 12, none⟩ = some (.int .i64 0) := X2.cell (by simp [go_sem])
  have zl_12 : w2.frozen? ⟨w1.heap.size, 12, none⟩ = false := X2.frozen (v := .int .i64 0) (by simp [go_sem]) (by simp [go_sem])
  have ql_13 : w2.cell? ⟨w1.heap.size, 13, none⟩ = some (.int .i64 0) := X2.cell (by simp [go_sem])
  have zl_13 : w2.frozen? ⟨w1.heap.size, 13, none⟩ = false := X2.frozen (v := .int .i64 0) (by simp [go_sem]) (by simp [go_sem])
  replace zr_0 := X12.frozen qr_0 zr_0
  replace qr_0 := X12.cell qr_0
  replace zr_1 := X12.frozen qr_1 zr_1
  replace qr_1 := X12.cell qr_1
  replace zr_2 := X12.frozen qr_2 zr_2
  replace qr_2 := X12.cell qr_2
  replace zr_3 := X12.frozen qr_3 zr_3
  replace qr_3 := X12.cell qr_3
  replace zr_4 := X12.frozen qr_4 zr_4
  replace qr_4 := X12.cell qr_4
  replace zr_5 := X12.frozen qr_5 zr_5
  replace qr_5 := X12.cell qr_5
  replace zr_6 := X12.frozen qr_6 zr_6
  replace qr_6 := X12.cell qr_6
  replace zr_7 := X12.frozen qr_7 zr_7
  replace qr_7 := X12.cell qr_7
  replace zr_8 := X12.frozen qr_8 zr_8
  replace qr_8 := X12.cell qr_8
  replace zr_9 := X12.frozen qr_9 zr_9
  replace qr_9 := X12.cell qr_9
  replace zr_10 := X12.frozen qr_10 zr_10
  replace qr_10 := X12.cell qr_10
  replace zr_11 := X12.frozen qr_11 zr_11
  replace qr_11 := X12.cell qr_11
  replace zr_12 := X12.frozen qr_12 zr_12
  replace qr_12 := X12.cell qr_12
  replace zr_13 := X12.frozen qr_13 zr_13
  replace qr_13 := X12.cell qr_13
  replace qc_0 := X12.cell qc_0
  replace qc_1 := X12.cell qc_1
  replace qc_2 := X12.cell qc_2
  replace qc_3 := X12.cell qc_3
  replace qc_4 := X12.cell qc_4
  replace qc_5 := X12.cell qc_5
  have TL : Tag w2 w1.heap.size 31 := Tag.ext (Tag.new _ _ _) X2
  have TR : Tag w2 (w.heap.size + 1) 31 := Tag.ext tr1 X12
  have E2 : Ext w w2 := Ext.trans (by repeat (first | with_reducible exact Ext.refl _ | with_reducible assumption | with_reducible refine Ext.alloc ?_ _ | with_reducible refine Ext.drew ?_ | with_reducible refine Ext.drewN ?_ _ | with_reducible refine Ext.setCell ?_ (by simp <;> omega) _ | with_reducible refine Ext.trans ?_ (by assumption))) X2
  clear X2 X12 tr1
  by_cases hV1 : V = 1
  · subst hV1
    rw [show nCu 1 n = (n : Int) by simp [nCu, nCl, nTi, nSe, nNe, nMa, nSl, nCe]] at HG
    rw [show nCl 1 n = -1 by simp [nCu, nCl, nTi, nSe, nNe, nMa, nSl, nCe]] at HG
    rw [show nTi 1 n = -1 by simp [nCu, nCl, nTi, nSe, nNe, nMa, nSl, nCe]] at HG
    rw [show nSe 1 n = -1 by simp [nCu, nCl, nTi, nSe, nNe, nMa, nSl, nCe]] at HG
    rw [show nNe 1 n = -1 by simp [nCu, nCl, nTi, nSe, nNe, nMa, nSl, nCe]] at HG
    rw [show nMa 1 n = -1 by simp [nCu, nCl, nTi, nSe, nNe, nMa, nSl, nCe]] at HG
    rw [show nSl 1 n C = (n : Int) + 1 by simp [nCu, nCl, nTi, nSe, nNe, nMa, nSl, nCe]] at HG
    rw [show nCe 1 n C = (n : Int) + 1 + C by simp [nCu, nCl, nTi, nSe, nNe, nMa, nSl, nCe]] at HG
    go_wp2_with fail
    refine (lay w1.heap.size (0) (n) (n) _ (by omega) (by simp (maxDischargeDepth := 40) [go_sem, ql_13]) (by simp [go_sem, zl_13]) (by omega) (by omega) (by omega) (by omega)).mono ?_
    rintro e w' ⟨rfl, rfl⟩
    go_wp2_with fail
    refine (lay w1.heap.size (n) (1) (n + 1) _ (by omega) (by simp (maxDischargeDepth := 40) [go_sem, ql_13]) (by simp [go_sem, zl_13]) (by omega) (by omega) (by omega) (by omega)).mono ?_
    rintro e w' ⟨rfl, rfl⟩
    go_wp2_with fail
    refine (lay w1.heap.size (n + 1) (C) (n + 1 + C) _ (by omega) (by simp (maxDischargeDepth := 40) [go_sem, ql_13]) (by simp [go_sem, zl_13]) (by omega) (by omega) (by omega) (by omega)).mono ?_
    rintro e w' ⟨rfl, rfl⟩
    go_upto_region 18 with (fail)
    refine settle_wp ?_
    intro w3 hb3
    have l_0 : w3.cell? ⟨w1.heap.size, 0, none⟩ = some (.int .i64 (1)) := hb3.cell (by simp (maxDischargeDepth := 40) [go_sem, ql_0])
    have l_1 : w3.cell? ⟨w1.heap.size, 1, none⟩ = some (.int .i64 (W)) := hb3.cell (by simp (maxDischargeDepth := 40) [go_sem, ql_1])
    have l_2 : w3.cell? ⟨w1.heap.size, 2, none⟩ = some (.int .i64 (C)) := hb3.cell (by simp (maxDischargeDepth := 40) [go_sem, ql_2])
    have l_3 : w3.cell? ⟨w1.heap.size, 3, none⟩ = some (.int .i64 (P)) := hb3.cell (by simp (maxDischargeDepth := 40) [go_sem, ql_3])
    have l_4 : w3.cell? ⟨w1.heap.size, 4, none⟩ = some (.int .u64 (S)) := hb3.cell (by simp (maxDischargeDepth := 40) [go_sem, ql_4])
    have l_5 : w3.cell? ⟨w1.heap.size, 5, none⟩ = some (.slice (some ⟨b2, 0, none⟩) n n) := hb3.cell (by simp (maxDischargeDepth := 40) [go_sem, ql_5])
    have l_6 : w3.cell? ⟨w1.heap.size, 6, none⟩ = some (.int .i64 ((n : Int))) := hb3.cell (by simp (maxDischargeDepth := 40) [go_sem, ql_6])
    have l_7 : w3.cell? ⟨w1.heap.size, 7, none⟩ = some (.int .i64 (-1)) := hb3.cell (by simp (maxDischargeDepth := 40) [go_sem, ql_7])
    have l_8 : w3.cell? ⟨w1.heap.size, 8, none⟩ = some (.int .i64 (-1)) := hb3.cell (by simp (maxDischargeDepth := 40) [go_sem, ql_8])
    have l_9 : w3.cell? ⟨w1.heap.size, 9, none⟩ = some (.int .i64 (-1)) := hb3.cell (by simp (maxDischargeDepth := 40) [go_sem, ql_9])
    have l_10 : w3.cell? ⟨w1.heap.size, 10, none⟩ = some (.int .i64 (-1)) := hb3.cell (by simp (maxDischargeDepth := 40) [go_sem, ql_10])
    have l_11 : w3.cell? ⟨w1.heap.size, 11, none⟩ = some (.int .i64 (-1)) := hb3.cell (by simp (maxDischargeDepth := 40) [go_sem, ql_11])
    have l_12 : w3.cell? ⟨w1.heap.size, 12, none⟩ = some (.int .i64 ((n : Int) + 1)) := hb3.cell (by simp (maxDischargeDepth := 40) [go_sem, ql_12])
    have l_13 : w3.cell? ⟨w1.heap.size, 13, none⟩ = some (.int .i64 ((n : Int) + 1 + C)) := hb3.cell (by simp (maxDischargeDepth := 40) [go_sem, ql_13])
    have r_0 : w3.cell? ⟨w.heap.size + 1, 0, none⟩ = some (.int .i64 0) := hb3.cell (by simp (maxDischargeDepth := 40) [go_sem, qr_0])
    have y_0 : w3.frozen? ⟨w.heap.size + 1, 0, none⟩ = false := hb3.frozen (v := .int .i64 0) (by simp [go_sem, qr_0]) (by simp [go_sem, zr_0])
    have r_1 : w3.cell? ⟨w.heap.size + 1, 1, none⟩ = some (.int .i64 0) := hb3.cell (by simp (maxDischargeDepth := 40) [go_sem, qr_1])
    have y_1 : w3.frozen? ⟨w.heap.size + 1, 1, none⟩ = false := hb3.frozen (v := .int .i64 0) (by simp [go_sem, qr_1]) (by simp [go_sem, zr_1])
    have r_2 : w3.cell? ⟨w.heap.size + 1, 2, none⟩ = some (.int .i64 0) := hb3.cell (by simp (maxDischargeDepth := 40) [go_sem, qr_2])
    have y_2 : w3.frozen? ⟨w.heap.size + 1, 2, none⟩ = false := hb3.frozen (v := .int .i64 0) (by simp [go_sem, qr_2]) (by simp [go_sem, zr_2])
    have r_3 : w3.cell? ⟨w.heap.size + 1, 3, none⟩ = some (.int .i64 0) := hb3.cell (by simp (maxDischargeDepth := 40) [go_sem, qr_3])
    have y_3 : w3.frozen? ⟨w.heap.size + 1, 3, none⟩ = false := hb3.frozen (v := .int .i64 0) (by simp [go_sem, qr_3]) (by simp [go_sem, zr_3])
    have r_4 : w3.cell? ⟨w.heap.size + 1, 4, none⟩ = some (.int .u64 0) := hb3.cell (by simp (maxDischargeDepth := 40) [go_sem, qr_4])
    have y_4 : w3.frozen? ⟨w.heap.size + 1, 4, none⟩ = false := hb3.frozen (v := .int .u64 0) (by simp [go_sem, qr_4]) (by simp [go_sem, zr_4])
    have r_5 : w3.cell? ⟨w.heap.size + 1, 5, none⟩ = some (.slice none 0 0) := hb3.cell (by simp (maxDischargeDepth := 40) [go_sem, qr_5])
    have y_5 : w3.frozen? ⟨w.heap.size + 1, 5, none⟩ = false := hb3.frozen (v := .slice none 0 0) (by simp [go_sem, qr_5]) (by simp [go_sem, zr_5])
    have r_6 : w3.cell? ⟨w.heap.size + 1, 6, none⟩ = some (.int .i64 0) := hb3.cell (by simp (maxDischargeDepth := 40) [go_sem, qr_6])
    have y_6 : w3.frozen? ⟨w.heap.size + 1, 6, none⟩ = false := hb3.frozen (v := .int .i64 0) (by simp [go_sem, qr_6]) (by simp [go_sem, zr_6])
    have r_7 : w3.cell? ⟨w.heap.size + 1, 7, none⟩ = some (.int .i64 0) := hb3.cell (by simp (maxDischargeDepth := 40) [go_sem, qr_7])
    have y_7 : w3.frozen? ⟨w.heap.size + 1, 7, none⟩ = false := hb3.frozen (v := .int .i64 0) (by simp [go_sem, qr_7]) (by simp [go_sem, zr_7])
    have r_8 : w3.cell? ⟨w.heap.size + 1, 8, none⟩ = some (.int .i64 0) := hb3.cell (by simp (maxDischargeDepth := 40) [go_sem, qr_8])
    have y_8 : w3.frozen? ⟨w.heap.size + 1, 8, none⟩ = false := hb3.frozen (v := .int .i64 0) (by simp [go_sem, qr_8]) (by simp [go_sem, zr_8])
    have r_9 : w3.cell? ⟨w.heap.size + 1, 9, none⟩ = some (.int .i64 0) := hb3.cell (by simp (maxDischargeDepth := 40) [go_sem, qr_9])
    have y_9 : w3.frozen? ⟨w.heap.size + 1, 9, none⟩ = false := hb3.frozen (v := .int .i64 0) (by simp [go_sem, qr_9]) (by simp [go_sem, zr_9])
    have r_10 : w3.cell? ⟨w.heap.size + 1, 10, none⟩ = some (.int .i64 0) := hb3.cell (by simp (maxDischargeDepth := 40) [go_sem, qr_10])
    have y_10 : w3.frozen? ⟨w.heap.size + 1, 10, none⟩ = false := hb3.frozen (v := .int .i64 0) (by simp [go_sem, qr_10]) (by simp [go_sem, zr_10])
    have r_11 : w3.cell? ⟨w.heap.size + 1, 11, none⟩ = some (.int .i64 0) := hb3.cell (by simp (maxDischargeDepth := 40) [go_sem, qr_11])
    have y_11 : w3.frozen? ⟨w.heap.size + 1, 11, none⟩ = false := hb3.frozen (v := .int .i64 0) (by simp [go_sem, qr_11]) (by simp [go_sem, zr_11])
    have r_12 : w3.cell? ⟨w.heap.size + 1, 12, none⟩ = some (.int .i64 0) := hb3.cell (by simp (maxDischargeDepth := 40) [go_sem, qr_12])
    have y_12 : w3.frozen? ⟨w.heap.size + 1, 12, none⟩ = false := hb3.frozen (v := .int .i64 0) (by simp [go_sem, qr_12]) (by simp [go_sem, zr_12])
    have r_13 : w3.cell? ⟨w.heap.size + 1, 13, none⟩ = some (.int .i64 0) := hb3.cell (by simp (maxDischargeDepth := 40) [go_sem, qr_13])
    have y_13 : w3.frozen? ⟨w.heap.size + 1, 13, none⟩ = false := hb3.frozen (v := .int .i64 0) (by simp [go_sem, qr_13]) (by simp [go_sem, zr_13])
    have O3 : OwnL w3 (.slice (some ⟨b2, 0, none⟩) n n) ups := by
      refine OwnL.ext ?_ hb3
      repeat (any_goals (first | with_reducible exact O2 | with_reducible exact TL | with_reducible refine Tag.set ?_ | with_reducible refine OwnL.set (t := 31) ?_ ?_ (by decide) (by decide)))
    have E3 : Ext w w3 := Ext.trans (by repeat (first | with_reducible exact Ext.refl _ | with_reducible assumption | with_reducible refine Ext.alloc ?_ _ | with_reducible refine Ext.drew ?_ | with_reducible refine Ext.drewN ?_ _ | with_reducible refine Ext.setCell ?_ (by simp <;> omega) _ | with_reducible refine Ext.trans ?_ (by assumption))) hb3
    have TR3 : Tag w3 (w.heap.size + 1) 31 := by
      refine Tag.ext ?_ hb3
      repeat (first | with_reducible exact TR | with_reducible refine Tag.set ?_)
    have HO3 := Lib.hid O3
    have HE3 := Lib.hid E3
    have HT3 := Lib.hid TR3
    clear O3 E3 TR3 hb3 O2 E2 TL TR
    clear ql_0 zl_0 qr_0 zr_0 ql_1 zl_1 qr_1 zr_1 ql_2 zl_2 qr_2 zr_2 ql_3 zl_3 qr_3 zr_3 ql_4 zl_4 qr_4 zr_4 ql_5 zl_5 qr_5 zr_5 ql_6 zl_6 qr_6 zr_6 ql_7 zl_7 qr_7 zr_7 ql_8 zl_8 qr_8 zr_8 ql_9 zl_9 qr_9 zr_9 ql_10 zl_10 qr_10 zr_10 ql_11 zl_11 qr_11 zr_11 ql_12 zl_12 qr_12 zr_12 ql_13 zl_13 qr_13 zr_13 qc_0 qc_1 qc_2 qc_3 qc_4 qc_5
    go_wp2
    refine bodyPost_ret (v := .tuple #[(.agg #[.int .i64 1, .int .i64 W, .int .i64 C, .int .i64 P, .int .u64 S, .slice (some ⟨b2, 0, none⟩) n n, .int .i64 ((n : Int)), .int .i64 (-1), .int .i64 (-1), .int .i64 (-1), .int .i64 (-1), .int .i64 (-1), .int .i64 ((n : Int) + 1), .int .i64 ((n : Int) + 1 + C)]), .int .i64 0]) (by simp [results, Tryz.results11, go_sem, r_0, r_1, r_2, r_3, r_4, r_5, r_6, r_7, r_8, r_9, r_10, r_11, r_12, r_13]) rfl (HG.out _ _ ?own1 ?ext1)
    case own1 => repeat (any_goals (first | with_reducible exact HO3.out | with_reducible exact HT3.out | with_reducible refine Tag.set ?_ | with_reducible refine OwnL.set (t := 31) ?_ ?_ (by decide) (by decide)))
    case ext1 =>
      have E3 := HE3.out
      repeat (first | with_reducible exact Ext.refl _ | with_reducible assumption | with_reducible refine Ext.alloc ?_ _ | with_reducible refine Ext.drew ?_ | with_reducible refine Ext.drewN ?_ _ | with_reducible refine Ext.setCell ?_ (by simp <;> omega) _ | with_reducible refine Ext.trans ?_ (by assumption))
  have d1 : (V == 1) = false := by simpa using hV1
  by_cases hV5 : V = 5
  · subst hV5
    rw [show nCu 5 n = -1 by simp [nCu, nCl, nTi, nSe, nNe, nMa, nSl, nCe]] at HG
    rw [show nCl 5 n = -1 by simp [nCu, nCl, nTi, nSe, nNe, nMa, nSl, nCe]] at HG
    rw [show nTi 5 n = (n : Int) by simp [nCu, nCl, nTi, nSe, nNe, nMa, nSl, nCe]] at HG
    rw [show nSe 5 n = (n : Int) + 1 by simp [nCu, nCl, nTi, nSe, nNe, nMa, nSl, nCe]] at HG
    rw [show nNe 5 n = (n : Int) + 2 by simp [nCu, nCl, nTi, nSe, nNe, nMa, nSl, nCe]] at HG
    rw [show nMa 5 n = (n : Int) + 3 by simp [nCu, nCl, nTi, nSe, nNe, nMa, nSl, nCe]] at HG
    rw [show nSl 5 n C = (n : Int) + 3 + C by simp [nCu, nCl, nTi, nSe, nNe, nMa, nSl, nCe]] at HG
    rw [show nCe 5 n C = (n : Int) + 3 + C + C by simp [nCu, nCl, nTi, nSe, nNe, nMa, nSl, nCe]] at HG
    go_wp2_with fail
    refine (lay w1.heap.size (0) (n) (n) _ (by omega) (by simp (maxDischargeDepth := 40) [go_sem, ql_13]) (by simp [go_sem, zl_13]) (by omega) (by omega) (by omega) (by omega)).mono ?_
    rintro e w' ⟨rfl, rfl⟩
    go_wp2_with fail
    refine (lay w1.heap.size (n) (1) (n + 1) _ (by omega) (by simp (maxDischargeDepth := 40) [go_sem, ql_13]) (by simp [go_sem, zl_13]) (by omega) (by omega) (by omega) (by omega)).mono ?_
    rintro e w' ⟨rfl, rfl⟩
    go_wp2_with fail
    refine (lay w1.heap.size (n + 1) (1) (n + 2) _ (by omega) (by simp (maxDischargeDepth := 40) [go_sem, ql_13]) (by simp [go_sem, zl_13]) (by omega) (by omega) (by omega) (by omega)).mono ?_
    rintro e w' ⟨rfl, rfl⟩
    go_wp2_with fail
    refine (lay w1.heap.size (n + 2) (1) (n + 3) _ (by omega) (by simp (maxDischargeDepth := 40) [go_sem, ql_13]) (by simp [go_sem, zl_13]) (by omega) (by omega) (by omega) (by omega)).mono ?_
    rintro e w' ⟨rfl, rfl⟩
    go_wp2_with fail
    refine (lay w1.heap.size (n + 3) (C) (n + 3 + C) _ (by omega) (by simp (maxDischargeDepth := 40) [go_sem, ql_13]) (by simp [go_sem, zl_13]) (by omega) (by omega) (by omega) (by omega)).mono ?_
    rintro e w' ⟨rfl, rfl⟩
    go_wp2_with fail
    refine (lay w1.heap.size (n + 3 + C) (C) (n + 3 + C + C) _ (by omega) (by simp (maxDischargeDepth := 40) [go_sem, ql_13]) (by simp [go_sem, zl_13]) (by omega) (by omega) (by omega) (by omega)).mono ?_
    rintro e w' ⟨rfl, rfl⟩
    go_upto_region 18 with (fail)
    refine settle_wp ?_
    intro w3 hb3
    have l_0 : w3.cell? ⟨w1.heap.size, 0, none⟩ = some (.int .i64 (5)) := hb3.cell (by simp (maxDischargeDepth := 40) [go_sem, ql_0])
    have l_1 : w3.cell? ⟨w1.heap.size, 1, none⟩ = some (.int .i64 (W)) := hb3.cell (by simp (maxDischargeDepth := 40) [go_sem, ql_1])
    have l_2 : w3.cell? ⟨w1.heap.size, 2, none⟩ = some (.int .i64 (C)) := hb3.cell (by simp (maxDischargeDepth := 40) [go_sem, ql_2])
    have l_3 : w3.cell? ⟨w1.heap.size, 3, none⟩ = some (.int .i64 (P)) := hb3.cell (by simp (maxDischargeDepth := 40) [go_sem, ql_3])
    have l_4 : w3.cell? ⟨w1.heap.size, 4, none⟩ = some (.int .u64 (S)) := hb3.cell (by simp (maxDischargeDepth := 40) [go_sem, ql_4])
    have l_5 : w3.cell? ⟨w1.heap.size, 5, none⟩ = some (.slice (some ⟨b2, 0, none⟩) n n) := hb3.cell (by simp (maxDischargeDepth := 40) [go_sem, ql_5])
    have l_6 : w3.cell? ⟨w1.heap.size, 6, none⟩ = some (.int .i64 (-1)) := hb3.cell (by simp (maxDischargeDepth := 40) [go_sem, ql_6])
    have l_7 : w3.cell? ⟨w1.heap.size, 7, none⟩ = some (.int .i64 (-1)) := hb3.cell (by simp (maxDischargeDepth := 40) [go_sem, ql_7])
    have l_8 : w3.cell? ⟨w1.heap.size, 8, none⟩ = some (.int .i64 ((n : Int))) := hb3.cell (by simp (maxDischargeDepth := 40) [go_sem, ql_8])
    have l_9 : w3.cell? ⟨w1.heap.size, 9, none⟩ = some (.int .i64 ((n : Int) + 1)) := hb3.cell (by simp (maxDischargeDepth := 40) [go_sem, ql_9])
    have l_10 : w3.cell? ⟨w1.heap.size, 10, none⟩ = some (.int .i64 ((n : Int) + 2)) := hb3.cell (by simp (maxDischargeDepth := 40) [go_sem, ql_10])
    have l_11 : w3.cell? ⟨w1.heap.size, 11, none⟩ = some (.int .i64 ((n : Int) + 3)) := hb3.cell (by simp (maxDischargeDepth := 40) [go_sem, ql_11])
    have l_12 : w3.cell? ⟨w1.heap.size, 12, none⟩ = some (.int .i64 ((n : Int) + 3 + C)) := hb3.cell (by simp (maxDischargeDepth := 40) [go_sem, ql_12])
    have l_13 : w3.cell? ⟨w1.heap.size, 13, none⟩ = some (.int .i64 ((n : Int) + 3 + C + C)) := hb3.cell (by simp (maxDischargeDepth := 40) [go_sem, ql_13])
    have r_0 : w3.cell? ⟨w.heap.size + 1, 0, none⟩ = some (.int .i64 0) := hb3.cell (by simp (maxDischargeDepth := 40) [go_sem, qr_0])
    have y_0 : w3.frozen? ⟨w.heap.size + 1, 0, none⟩ = false := hb3.frozen (v := .int .i64 0) (by simp [go_sem, qr_0]) (by simp [go_sem, zr_0])
    have r_1 : w3.cell? ⟨w.heap.size + 1, 1, none⟩ = some (.int .i64 0) := hb3.cell (by simp (maxDischargeDepth := 40) [go_sem, qr_1])
    have y_1 : w3.frozen? ⟨w.heap.size + 1, 1, none⟩ = false := hb3.frozen (v := .int .i64 0) (by simp [go_sem, qr_1]) (by simp [go_sem, zr_1])
    have r_2 : w3.cell? ⟨w.heap.size + 1, 2, none⟩ = some (.int .i64 0) := hb3.cell (by simp (maxDischargeDepth := 40) [go_sem, qr_2])
    have y_2 : w3.frozen? ⟨w.heap.size + 1, 2, none⟩ = false := hb3.frozen (v := .int .i64 0) (by simp [go_sem, qr_2]) (by simp [go_sem, zr_2])
    have r_3 : w3.cell? ⟨w.heap.size + 1, 3, none⟩ = some (.int .i64 0) := hb3.cell (by simp (maxDischargeDepth := 40) [go_sem, qr_3])
    have y_3 : w3.frozen? ⟨w.heap.size + 1, 3, none⟩ = false := hb3.frozen (v := .int .i64 0) (by simp [go_sem, qr_3]) (by simp [go_sem, zr_3])
    have r_4 : w3.cell? ⟨w.heap.size + 1, 4, none⟩ = some (.int .u64 0) := hb3.cell (by simp (maxDischargeDepth := 40) [go_sem, qr_4])
    have y_4 : w3.frozen? ⟨w.heap.size + 1, 4, none⟩ = false := hb3.frozen (v := .int .u64 0) (by simp [go_sem, qr_4]) (by simp [go_sem, zr_4])
    have r_5 : w3.cell? ⟨w.heap.size + 1, 5, none⟩ = some (.slice none 0 0) := hb3.cell (by simp (maxDischargeDepth := 40) [go_sem, qr_5])
    have y_5 : w3.frozen? ⟨w.heap.size + 1, 5, none⟩ = false := hb3.frozen (v := .slice none 0 0) (by simp [go_sem, qr_5]) (by simp [go_sem, zr_5])
    have r_6 : w3.cell? ⟨w.heap.size + 1, 6, none⟩ = some (.int .i64 0) := hb3.cell (by simp (maxDischargeDepth := 40) [go_sem, qr_6])
    have y_6 : w3.frozen? ⟨w.heap.size + 1, 6, none⟩ = false := hb3.frozen (v := .int .i64 0) (by simp [go_sem, qr_6]) (by simp [go_sem, zr_6])
    have r_7 : w3.cell? ⟨w.heap.size + 1, 7, none⟩ = some (.int .i64 0) := hb3.cell (by simp (maxDischargeDepth := 40) [go_sem, qr_7])
    have y_7 : w3.frozen? ⟨w.heap.size + 1, 7, none⟩ = false := hb3.frozen (v := .int .i64 0) (by simp [go_sem, qr_7]) (by simp [go_sem, zr_7])
    have r_8 : w3.cell? ⟨w.heap.size + 1, 8, none⟩ = some (.int .i64 0) := hb3.cell (by simp (maxDischargeDepth := 40) [go_sem, qr_8])
    have y_8 : w3.frozen? ⟨w.heap.size + 1, 8, none⟩ = false := hb3.frozen (v := .int .i64 0) (by simp [go_sem, qr_8]) (by simp [go_sem, zr_8])
    have r_9 : w3.cell? ⟨w.heap.size + 1, 9, none⟩ = some (.int .i64 0) := hb3.cell (by simp (maxDischargeDepth := 40) [go_sem, qr_9])
    have y_9 : w3.frozen? ⟨w.heap.size + 1, 9, none⟩ = false := hb3.frozen (v := .int .i64 0) (by simp [go_sem, qr_9]) (by simp [go_sem, zr_9])
    have r_10 : w3.cell? ⟨w.heap.size + 1, 10, none⟩ = some (.int .i64 0) := hb3.cell (by simp (maxDischargeDepth := 40) [go_sem, qr_10])
    have y_10 : w3.frozen? ⟨w.heap.size + 1, 10, none⟩ = false := hb3.frozen (v := .int .i64 0) (by simp [go_sem, qr_10]) (by simp [go_sem, zr_10])
    have r_11 : w3.cell? ⟨w.heap.size + 1, 11, none⟩ = some (.int .i64 0) := hb3.cell (by simp (maxDischargeDepth := 40) [go_sem, qr_11])
    have y_11 : w3.frozen? ⟨w.heap.size + 1, 11, none⟩ = false := hb3.frozen (v := .int .i64 0) (by simp [go_sem, qr_11]) (by simp [go_sem, zr_11])
    have r_12 : w3.cell? ⟨w.heap.size + 1, 12, none⟩ = some (.int .i64 0) := hb3.cell (by simp (maxDischargeDepth := 40) [go_sem, qr_12])
    have y_12 : w3.frozen? ⟨w.heap.size + 1, 12, none⟩ = false := hb3.frozen (v := .int .i64 0) (by simp [go_sem, qr_12]) (by simp [go_sem, zr_12])
    have r_13 : w3.cell? ⟨w.heap.size + 1, 13, none⟩ = some (.int .i64 0) := hb3.cell (by simp (maxDischargeDepth := 40) [go_sem, qr_13])
    have y_13 : w3.frozen? ⟨w.heap.size + 1, 13, none⟩ = false := hb3.frozen (v := .int .i64 0) (by simp [go_sem, qr_13]) (by simp [go_sem, zr_13])
    have O3 : OwnL w3 (.slice (some ⟨b2, 0, none⟩) n n) ups := by
      refine OwnL.ext ?_ hb3
      repeat (any_goals (first | with_reducible exact O2 | with_reducible exact TL | with_reducible refine Tag.set ?_ | with_reducible refine OwnL.set (t := 31) ?_ ?_ (by decide) (by decide)))
    have E3 : Ext w w3 := Ext.trans (by repeat (first | with_reducible exact Ext.refl _ | with_reducible assumption | with_reducible refine Ext.alloc ?_ _ | with_reducible refine Ext.drew ?_ | with_reducible refine Ext.drewN ?_ _ | with_reducible refine Ext.setCell ?_ (by simp <;> omega) _ | with_reducible refine Ext.trans ?_ (by assumption))) hb3
    have TR3 : Tag w3 (w.heap.size + 1) 31 := by
      refine Tag.ext ?_ hb3
      repeat (first | with_reducible exact TR | with_reducible refine Tag.set ?_)
    have HO3 := Lib.hid O3
    have HE3 := Lib.hid E3
    have HT3 := Lib.hid TR3
    clear O3 E3 TR3 hb3 O2 E2 TL TR
    clear ql_0 zl_0 qr_0 zr_0 ql_1 zl_1 qr_1 zr_1 ql_2 zl_2 qr_2 zr_2 ql_3 zl_3 qr_3 zr_3 ql_4 zl_4 qr_4 zr_4 ql_5 zl_5 qr_5 zr_5 ql_6 zl_6 qr_6 zr_6 ql_7 zl_7 qr_7 zr_7 ql_8 zl_8 qr_8 zr_8 ql_9 zl_9 qr_9 zr_9 ql_10 zl_10 qr_10 zr_10 ql_11 zl_11 qr_11 zr_11 ql_12 zl_12 qr_12 zr_12 ql_13 zl_13 qr_13 zr_13 qc_0 qc_1 qc_2 qc_3 qc_4 qc_5
    go_wp2
    refine bodyPost_ret (v := .tuple #[(.agg #[.int .i64 5, .int .i64 W, .int .i64 C, .int .i64 P, .int .u64 S, .slice (some ⟨b2, 0, none⟩) n n, .int .i64 (-1), .int .i64 (-1), .int .i64 ((n : Int)), .int .i64 ((n : Int) + 1), .int .i64 ((n : Int) + 2), .int .i64 ((n : Int) + 3), .int .i64 ((n : Int) + 3 + C), .int .i64 ((n : Int) + 3 + C + C)]), .int .i64 0]) (by simp [results, Tryz.results11, go_sem, r_0, r_1, r_2, r_3, r_4, r_5, r_6, r_7, r_8, r_9, r_10, r_11, r_12, r_13]) rfl (HG.out _ _ ?own5 ?ext5)
    case own5 => repeat (any_goals (first | with_reducible exact HO3.out | with_reducible exact HT3.out | with_reducible refine Tag.set ?_ | with_reducible refine OwnL.set (t := 31) ?_ ?_ (by decide) (by decide)))
    case ext5 =>
      have E3 := HE3.out
      repeat (first | with_reducible exact Ext.refl _ | with_reducible assumption | with_reducible refine Ext.alloc ?_ _ | with_reducible refine Ext.drew ?_ | with_reducible refine Ext.drewN ?_ _ | with_reducible refine Ext.setCell ?_ (by simp <;> omega) _ | with_reducible refine Ext.trans ?_ (by assumption))
  · have d5 : (V == 5) = false := by simpa using hV5
    rw [show nCu V n = -1 by simp [nCu, nCl, nTi, nSe, nNe, nMa, nSl, nCe, hV1, hV5]] at HG
    rw [show nCl V n = (n : Int) by simp [nCu, nCl, nTi, nSe, nNe, nMa, nSl, nCe, hV1, hV5]] at HG
    rw [show nTi V n = -1 by simp [nCu, nCl, nTi, nSe, nNe, nMa, nSl, nCe, hV1, hV5]] at HG
    rw [show nSe V n = -1 by simp [nCu, nCl, nTi, nSe, nNe, nMa, nSl, nCe, hV1, hV5]] at HG
    rw [show nNe V n = -1 by simp [nCu, nCl, nTi, nSe, nNe, nMa, nSl, nCe, hV1, hV5]] at HG
    rw [show nMa V n = (n : Int) + 1 by simp [nCu, nCl, nTi, nSe, nNe, nMa, nSl, nCe, hV1, hV5]] at HG
    rw [show nSl V n C = (n : Int) + 1 + C by simp [nCu, nCl, nTi, nSe, nNe, nMa, nSl, nCe, hV1, hV5]] at HG
    rw [show nCe V n C = (n : Int) + 1 + C + C by simp [nCu, nCl, nTi, nSe, nNe, nMa, nSl, nCe, hV1, hV5]] at HG
    go_wp2_with fail
    refine (lay w1.heap.size (0) (n) (n) _ (by omega) (by simp (maxDischargeDepth := 40) [go_sem, ql_13]) (by simp [go_sem, zl_13]) (by omega) (by omega) (by omega) (by omega)).mono ?_
    rintro e w' ⟨rfl, rfl⟩
    go_wp2_with fail
    refine (lay w1.heap.size (n) (1) (n + 1) _ (by omega) (by simp (maxDischargeDepth := 40) [go_sem, ql_13]) (by simp [go_sem, zl_13]) (by omega) (by omega) (by omega) (by omega)).mono ?_
    rintro e w' ⟨rfl, rfl⟩
    go_wp2_with fail
    refine (lay w1.heap.size (n + 1) (C) (n + 1 + C) _ (by omega) (by simp (maxDischargeDepth := 40) [go_sem, ql_13]) (by simp [go_sem, zl_13]) (by omega) (by omega) (by omega) (by omega)).mono ?_
    rintro e w' ⟨rfl, rfl⟩
    go_wp2_with fail
    refine (lay w1.heap.size (n + 1 + C) (C) (n + 1 + C + C) _ (by omega) (by simp (maxDischargeDepth := 40) [go_sem, ql_13]) (by simp [go_sem, zl_13]) (by omega) (by omega) (by omega) (by omega)).mono ?_
    rintro e w' ⟨rfl, rfl⟩
    go_upto_region 18 with (fail)
    refine settle_wp ?_
    intro w3 hb3
    have l_0 : w3.cell? ⟨w1.heap.size, 0, none⟩ = some (.int .i64 (V)) := hb3.cell (by simp (maxDischargeDepth := 40) [go_sem, ql_0])
    have l_1 : w3.cell? ⟨w1.heap.size, 1, none⟩ = some (.int .i64 (W)) := hb3.cell (by simp (maxDischargeDepth := 40) [go_sem, ql_1])
    have l_2 : w3.cell? ⟨w1.heap.size, 2, none⟩ = some (.int .i64 (C)) := hb3.cell (by simp (maxDischargeDepth := 40) [go_sem, ql_2])
    have l_3 : w3.cell? ⟨w1.heap.size, 3, none⟩ = some (.int .i64 (P)) := hb3.cell (by simp (maxDischargeDepth := 40) [go_sem, ql_3])
    have l_4 : w3.cell? ⟨w1.heap.size, 4, none⟩ = some (.int .u64 (S)) := hb3.cell (by simp (maxDischargeDepth := 40) [go_sem, ql_4])
    have l_5 : w3.cell? ⟨w1.heap.size, 5, none⟩ = some (.slice (some ⟨b2, 0, none⟩) n n) := hb3.cell (by simp (maxDischargeDepth := 40) [go_sem, ql_5])
    have l_6 : w3.cell? ⟨w1.heap.size, 6, none⟩ = some (.int .i64 (-1)) := hb3.cell (by simp (maxDischargeDepth := 40) [go_sem, ql_6])
    have l_7 : w3.cell? ⟨w1.heap.size, 7, none⟩ = some (.int .i64 ((n : Int))) := hb3.cell (by simp (maxDischargeDepth := 40) [go_sem, ql_7])
    have l_8 : w3.cell? ⟨w1.heap.size, 8, none⟩ = some (.int .i64 (-1)) := hb3.cell (by simp (maxDischargeDepth := 40) [go_sem, ql_8])
    have l_9 : w3.cell? ⟨w1.heap.size, 9, none⟩ = some (.int .i64 (-1)) := hb3.cell (by simp (maxDischargeDepth := 40) [go_sem, ql_9])
    have l_10 : w3.cell? ⟨w1.heap.size, 10, none⟩ = some (.int .i64 (-1)) := hb3.cell (by simp (maxDischargeDepth := 40) [go_sem, ql_10])
    have l_11 : w3.cell? ⟨w1.heap.size, 11, none⟩ = some (.int .i64 ((n : Int) + 1)) := hb3.cell (by simp (maxDischargeDepth := 40) [go_sem, ql_11])
    have l_12 : w3.cell? ⟨w1.heap.size, 12, none⟩ = some (.int .i64 ((n : Int) + 1 + C)) := hb3.cell (by simp (maxDischargeDepth := 40) [go_sem, ql_12])
    have l_13 : w3.cell? ⟨w1.heap.size, 13, none⟩ = some (.int .i64 ((n : Int) + 1 + C + C)) := hb3.cell (by simp (maxDischargeDepth := 40) [go_sem, ql_13])
    have r_0 : w3.cell? ⟨w.heap.size + 1, 0, none⟩ = some (.int .i64 0) := hb3.cell (by simp (maxDischargeDepth := 40) [go_sem, qr_0])
    have y_0 : w3.frozen? ⟨w.heap.size + 1, 0, none⟩ = false := hb3.frozen (v := .int .i64 0) (by simp [go_sem, qr_0]) (by simp [go_sem, zr_0])
    have r_1 : w3.cell? ⟨w.heap.size + 1, 1, none⟩ = some (.int .i64 0) := hb3.cell (by simp (maxDischargeDepth := 40) [go_sem, qr_1])
    have y_1 : w3.frozen? ⟨w.heap.size + 1, 1, none⟩ = false := hb3.frozen (v := .int .i64 0) (by simp [go_sem, qr_1]) (by simp [go_sem, zr_1])
    have r_2 : w3.cell? ⟨w.heap.size + 1, 2, none⟩ = some (.int .i64 0) := hb3.cell (by simp (maxDischargeDepth := 40) [go_sem, qr_2])
    have y_2 : w3.frozen? ⟨w.heap.size + 1, 2, none⟩ = false := hb3.frozen (v := .int .i64 0) (by simp [go_sem, qr_2]) (by simp [go_sem, zr_2])
    have r_3 : w3.cell? ⟨w.heap.size + 1, 3, none⟩ = some (.int .i64 0) := hb3.cell (by simp (maxDischargeDepth := 40) [go_sem, qr_3])
    have y_3 : w3.frozen? ⟨w.heap.size + 1, 3, none⟩ = false := hb3.frozen (v := .int .i64 0) (by simp [go_sem, qr_3]) (by simp [go_sem, zr_3])
    have r_4 : w3.cell? ⟨w.heap.size + 1, 4, none⟩ = some (.int .u64 0) := hb3.cell (by simp (maxDischargeDepth := 40) [go_sem, qr_4])
    have y_4 : w3.frozen? ⟨w.heap.size + 1, 4, none⟩ = false := hb3.frozen (v := .int .u64 0) (by simp [go_sem, qr_4]) (by simp [go_sem, zr_4])
    have r_5 : w3.cell? ⟨w.heap.size + 1, 5, none⟩ = some (.slice none 0 0) := hb3.cell (by simp (maxDischargeDepth := 40) [go_sem, qr_5])
    have y_5 : w3.frozen? ⟨w.heap.size + 1, 5, none⟩ = false := hb3.frozen (v := .slice none 0 0) (by simp [go_sem, qr_5]) (by simp [go_sem, zr_5])
    have r_6 : w3.cell? ⟨w.heap.size + 1, 6, none⟩ = some (.int .i64 0) := hb3.cell (by simp (maxDischargeDepth := 40) [go_sem, qr_6])
    have y_6 : w3.frozen? ⟨w.heap.size + 1, 6, none⟩ = false := hb3.frozen (v := .int .i64 0) (by simp [go_sem, qr_6]) (by simp [go_sem, zr_6])
    have r_7 : w3.cell? ⟨w.heap.size + 1, 7, none⟩ = some (.int .i64 0) := hb3.cell (by simp (maxDischargeDepth := 40) [go_sem, qr_7])
    have y_7 : w3.frozen? ⟨w.heap.size + 1, 7, none⟩ = false := hb3.frozen (v := .int .i64 0) (by simp [go_sem, qr_7]) (by simp [go_sem, zr_7])
    have r_8 : w3.cell? ⟨w.heap.size + 1, 8, none⟩ = some (.int .i64 0) := hb3.cell (by simp (maxDischargeDepth := 40) [go_sem, qr_8])
    have y_8 : w3.frozen? ⟨w.heap.size + 1, 8, none⟩ = false := hb3.frozen (v := .int .i64 0) (by simp [go_sem, qr_8]) (by simp [go_sem, zr_8])
    have r_9 : w3.cell? ⟨w.heap.size + 1, 9, none⟩ = some (.int .i64 0) := hb3.cell (by simp (maxDischargeDepth := 40) [go_sem, qr_9])
    have y_9 : w3.frozen? ⟨w.heap.size + 1, 9, none⟩ = false := hb3.frozen (v := .int .i64 0) (by simp [go_sem, qr_9]) (by simp [go_sem, zr_9])
    have r_10 : w3.cell? ⟨w.heap.size + 1, 10, none⟩ = some (.int .i64 0) := hb3.cell (by simp (maxDischargeDepth := 40) [go_sem, qr_10])
    have y_10 : w3.frozen? ⟨w.heap.size + 1, 10, none⟩ = false := hb3.frozen (v := .int .i64 0) (by simp [go_sem, qr_10]) (by simp [go_sem, zr_10])
    have r_11 : w3.cell? ⟨w.heap.size + 1, 11, none⟩ = some (.int .i64 0) := hb3.cell (by simp (maxDischargeDepth := 40) [go_sem, qr_11])
    have y_11 : w3.frozen? ⟨w.heap.size + 1, 11, none⟩ = false := hb3.frozen (v := .int .i64 0) (by simp [go_sem, qr_11]) (by simp [go_sem, zr_11])
    have r_12 : w3.cell? ⟨w.heap.size + 1, 12, none⟩ = some (.int .i64 0) := hb3.cell (by simp (maxDischargeDepth := 40) [go_sem, qr_12])
    have y_12 : w3.frozen? ⟨w.heap.size + 1, 12, none⟩ = false := hb3.frozen (v := .int .i64 0) (by simp [go_sem, qr_12]) (by simp [go_sem, zr_12])
    have r_13 : w3.cell? ⟨w.heap.size + 1, 13, none⟩ = some (.int .i64 0) := hb3.cell (by simp (maxDischargeDepth := 40) [go_sem, qr_13])
    have y_13 : w3.frozen? ⟨w.heap.size + 1, 13, none⟩ = false := hb3.frozen (v := .int .i64 0) (by simp [go_sem, qr_13]) (by simp [go_sem, zr_13])
    have O3 : OwnL w3 (.slice (some ⟨b2, 0, none⟩) n n) ups := by
      refine OwnL.ext ?_ hb3
      repeat (any_goals (first | with_reducible exact O2 | with_reducible exact TL | with_reducible refine Tag.set ?_ | with_reducible refine OwnL.set (t := 31) ?_ ?_ (by decide) (by decide)))
    have E3 : Ext w w3 := Ext.trans (by repeat (first | with_reducible exact Ext.refl _ | with_reducible assumption | with_reducible refine Ext.alloc ?_ _ | with_reducible refine Ext.drew ?_ | with_reducible refine Ext.drewN ?_ _ | with_reducible refine Ext.setCell ?_ (by simp <;> omega) _ | with_reducible refine Ext.trans ?_ (by assumption))) hb3
    have TR3 : Tag w3 (w.heap.size + 1) 31 := by
      refine Tag.ext ?_ hb3
      repeat (first | with_reducible exact TR | with_reducible refine Tag.set ?_)
    have HO3 := Lib.hid O3
    have HE3 := Lib.hid E3
    have HT3 := Lib.hid TR3
    clear O3 E3 TR3 hb3 O2 E2 TL TR
    clear ql_0 zl_0 qr_0 zr_0 ql_1 zl_1 qr_1 zr_1 ql_2 zl_2 qr_2 zr_2 ql_3 zl_3 qr_3 zr_3 ql_4 zl_4 qr_4 zr_4 ql_5 zl_5 qr_5 zr_5 ql_6 zl_6 qr_6 zr_6 ql_7 zl_7 qr_7 zr_7 ql_8 zl_8 qr_8 zr_8 ql_9 zl_9 qr_9 zr_9 ql_10 zl_10 qr_10 zr_10 ql_11 zl_11 qr_11 zr_11 ql_12 zl_12 qr_12 zr_12 ql_13 zl_13 qr_13 zr_13 qc_0 qc_1 qc_2 qc_3 qc_4 qc_5
    go_wp2
    refine bodyPost_ret (v := .tuple #[(.agg #[.int .i64 V, .int .i64 W, .int .i64 C, .int .i64 P, .int .u64 S, .slice (some ⟨b2, 0, none⟩) n n, .int .i64 (-1), .int .i64 ((n : Int)), .int .i64 (-1), .int .i64 (-1), .int .i64 (-1), .int .i64 ((n : Int) + 1), .int .i64 ((n : Int) + 1 + C), .int .i64 ((n : Int) + 1 + C + C)]), .int .i64 0]) (by simp [results, Tryz.results11, go_sem, r_0, r_1, r_2, r_3, r_4, r_5, r_6, r_7, r_8, r_9, r_10, r_11, r_12, r_13]) rfl (HG.out _ _ ?owno ?exto)
    case owno => repeat (any_goals (first | with_reducible exact HO3.out | with_reducible exact HT3.out | with_reducible refine Tag.set ?_ | with_reducible refine OwnL.set (t := 31) ?_ ?_ (by decide) (by decide)))
    case exto =>
      have E3 := HE3.out
      repeat (first | with_reducible exact Ext.refl _ | with_reducible assumption | with_reducible refine Ext.alloc ?_ _ | with_reducible refine Ext.drew ?_ | with_reducible refine Ext.drewN ?_ _ | with_reducible refine Ext.setCell ?_ (by simp <;> omega) _ | with_reducible refine Ext.trans ?_ (by assumption))
end Go.Proofs.YtkmfamidahlgiaaGreatDoor

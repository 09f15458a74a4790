/- layout: lay, use, marking, place, Gate, Mark, Slot. -/
import Derived.Test.YtkmfamidahlgiaaGreatDoorLists
import Derived.Test.YtkmfamidahlgiaaGreatDoorWMath
import Derived.Test.YtkmfamidahlgiaaGreatDoorGrc
import Derived.BigQuiet
namespace Go.Proofs.YtkmfamidahlgiaaGreatDoor
open Go.RowKit
set_option linter.unusedVariables false
set_option maxHeartbeats 1000000
attribute [local go_sem] later_cell later_frozen later_const
set_option maxRecDepth 100000 in
/-- lay: the count goes up, what it was is told -/
theorem lay (b : Nat) (k m r : Int) (w : World) (hr : k + m = r) (hc : w.cell? ⟨b, 13, none⟩ = some (.int .i64 k)) (hz : w.frozen? ⟨b, 13, none⟩ = false) (h0 : 0 ≤ k) (h1 : k ≤ 10000) (h2 : 0 ≤ m) (h3 : m ≤ 10000) :
    Calls Tryz.prog 53 #[.pointer (some ⟨b, 0, none⟩), .int .i64 m] w fun e w' => e = .returned (.int .i64 k) ∧ w' = w.setCell ⟨b, 13, none⟩ (.int .i64 r) := by
  subst hr
  go_enter Tryz.func53, Tryz.ntmps53
  go_wp2
  go_ret
  exact ⟨rfl, rfl⟩
/-- by what a variant publishes -/
def mrk (V : Int) : Int := if V = 4 then 8 else if V = 5 then 9 else 7
theorem lMarking (V : Int) (w : World) : Calls Tryz.prog 158 #[.int .i64 V] w fun e w' => e = .returned (.int .i64 (mrk V)) ∧ w = w' := by
  unfold mrk
  by_cases h4 : V = 4
  · have d : (V == 4) = true := by simpa using h4
    rw [if_pos h4]
    clear h4
    go_enter Tryz.func158, Tryz.ntmps158
    go_wp2
    go_ret
    exact ⟨rfl, rfl⟩
  have d : (V == 4) = false := by simpa using h4
  rw [if_neg h4]
  by_cases h5 : V = 5
  · have d5 : (V == 5) = true := by simpa using h5
    rw [if_pos h5]
    clear h4 h5
    go_enter Tryz.func158, Tryz.ntmps158
    go_wp2
    go_ret
    exact ⟨rfl, rfl⟩
  · have d5 : (V == 5) = false := by simpa using h5
    rw [if_neg h5]
    clear h4 h5
    go_enter Tryz.func158, Tryz.ntmps158
    go_wp2
    go_ret
    exact ⟨rfl, rfl⟩
def plc (f m i : Int) : Int := if f = -1 ∨ i < 0 ∨ m ≤ i then -1 else f + i
theorem lPlace (f m i : Int) (w : World) (h0 : -1 ≤ f) (h1 : f ≤ 10000) (h2 : m ≤ 10000) : Calls Tryz.prog 149 #[.int .i64 f, .int .i64 m, .int .i64 i] w fun e w' => e = .returned (.int .i64 (plc f m i)) ∧ w = w' := by
  unfold plc
  by_cases hf : f = -1
  · rw [if_pos (.inl hf)]
    have d : (f == -1) = true := by simpa using hf
    clear hf
    go_enter Tryz.func149, Tryz.ntmps149
    go_wp2
    go_ret
    exact ⟨rfl, rfl⟩
  have d : (f == -1) = false := by simpa using hf
  by_cases hi : i < 0
  · rw [if_pos (.inr (.inl hi))]
    have d2 : decide (i < 0) = true := by simpa using hi
    clear hf hi
    go_enter Tryz.func149, Tryz.ntmps149
    go_wp2
    go_ret
    exact ⟨rfl, rfl⟩
  have d2 : decide (i < 0) = false := by simpa using hi
  by_cases hm : m ≤ i
  · rw [if_pos (.inr (.inr hm))]
    have d3 : decide (m ≤ i) = true := by simpa using hm
    clear hf hi hm
    go_enter Tryz.func149, Tryz.ntmps149
    go_wp2
    go_ret
    exact ⟨rfl, rfl⟩
  · rw [if_neg (by omega)]
    have d3 : decide (m ≤ i) = false := by simpa using hm
    have hw : wrap64 (f + i) = f + i := by unfold wrap64; omega
    clear hf hi hm
    go_enter Tryz.func149, Tryz.ntmps149
    go_wp2
    go_ret
    exact ⟨ret_int hw, rfl⟩
set_option maxRecDepth 100000 in
theorem lGate (V W C P S : Int) (a : Option Addr) (n cap : Nat) (Cu Cl Ti Se Ne Ma Sl Ce i : Int) (w : World) (hn : n ≤ 1000) :
    Calls Tryz.prog 106 #[(.agg #[.int .i64 V, .int .i64 W, .int .i64 C, .int .i64 P, .int .u64 S, .slice a n cap, .int .i64 Cu, .int .i64 Cl, .int .i64 Ti, .int .i64 Se, .int .i64 Ne, .int .i64 Ma, .int .i64 Sl, .int .i64 Ce]), .int .i64 i] w fun e w' => e = .returned (.int .i64 (plc 0 n i)) ∧ Ext w w' := by
  have CP := Lib.hid (fun w => lPlace 0 n i w (by omega) (by omega) (by omega))
  generalize plc 0 n i = r at *
  go_enter Tryz.func106, Tryz.ntmps106
  go_wp2_with fail
  refine (CP.out _).mono ?_
  rintro e w' ⟨rfl, rfl⟩
  go_wp2
  go_ret
  refine ⟨rfl, ?_⟩
  repeat (first | with_reducible exact Ext.refl _ | with_reducible assumption | with_reducible refine Ext.alloc ?_ _ | with_reducible refine Ext.drew ?_ | with_reducible refine Ext.drewN ?_ _ | with_reducible refine Ext.setCell ?_ (by simp <;> omega) _ | with_reducible refine Ext.trans ?_ (by assumption))
/-- what a cell is for, and which one it is -/
def useL (V n Cu Cl Ti Se Ne Ma Sl Ce c : Int) : Int × Int :=
  if c < 0 ∨ Ce ≤ c then (0, 0) else if c < n then (1, c) else if Sl ≤ c then (10, c - Sl) else if c = Cu then (2, 0) else if c = Cl then (3, 0) else if c = Ti then (4, 0) else if c = Se then (5, 0) else if c = Ne then (6, 0) else (mrk V, c - Ma)
set_option maxRecDepth 100000 in
theorem lUse (V W C P S : Int) (a : Option Addr) (n cap : Nat) (Cu Cl Ti Se Ne Ma Sl Ce c : Int) (w : World) (h0 : 0 ≤ Sl) (hM0 : -1 ≤ Ma) (hM1 : Ma ≤ 1000) (hCe : Ce ≤ 1000) :
    Calls Tryz.prog 120 #[(.agg #[.int .i64 V, .int .i64 W, .int .i64 C, .int .i64 P, .int .u64 S, .slice a n cap, .int .i64 Cu, .int .i64 Cl, .int .i64 Ti, .int .i64 Se, .int .i64 Ne, .int .i64 Ma, .int .i64 Sl, .int .i64 Ce]), .int .i64 c] w fun e w' => e = .returned (.tuple #[.int .i64 (useL V n Cu Cl Ti Se Ne Ma Sl Ce c).1, .int .i64 (useL V n Cu Cl Ti Se Ne Ma Sl Ce c).2]) ∧ Ext w w' := by
  have CM := Lib.hid (fun w => lMarking V w)
  unfold useL
  generalize mrk V = mk at *
  by_cases k0 : c < 0
  · rw [if_pos (.inl k0)]
    have d0 : decide (c < 0) = true := by simpa using k0
    clear k0
    go_enter Tryz.func120, Tryz.ntmps120
    go_wp2
    go_ret2
    refine ⟨rfl, ?_⟩
    repeat (first | with_reducible exact Ext.refl _ | with_reducible assumption | with_reducible refine Ext.alloc ?_ _ | with_reducible refine Ext.drew ?_ | with_reducible refine Ext.drewN ?_ _ | with_reducible refine Ext.setCell ?_ (by simp <;> omega) _ | with_reducible refine Ext.trans ?_ (by assumption))
  have d0 : decide (c < 0) = false := by simpa using k0
  by_cases k1 : Ce ≤ c
  · rw [if_pos (.inr k1)]
    have d1 : decide (Ce ≤ c) = true := by simpa using k1
    clear k0 k1
    go_enter Tryz.func120, Tryz.ntmps120
    go_wp2
    go_ret2
    refine ⟨rfl, ?_⟩
    repeat (first | with_reducible exact Ext.refl _ | with_reducible assumption | with_reducible refine Ext.alloc ?_ _ | with_reducible refine Ext.drew ?_ | with_reducible refine Ext.drewN ?_ _ | with_reducible refine Ext.setCell ?_ (by simp <;> omega) _ | with_reducible refine Ext.trans ?_ (by assumption))
  have d1 : decide (Ce ≤ c) = false := by simpa using k1
  rw [if_neg (by omega)]
  by_cases k2 : c < (n : Int)
  · rw [if_pos k2]
    have d2 : decide (c < (n : Int)) = true := by simpa using k2
    clear k0 k1 k2
    go_enter Tryz.func120, Tryz.ntmps120
    go_wp2
    go_ret2
    refine ⟨rfl, ?_⟩
    repeat (first | with_reducible exact Ext.refl _ | with_reducible assumption | with_reducible refine Ext.alloc ?_ _ | with_reducible refine Ext.drew ?_ | with_reducible refine Ext.drewN ?_ _ | with_reducible refine Ext.setCell ?_ (by simp <;> omega) _ | with_reducible refine Ext.trans ?_ (by assumption))
  have d2 : decide (c < (n : Int)) = false := by simpa using k2
  rw [if_neg k2]
  by_cases k3 : Sl ≤ c
  · rw [if_pos k3]
    have d3 : decide (Sl ≤ c) = true := by simpa using k3
    have hw : wrap64 (c - Sl) = c - Sl := by unfold wrap64; omega
    clear k0 k1 k2 k3
    go_enter Tryz.func120, Tryz.ntmps120
    go_upto_region 6 with (fail)
    refine settle_wp ?_
    intro w1 hb1
    have ql_0 : w1.cell? ⟨w.heap.size, 0, none⟩ = some (.int .i64 V) := (hb1.cells.1 _ _ (by simp <;> omega)).trans (by simp [go_sem])
    have ql_1 : w1.cell? ⟨w.heap.size, 1, none⟩ = some (.int .i64 W) := (hb1.cells.1 _ _ (by simp <;> omega)).trans (by simp [go_sem])
    have ql_2 : w1.cell? ⟨w.heap.size, 2, none⟩ = some (.int .i64 C) := (hb1.cells.1 _ _ (by simp <;> omega)).trans (by simp [go_sem])
    have ql_3 : w1.cell? ⟨w.heap.size, 3, none⟩ = some (.int .i64 P) := (hb1.cells.1 _ _ (by simp <;> omega)).trans (by simp [go_sem])
    have ql_4 : w1.cell? ⟨w.heap.size, 4, none⟩ = some (.int .u64 S) := (hb1.cells.1 _ _ (by simp <;> omega)).trans (by simp [go_sem])
    have ql_5 : w1.cell? ⟨w.heap.size, 5, none⟩ = some (.slice a n cap) := (hb1.cells.1 _ _ (by simp <;> omega)).trans (by simp [go_sem])
    have ql_6 : w1.cell? ⟨w.heap.size, 6, none⟩ = some (.int .i64 Cu) := (hb1.cells.1 _ _ (by simp <;> omega)).trans (by simp [go_sem])
    have ql_7 : w1.cell? ⟨w.heap.size, 7, none⟩ = some (.int .i64 Cl) := (hb1.cells.1 _ _ (by simp <;> omega)).trans (by simp [go_sem])
    have ql_8 : w1.cell? ⟨w.heap.size, 8, none⟩ = some (.int .i64 Ti) := (hb1.cells.1 _ _ (by simp <;> omega)).trans (by simp [go_sem])
    have ql_9 : w1.cell? ⟨w.heap.size, 9, none⟩ = some (.int .i64 Se) := (hb1.cells.1 _ _ (by simp <;> omega)).trans (by simp [go_sem])
    have ql_10 : w1.cell? ⟨w.heap.size, 10, none⟩ = some (.int .i64 Ne) := (hb1.cells.1 _ _ (by simp <;> omega)).trans (by simp [go_sem])
    have ql_11 : w1.cell? ⟨w.heap.size, 11, none⟩ = some (.int .i64 Ma) := (hb1.cells.1 _ _ (by simp <;> omega)).trans (by simp [go_sem])
    have ql_12 : w1.cell? ⟨w.heap.size, 12, none⟩ = some (.int .i64 Sl) := (hb1.cells.1 _ _ (by simp <;> omega)).trans (by simp [go_sem])
    have ql_13 : w1.cell? ⟨w.heap.size, 13, none⟩ = some (.int .i64 Ce) := (hb1.cells.1 _ _ (by simp <;> omega)).trans (by simp [go_sem])
    have pl := World.block_lt_of_cell? _ ⟨w.heap.size, 0, none⟩ ql_0
    have rl := Nat.lt_succ_of_lt pl
    refine wp_region_later (by kernel_rfl) (by kernel_rfl) ?_
    have ll_0 := fun (g : Later w1) => g.ok.cell ql_0
    have ll_1 := fun (g : Later w1) => g.ok.cell ql_1
    have ll_2 := fun (g : Later w1) => g.ok.cell ql_2
    have ll_3 := fun (g : Later w1) => g.ok.cell ql_3
    have ll_4 := fun (g : Later w1) => g.ok.cell ql_4
    have ll_5 := fun (g : Later w1) => g.ok.cell ql_5
    have ll_6 := fun (g : Later w1) => g.ok.cell ql_6
    have ll_7 := fun (g : Later w1) => g.ok.cell ql_7
    have ll_8 := fun (g : Later w1) => g.ok.cell ql_8
    have ll_9 := fun (g : Later w1) => g.ok.cell ql_9
    have ll_10 := fun (g : Later w1) => g.ok.cell ql_10
    have ll_11 := fun (g : Later w1) => g.ok.cell ql_11
    have ll_12 := fun (g : Later w1) => g.ok.cell ql_12
    have ll_13 := fun (g : Later w1) => g.ok.cell ql_13
    repeat (go_big_quiet_step ((fail)))
    refine wpQuiet_nil ?_
    intro w2 hl2
    have hb2 := laters_ext hl2
    clear hl2 ll_0 ll_1 ll_2 ll_3 ll_4 ll_5 ll_6 ll_7 ll_8 ll_9 ll_10 ll_11 ll_12 ll_13
    have hx2 : Ext w1 w2 := by repeat (first | with_reducible exact Ext.refl _ | with_reducible assumption | with_reducible refine Ext.alloc ?_ _ | with_reducible refine Ext.drew ?_ | with_reducible refine Ext.drewN ?_ _ | with_reducible refine Ext.setCell ?_ (by simp <;> omega) _ | with_reducible refine Ext.trans ?_ (by assumption))
    replace ql_0 := hx2.cell ql_0
    replace ql_1 := hx2.cell ql_1
    replace ql_2 := hx2.cell ql_2
    replace ql_3 := hx2.cell ql_3
    replace ql_4 := hx2.cell ql_4
    replace ql_5 := hx2.cell ql_5
    replace ql_6 := hx2.cell ql_6
    replace ql_7 := hx2.cell ql_7
    replace ql_8 := hx2.cell ql_8
    replace ql_9 := hx2.cell ql_9
    replace ql_10 := hx2.cell ql_10
    replace ql_11 := hx2.cell ql_11
    replace ql_12 := hx2.cell ql_12
    replace ql_13 := hx2.cell ql_13
    replace pl := Nat.lt_of_lt_of_le pl hx2.size
    replace rl := Nat.lt_succ_of_lt pl
    clear hx2
    go_wp2
    go_ret2
    refine ⟨rfl, ?_⟩
    repeat (first | with_reducible exact Ext.refl _ | with_reducible assumption | with_reducible refine Ext.alloc ?_ _ | with_reducible refine Ext.drew ?_ | with_reducible refine Ext.drewN ?_ _ | with_reducible refine Ext.setCell ?_ (by simp <;> omega) _ | with_reducible refine Ext.trans ?_ (by assumption))
  have d3 : decide (Sl ≤ c) = false := by simpa using k3
  rw [if_neg k3]
  by_cases k4 : c = Cu
  · rw [if_pos k4]
    have d4 : (c == Cu) = true := by simpa using k4
    clear k0 k1 k2 k3 k4
    go_enter Tryz.func120, Tryz.ntmps120
    go_wp2
    go_ret2
    refine ⟨rfl, ?_⟩
    repeat (first | with_reducible exact Ext.refl _ | with_reducible assumption | with_reducible refine Ext.alloc ?_ _ | with_reducible refine Ext.drew ?_ | with_reducible refine Ext.drewN ?_ _ | with_reducible refine Ext.setCell ?_ (by simp <;> omega) _ | with_reducible refine Ext.trans ?_ (by assumption))
  have d4 : (c == Cu) = false := by simpa using k4
  rw [if_neg k4]
  by_cases k5 : c = Cl
  · rw [if_pos k5]
    have d5 : (c == Cl) = true := by simpa using k5
    clear k0 k1 k2 k3 k4 k5
    go_enter Tryz.func120, Tryz.ntmps120
    go_wp2
    go_ret2
    refine ⟨rfl, ?_⟩
    repeat (first | with_reducible exact Ext.refl _ | with_reducible assumption | with_reducible refine Ext.alloc ?_ _ | with_reducible refine Ext.drew ?_ | with_reducible refine Ext.drewN ?_ _ | with_reducible refine Ext.setCell ?_ (by simp <;> omega) _ | with_reducible refine Ext.trans ?_ (by assumption))
  have d5 : (c == Cl) = false := by simpa using k5
  rw [if_neg k5]
  by_cases k6 : c = Ti
  · rw [if_pos k6]
    have d6 : (c == Ti) = true := by simpa using k6
    clear k0 k1 k2 k3 k4 k5 k6
    go_enter Tryz.func120, Tryz.ntmps120
    go_wp2
    go_ret2
    refine ⟨rfl, ?_⟩
    repeat (first | with_reducible exact Ext.refl _ | with_reducible assumption | with_reducible refine Ext.alloc ?_ _ | with_reducible refine Ext.drew ?_ | with_reducible refine Ext.drewN ?_ _ | with_reducible refine Ext.setCell ?_ (by simp <;> omega) _ | with_reducible refine Ext.trans ?_ (by assumption))
  have d6 : (c == Ti) = false := by simpa using k6
  rw [if_neg k6]
  by_cases k7 : c = Se
  · rw [if_pos k7]
    have d7 : (c == Se) = true := by simpa using k7
    clear k0 k1 k2 k3 k4 k5 k6 k7
    go_enter Tryz.func120, Tryz.ntmps120
    go_wp2
    go_ret2
    refine ⟨rfl, ?_⟩
    repeat (first | with_reducible exact Ext.refl _ | with_reducible assumption | with_reducible refine Ext.alloc ?_ _ | with_reducible refine Ext.drew ?_ | with_reducible refine Ext.drewN ?_ _ | with_reducible refine Ext.setCell ?_ (by simp <;> omega) _ | with_reducible refine Ext.trans ?_ (by assumption))
  have d7 : (c == Se) = false := by simpa using k7
  rw [if_neg k7]
  by_cases k8 : c = Ne
  · rw [if_pos k8]
    have d8 : (c == Ne) = true := by simpa using k8
    clear k0 k1 k2 k3 k4 k5 k6 k7 k8
    go_enter Tryz.func120, Tryz.ntmps120
    go_wp2
    go_ret2
    refine ⟨rfl, ?_⟩
    repeat (first | with_reducible exact Ext.refl _ | with_reducible assumption | with_reducible refine Ext.alloc ?_ _ | with_reducible refine Ext.drew ?_ | with_reducible refine Ext.drewN ?_ _ | with_reducible refine Ext.setCell ?_ (by simp <;> omega) _ | with_reducible refine Ext.trans ?_ (by assumption))
  · have d8 : (c == Ne) = false := by simpa using k8
    rw [if_neg k8]
    have hw : wrap64 (c - Ma) = c - Ma := by unfold wrap64; omega
    clear k0 k1 k2 k3 k4 k5 k6 k7 k8
    go_enter Tryz.func120, Tryz.ntmps120
    go_upto_region 17 with (fail)
    refine settle_wp ?_
    intro w3 hb3
    have ql_0 : w3.cell? ⟨w.heap.size, 0, none⟩ = some (.int .i64 V) := (hb3.cells.1 _ _ (by simp <;> omega)).trans (by simp [go_sem])
    have ql_1 : w3.cell? ⟨w.heap.size, 1, none⟩ = some (.int .i64 W) := (hb3.cells.1 _ _ (by simp <;> omega)).trans (by simp [go_sem])
    have ql_2 : w3.cell? ⟨w.heap.size, 2, none⟩ = some (.int .i64 C) := (hb3.cells.1 _ _ (by simp <;> omega)).trans (by simp [go_sem])
    have ql_3 : w3.cell? ⟨w.heap.size, 3, none⟩ = some (.int .i64 P) := (hb3.cells.1 _ _ (by simp <;> omega)).trans (by simp [go_sem])
    have ql_4 : w3.cell? ⟨w.heap.size, 4, none⟩ = some (.int .u64 S) := (hb3.cells.1 _ _ (by simp <;> omega)).trans (by simp [go_sem])
    have ql_5 : w3.cell? ⟨w.heap.size, 5, none⟩ = some (.slice a n cap) := (hb3.cells.1 _ _ (by simp <;> omega)).trans (by simp [go_sem])
    have ql_6 : w3.cell? ⟨w.heap.size, 6, none⟩ = some (.int .i64 Cu) := (hb3.cells.1 _ _ (by simp <;> omega)).trans (by simp [go_sem])
    have ql_7 : w3.cell? ⟨w.heap.size, 7, none⟩ = some (.int .i64 Cl) := (hb3.cells.1 _ _ (by simp <;> omega)).trans (by simp [go_sem])
    have ql_8 : w3.cell? ⟨w.heap.size, 8, none⟩ = some (.int .i64 Ti) := (hb3.cells.1 _ _ (by simp <;> omega)).trans (by simp [go_sem])
    have ql_9 : w3.cell? ⟨w.heap.size, 9, none⟩ = some (.int .i64 Se) := (hb3.cells.1 _ _ (by simp <;> omega)).trans (by simp [go_sem])
    have ql_10 : w3.cell? ⟨w.heap.size, 10, none⟩ = some (.int .i64 Ne) := (hb3.cells.1 _ _ (by simp <;> omega)).trans (by simp [go_sem])
    have ql_11 : w3.cell? ⟨w.heap.size, 11, none⟩ = some (.int .i64 Ma) := (hb3.cells.1 _ _ (by simp <;> omega)).trans (by simp [go_sem])
    have ql_12 : w3.cell? ⟨w.heap.size, 12, none⟩ = some (.int .i64 Sl) := (hb3.cells.1 _ _ (by simp <;> omega)).trans (by simp [go_sem])
    have ql_13 : w3.cell? ⟨w.heap.size, 13, none⟩ = some (.int .i64 Ce) := (hb3.cells.1 _ _ (by simp <;> omega)).trans (by simp [go_sem])
    have pl := World.block_lt_of_cell? _ ⟨w.heap.size, 0, none⟩ ql_0
    have rl := Nat.lt_succ_of_lt pl
    refine wp_region_later (by kernel_rfl) (by kernel_rfl) ?_
    have ll_0 := fun (g : Later w3) => g.ok.cell ql_0
    have ll_1 := fun (g : Later w3) => g.ok.cell ql_1
    have ll_2 := fun (g : Later w3) => g.ok.cell ql_2
    have ll_3 := fun (g : Later w3) => g.ok.cell ql_3
    have ll_4 := fun (g : Later w3) => g.ok.cell ql_4
    have ll_5 := fun (g : Later w3) => g.ok.cell ql_5
    have ll_6 := fun (g : Later w3) => g.ok.cell ql_6
    have ll_7 := fun (g : Later w3) => g.ok.cell ql_7
    have ll_8 := fun (g : Later w3) => g.ok.cell ql_8
    have ll_9 := fun (g : Later w3) => g.ok.cell ql_9
    have ll_10 := fun (g : Later w3) => g.ok.cell ql_10
    have ll_11 := fun (g : Later w3) => g.ok.cell ql_11
    have ll_12 := fun (g : Later w3) => g.ok.cell ql_12
    have ll_13 := fun (g : Later w3) => g.ok.cell ql_13
    repeat (go_big_quiet_step ((fail)))
    go_big_quiet_step ((go_at_call 158; exact laterS (CM.out _)))
    repeat (go_big_quiet_step ((fail)))
    refine wpQuiet_nil ?_
    intro w4 hl4
    have hb4 := laters_ext hl4
    clear hl4 ll_0 ll_1 ll_2 ll_3 ll_4 ll_5 ll_6 ll_7 ll_8 ll_9 ll_10 ll_11 ll_12 ll_13
    have hx4 : Ext w3 w4 := by repeat (first | with_reducible exact Ext.refl _ | with_reducible assumption | with_reducible refine Ext.alloc ?_ _ | with_reducible refine Ext.drew ?_ | with_reducible refine Ext.drewN ?_ _ | with_reducible refine Ext.setCell ?_ (by simp <;> omega) _ | with_reducible refine Ext.trans ?_ (by assumption))
    replace ql_0 := hx4.cell ql_0
    replace ql_1 := hx4.cell ql_1
    replace ql_2 := hx4.cell ql_2
    replace ql_3 := hx4.cell ql_3
    replace ql_4 := hx4.cell ql_4
    replace ql_5 := hx4.cell ql_5
    replace ql_6 := hx4.cell ql_6
    replace ql_7 := hx4.cell ql_7
    replace ql_8 := hx4.cell ql_8
    replace ql_9 := hx4.cell ql_9
    replace ql_10 := hx4.cell ql_10
    replace ql_11 := hx4.cell ql_11
    replace ql_12 := hx4.cell ql_12
    replace ql_13 := hx4.cell ql_13
    replace pl := Nat.lt_of_lt_of_le pl hx4.size
    replace rl := Nat.lt_succ_of_lt pl
    clear hx4
    go_wp2
    go_ret2
    refine ⟨rfl, ?_⟩
    repeat (first | with_reducible exact Ext.refl _ | with_reducible assumption | with_reducible refine Ext.alloc ?_ _ | with_reducible refine Ext.drew ?_ | with_reducible refine Ext.drewN ?_ _ | with_reducible refine Ext.setCell ?_ (by simp <;> omega) _ | with_reducible refine Ext.trans ?_ (by assumption))
end Go.Proofs.YtkmfamidahlgiaaGreatDoor

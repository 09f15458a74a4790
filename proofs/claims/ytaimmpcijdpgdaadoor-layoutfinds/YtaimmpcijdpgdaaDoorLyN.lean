/- layout: Name, Find. -/
import Derived.Test.YtaimmpcijdpgdaaDoorLyK
import Derived.Test.YtaimmpcijdpgdaaDoorFmtS
import Derived.Lib.SlicesS
namespace Go.Proofs.YtaimmpcijdpgdaaDoor
open Go.RowKit
set_option linter.unusedVariables false
set_option linter.unusedSimpArgs false
set_option maxHeartbeats 2000000
attribute [local go_sem] later_cell later_frozen later_const
/-- what a name is read out of -/
structure LEnv (w : World) : Prop where
  parts : Parts w
  pow : Pow w
theorem LEnv.ext {w w' : World} (h : LEnv w) (hx : Ext w w') : LEnv w' := ⟨h.parts.ext hx, h.pow.ext hx⟩
def nmOf (k : Nat) (i : Int) : ByteArray := if pMany k then pName k ++ tx (Lib.itoa i) else pName k
theorem pName_size (k : Nat) : (pName k).size ≤ 7 := by
  unfold pName
  by_cases h : k < 11
  · have : k = 0 ∨ k = 1 ∨ k = 2 ∨ k = 3 ∨ k = 4 ∨ k = 5 ∨ k = 6 ∨ k = 7 ∨ k = 8 ∨ k = 9 ∨ k = 10 := by omega
    rcases this with rfl | rfl | rfl | rfl | rfl | rfl | rfl | rfl | rfl | rfl | rfl <;> decide
  · rw [List.getD, List.getElem?_eq_none (by simp; omega)]; decide
theorem itoa_len (i : Int) (h0 : -9223372036854775808 ≤ i) (h1 : i ≤ 9223372036854775807) : (tx (Lib.itoa i)).size ≤ 21 := by
  rw [tx_size]
  unfold Lib.itoa
  have := dec_len20 (x := i.natAbs) (by omega)
  have h2 := dec_len20 (x := i.toNat) (by omega)
  split
  · simp; omega
  · omega
set_option maxRecDepth 100000 in
theorem lName (V W C P S : Int) (a : Option Addr) (n cap : Nat) (Cu Cl Ti Se Ne Ma Sl Ce c i : Int) (k : Nat) (w : World) (h0 : 0 ≤ Sl) (hM0 : -1 ≤ Ma) (hM1 : Ma ≤ 1000) (hCe : Ce ≤ 1000) (hu : useL V n Cu Cl Ti Se Ne Ma Sl Ce c = ((k : Int), i)) (hk10 : k < 11) (hi0 : -9223372036854775808 ≤ i) (hi1 : i ≤ 9223372036854775807) (E : LEnv w) :
    Calls Tryd.prog 14 #[(.agg #[.int .i64 V, .int .i64 W, .int .i64 C, .int .i64 P, .int .u64 S, .slice a n cap, .int .i64 Cu, .int .i64 Cl, .int .i64 Ti, .int .i64 Se, .int .i64 Ne, .int .i64 Ma, .int .i64 Sl, .int .i64 Ce]), .int .i64 c] w fun e w' => e = .returned (.string (nmOf k i)) ∧ Ext w w' := by
  have CU := fun w => lUse V W C P S a n cap Cu Cl Ti Se Ne Ma Sl Ce c w h0 hM0 hM1 hCe
  rw [hu] at CU
  simp only [] at CU
  have e1 := (E.parts k hk10).1
  have e2 := (E.parts k hk10).2.2
  have hkI : (k : Int) < 11 := by omega
  have HE := Lib.hid E
  have HCU := Lib.hid CU
  have hz1 := pName_size k
  have hz2 := itoa_len i hi0 hi1
  have CS := Lib.hid (fun w' (hx : Ext w w') => cShow i w' hi0 hi1 (E.pow.ext hx))
  clear hu E h0 hM0 hM1 hCe CU hi0 hi1
  unfold nmOf
  generalize hp : pMany k = pm at *
  generalize pName k = nm at *
  generalize tx (Lib.itoa i) = num at *
  clear hp
  have hz3 : nm.size + num.size ≤ 9223372036854775807 := by omega
  cases pm with
  | false =>
    go_enter Tryd.func14, Tryd.ntmps14
    go_wp2_with fail
    refine (HCU.out _).mono ?_
    rintro e w1 ⟨rfl, hb1⟩
    obtain ⟨hc1, hf1⟩ := hb1.cells
    have f1 := (Ext.trans (show Ext w _ by repeat (first | with_reducible exact Ext.refl _ | with_reducible assumption | with_reducible refine Ext.alloc ?_ _ | with_reducible refine Ext.drew ?_ | with_reducible refine Ext.drewN ?_ _ | with_reducible refine Ext.setCell ?_ (by simp <;> omega) _ | with_reducible refine Ext.trans ?_ (by assumption))) hb1).cell e1
    have f2 := (Ext.trans (show Ext w _ by repeat (first | with_reducible exact Ext.refl _ | with_reducible assumption | with_reducible refine Ext.alloc ?_ _ | with_reducible refine Ext.drew ?_ | with_reducible refine Ext.drewN ?_ _ | with_reducible refine Ext.setCell ?_ (by simp <;> omega) _ | with_reducible refine Ext.trans ?_ (by assumption))) hb1).cell e2
    clear e1 e2 hc1 hf1
    go_wp2
    go_ret
    refine ⟨rfl, ?_⟩
    repeat (first | with_reducible exact Ext.refl _ | with_reducible assumption | with_reducible refine Ext.alloc ?_ _ | with_reducible refine Ext.drew ?_ | with_reducible refine Ext.drewN ?_ _ | with_reducible refine Ext.setCell ?_ (by simp <;> omega) _ | with_reducible refine Ext.trans ?_ (by assumption))
  | true =>
    go_enter Tryd.func14, Tryd.ntmps14
    go_wp2_with fail
    refine (HCU.out _).mono ?_
    rintro e w2 ⟨rfl, hb2⟩
    obtain ⟨hc2, hf2⟩ := hb2.cells
    have f1 := (Ext.trans (show Ext w _ by repeat (first | with_reducible exact Ext.refl _ | with_reducible assumption | with_reducible refine Ext.alloc ?_ _ | with_reducible refine Ext.drew ?_ | with_reducible refine Ext.drewN ?_ _ | with_reducible refine Ext.setCell ?_ (by simp <;> omega) _ | with_reducible refine Ext.trans ?_ (by assumption))) hb2).cell e1
    have f2 := (Ext.trans (show Ext w _ by repeat (first | with_reducible exact Ext.refl _ | with_reducible assumption | with_reducible refine Ext.alloc ?_ _ | with_reducible refine Ext.drew ?_ | with_reducible refine Ext.drewN ?_ _ | with_reducible refine Ext.setCell ?_ (by simp <;> omega) _ | with_reducible refine Ext.trans ?_ (by assumption))) hb2).cell e2
    have xx := Ext.trans (show Ext w _ by repeat (first | with_reducible exact Ext.refl _ | with_reducible assumption | with_reducible refine Ext.alloc ?_ _ | with_reducible refine Ext.drew ?_ | with_reducible refine Ext.drewN ?_ _ | with_reducible refine Ext.setCell ?_ (by simp <;> omega) _ | with_reducible refine Ext.trans ?_ (by assumption))) hb2
    clear e1 e2 hc2 hf2
    go_upto_region 4 with (fail)
    refine wp_region_later (by kernel_rfl) (by kernel_rfl) ?_
    have f1' := fun (g : Later w2) => g.ok.cell f1
    repeat (go_big_quiet_step ((fail)))
    go_big_quiet_step ((go_at_call 34; exact laterC (CS.out _ (xx.trans (Later.ok _)))))
    repeat (go_big_quiet_step ((fail)))
    refine wpQuiet_nil ?_
    intro w3 hl3
    have hb3 := laters_ext hl3
    clear hl3
    go_wp2
    go_ret
    refine ⟨rfl, ?_⟩
    repeat (first | with_reducible exact Ext.refl _ | with_reducible assumption | with_reducible refine Ext.alloc ?_ _ | with_reducible refine Ext.drew ?_ | with_reducible refine Ext.drewN ?_ _ | with_reducible refine Ext.setCell ?_ (by simp <;> omega) _ | with_reducible refine Ext.trans ?_ (by assumption))
/-- the least cell with a name -/
def findN (N : Nat → ByteArray) (x : ByteArray) (m : Nat) : Option Nat := (List.range m).find? fun c => decide (N c = x)
def findI (o : Option Nat) : Int := match o with | some c => c | none => 0
theorem findN_none {N : Nat → ByteArray} {x : ByteArray} {m : Nat} (h : ∀ c, c < m → N c ≠ x) : findN N x m = none := by
  unfold findN
  rw [List.find?_eq_none]
  intro c hc
  simpa using h c (by simpa using hc)
theorem findN_some {N : Nat → ByteArray} {x : ByteArray} {m k : Nat} (hk : k < m) (hx : N k = x) (h : ∀ c, c < k → N c ≠ x) : findN N x m = some k := by
  unfold findN
  rw [List.find?_eq_some_iff_getElem]
  refine ⟨by simpa using hx, k, by simpa using hk, by simp, fun j hj => ?_⟩
  simpa using h j hj
def FindDoes (N : Nat → ByteArray) (x : ByteArray) (m : Nat) (w : World) (e : Ending) (w' : World) : Prop := e = .returned (.tuple #[.int .i64 (findI (findN N x m)), .bool (findN N x m).isSome]) ∧ Ext w w'
set_option maxRecDepth 100000 in
theorem lFind (V W C P S : Int) (a : Option Addr) (n cap : Nat) (Cu Cl Ti Se Ne Ma Sl : Int) (m : Nat) (x : ByteArray) (N : Nat → ByteArray) (w : World) (hm : m ≤ 1000)
    (CN : ∀ c : Nat, c < m → ∀ w', Ext w w' → Calls Tryd.prog 14 #[(.agg #[.int .i64 V, .int .i64 W, .int .i64 C, .int .i64 P, .int .u64 S, .slice a n cap, .int .i64 Cu, .int .i64 Cl, .int .i64 Ti, .int .i64 Se, .int .i64 Ne, .int .i64 Ma, .int .i64 Sl, .int .i64 m]), .int .i64 c] w' fun e w'' => e = .returned (.string (N c)) ∧ Ext w' w'') :
    Calls Tryd.prog 23 #[(.agg #[.int .i64 V, .int .i64 W, .int .i64 C, .int .i64 P, .int .u64 S, .slice a n cap, .int .i64 Cu, .int .i64 Cl, .int .i64 Ti, .int .i64 Se, .int .i64 Ne, .int .i64 Ma, .int .i64 Sl, .int .i64 m]), .string x] w (FindDoes N x m w) := by
  have HCN := Lib.hid CN
  clear CN
  have HG : Hid (∀ e w', (e = .returned (.tuple #[.int .i64 (findI (findN N x m)), .bool (findN N x m).isSome]) ∧ Ext w w') → FindDoes N x m w e w') := Lib.hid (fun e w' h => h)
  generalize FindDoes N x m w = G at *
  go_enter Tryd.func23, Tryd.ntmps23
  go_upto_region 2 with (fail)
  refine settle_wp ?_
  intro wB hb
  have q_0 : wB.cell? ⟨w.heap.size, 0, none⟩ = some (.int .i64 V) := (hb.cells.1 _ _ (by simp <;> omega)).trans (by simp [go_sem])
  have q_1 : wB.cell? ⟨w.heap.size, 1, none⟩ = some (.int .i64 W) := (hb.cells.1 _ _ (by simp <;> omega)).trans (by simp [go_sem])
  have q_2 : wB.cell? ⟨w.heap.size, 2, none⟩ = some (.int .i64 C) := (hb.cells.1 _ _ (by simp <;> omega)).trans (by simp [go_sem])
  have q_3 : wB.cell? ⟨w.heap.size, 3, none⟩ = some (.int .i64 P) := (hb.cells.1 _ _ (by simp <;> omega)).trans (by simp [go_sem])
  have q_4 : wB.cell? ⟨w.heap.size, 4, none⟩ = some (.int .u64 S) := (hb.cells.1 _ _ (by simp <;> omega)).trans (by simp [go_sem])
  have q_5 : wB.cell? ⟨w.heap.size, 5, none⟩ = some (.slice a n cap) := (hb.cells.1 _ _ (by simp <;> omega)).trans (by simp [go_sem])
  have q_6 : wB.cell? ⟨w.heap.size, 6, none⟩ = some (.int .i64 Cu) := (hb.cells.1 _ _ (by simp <;> omega)).trans (by simp [go_sem])
  have q_7 : wB.cell? ⟨w.heap.size, 7, none⟩ = some (.int .i64 Cl) := (hb.cells.1 _ _ (by simp <;> omega)).trans (by simp [go_sem])
  have q_8 : wB.cell? ⟨w.heap.size, 8, none⟩ = some (.int .i64 Ti) := (hb.cells.1 _ _ (by simp <;> omega)).trans (by simp [go_sem])
  have q_9 : wB.cell? ⟨w.heap.size, 9, none⟩ = some (.int .i64 Se) := (hb.cells.1 _ _ (by simp <;> omega)).trans (by simp [go_sem])
  have q_10 : wB.cell? ⟨w.heap.size, 10, none⟩ = some (.int .i64 Ne) := (hb.cells.1 _ _ (by simp <;> omega)).trans (by simp [go_sem])
  have q_11 : wB.cell? ⟨w.heap.size, 11, none⟩ = some (.int .i64 Ma) := (hb.cells.1 _ _ (by simp <;> omega)).trans (by simp [go_sem])
  have q_12 : wB.cell? ⟨w.heap.size, 12, none⟩ = some (.int .i64 Sl) := (hb.cells.1 _ _ (by simp <;> omega)).trans (by simp [go_sem])
  have q_13 : wB.cell? ⟨w.heap.size, 13, none⟩ = some (.int .i64 m) := (hb.cells.1 _ _ (by simp <;> omega)).trans (by simp [go_sem])
  have EB : Ext w wB := by repeat (first | with_reducible exact Ext.refl _ | with_reducible assumption | with_reducible refine Ext.alloc ?_ _ | with_reducible refine Ext.drew ?_ | with_reducible refine Ext.drewN ?_ _ | with_reducible refine Ext.setCell ?_ (by simp <;> omega) _ | with_reducible refine Ext.trans ?_ (by assumption))
  clear hb
  go_loopw [9] (fun i wr => ∃ k : Nat, k ≤ m ∧ i = .int .i64 k ∧ Ext wB wr ∧ Hid (∀ c, c < k → N c ≠ x)) (fun i _ => m - (intOf i).toNat)
  case atStart => exact ⟨0, Nat.zero_le _, rfl, Ext.refl _, Lib.hid fun c hc => by omega⟩
  case round =>
    obtain ⟨k, hk, rfl, hx, HP⟩ := hrel
    by_cases hlt : k < m
    · have hkm : (k : Int) < (m : Int) := by omega
      have p_0 := hx.cell q_0
      have p_1 := hx.cell q_1
      have p_2 := hx.cell q_2
      have p_3 := hx.cell q_3
      have p_4 := hx.cell q_4
      have p_5 := hx.cell q_5
      have p_6 := hx.cell q_6
      have p_7 := hx.cell q_7
      have p_8 := hx.cell q_8
      have p_9 := hx.cell q_9
      have p_10 := hx.cell q_10
      have p_11 := hx.cell q_11
      have p_12 := hx.cell q_12
      have p_13 := hx.cell q_13
      have HX := Lib.hid hx
      clear hx
      have CK := Lib.hid (fun w' (h : Ext w w') => HCN.out k hlt w' h)
      by_cases he : N k = x
      · have HF := Lib.hid (findN_some hlt he HP.out)
        rw [he] at CK
        clear he
        go_wp2_with fail
        refine (CK.out _ (EB.trans HX.out)).mono ?_
        rintro e w3 ⟨rfl, X3⟩
        have HG2 := Lib.hid (HG.out (.returned (.tuple #[.int .i64 k, .bool true])) w3 ⟨by rw [HF.out]; rfl, (EB.trans HX.out).trans X3⟩)
        clear X3
        go_wp2
        exact HG2.out
      · have d : ((N k).toList == x.toList) = false := (Lib.bytes_beq_false_iff _ _).2 he
        have HP2 : Hid (∀ c, c < k + 1 → N c ≠ x) := Lib.hid fun c hc => by
          by_cases e : c = k
          · subst e; exact he
          · exact HP.out c (by omega)
        generalize N k = y at *
        clear he
        go_wp2_with fail
        refine (CK.out _ (EB.trans HX.out)).mono ?_
        rintro e w3 ⟨rfl, X3⟩
        have HX3 := Lib.hid (HX.out.trans X3)
        clear X3
        go_wp2
        exact ⟨⟨k + 1, by omega, by go_num, HX3.out, HP2⟩, by simp [intOf]; omega⟩
    · obtain rfl : k = m := by omega
      have HG2 := Lib.hid (HG.out (.returned (.tuple #[.int .i64 0, .bool false])) wr ⟨by rw [findN_none HP.out]; rfl, EB.trans hx⟩)
      clear hx HP
      go_wp2
      exact HG2.out
end Go.Proofs.YtaimmpcijdpgdaaDoor

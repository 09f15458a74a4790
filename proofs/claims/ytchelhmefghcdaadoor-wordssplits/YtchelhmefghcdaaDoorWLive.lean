/- words.Split where the text is no line; live of layer 6. -/
import Derived.Test.YtchelhmefghcdaaDoorIsL
import Derived.Test.YtchelhmefghcdaaDoorWList
namespace Go.Proofs.YtchelhmefghcdaaDoor
open Go.RowKit
set_option linter.unusedVariables false
set_option maxHeartbeats 2000000
set_option maxRecDepth 100000 in
theorem cSplit_no (l : List UInt8) (w : World) (hl : l.length ≤ 65536) (h : isLineB l = false) :
    Calls Tryd.prog 8 #[.string (tx l)] w fun e w' => e = .returned (.tuple #[.slice none 0 0, .int .i64 20]) ∧ Ext w w' := by
  have c := cIsLine l w (by omega)
  rw [h] at c
  have hsz : decide ((65536 : Int) < ((tx l).size : Int)) = false := by rw [tx_size]; simp; omega
  generalize tx l = s at *
  go_enter Tryd.func8, Tryd.ntmps8
  go_wp2_with fail
  refine c.mono ?_
  rintro e w1 ⟨rfl, hw1⟩
  go_wp2
  go_ret2
  exact ⟨rfl, hw1⟩
theorem dec1 (x : Nat) (h : x < 10) : Lib.decDigits x = [UInt8.ofNat (48 + x)] := by unfold Lib.decDigits; rw [dif_pos h]
theorem num_1 : numOf [49] = some 1 := by
  have h : Lib.atoiAll [49] = .ok 1 := by rfl
  have e : Lib.itoa 1 = [49] := by rw [show (1 : Int) = ((1 : Nat) : Int) from rfl, Lib.itoa_nonneg, dec1 1 (by decide)]; rfl
  unfold numOf
  rw [h]
  simp [e]
theorem num_m2 : numOf [45, 50] = some (-2) := by
  have h : Lib.atoiAll [45, 50] = .ok (-2) := by rfl
  have e : Lib.itoa (-2) = [45, 50] := by rw [show (-2 : Int) = -((2 : Nat) : Int) from rfl, Lib.itoa_neg 2 (by decide), dec1 2 (by decide)]; rfl
  unfold numOf
  rw [h]
  simp [e]
theorem num_007 : numOf [48, 48, 55] = none := by
  have h : Lib.atoiAll [48, 48, 55] = .ok 7 := by rfl
  have e : Lib.itoa 7 = [55] := by rw [show (7 : Int) = ((7 : Nat) : Int) from rfl, Lib.itoa_nonneg, dec1 7 (by decide)]; rfl
  unfold numOf
  rw [h]
  simp [e]
theorem split_l : Lib.splitB comma 0 (Lib.countB (tx [49, 44, 45, 50]) comma) (tx [49, 44, 45, 50]) = [[49], [45, 50]].map tx := by kernel_rfl
theorem split_n : ([[49], [45, 50]] : List (List UInt8)).length = Lib.countB (tx [49, 44, 45, 50]) comma + 1 := by kernel_rfl
theorem list_live (w : World) (E : Env w) : Calls Tryd.prog 22 #[.string (tx [49, 44, 45, 50])] w fun e w' => ∃ v, e = .returned (.tuple #[v, .bool true]) ∧ IntsV w' v [1, -2] ∧ Ext w w' := by
  refine (cList [49, 44, 45, 50] [[49], [45, 50]] w (by decide) (by decide) split_l split_n (by decide) (by decide) E).mono ?_
  rintro e w2 ⟨X2, ⟨_, v, rfl, hI⟩ | ⟨hno, _⟩⟩
  · refine ⟨v, rfl, ?_, X2⟩
    have e : ([[49], [45, 50]] : List (List UInt8)).map numV = [1, -2] := by simp [numV, num_1, num_m2]
    rwa [e] at hI
  · exact absurd (by simp [isNum, num_1, num_m2]) hno
theorem num_live (w : World) (E : Env w) : Calls Tryd.prog 20 #[.string (tx [48, 48, 55])] w fun e w' => e = .returned (.tuple #[.int .i64 0, .bool false]) ∧ Ext w w' := by
  have := cNum [48, 48, 55] w (by decide) E
  rw [num_007] at this
  exact this
set_option maxRecDepth 100000 in
theorem live06 (w : World) (E : Env w) : Calls Tryd.prog 7 #[] w fun e w' => e = .returned (.bool true) ∧ Ext w w' := by
  have c1 : Hid (∀ w, Calls Tryd.prog 8 #[.string { data := #[97, 32, 32, 98] }] w fun e w' => e = .returned (.tuple #[.slice none 0 0, .int .i64 20]) ∧ Ext w w') := Lib.hid (fun w => cSplit_no [97, 32, 32, 98] w (by decide) (by decide))
  have c2 : Hid (∀ w, Env w → Calls Tryd.prog 22 #[.string { data := #[49, 44, 45, 50] }] w fun e w' => ∃ v, e = .returned (.tuple #[v, .bool true]) ∧ IntsV w' v [1, -2] ∧ Ext w w') := Lib.hid (fun w E => list_live w E)
  have c3 : Hid (∀ w, Env w → Calls Tryd.prog 20 #[.string { data := #[48, 48, 55] }] w fun e w' => e = .returned (.tuple #[.int .i64 0, .bool false]) ∧ Ext w w') := Lib.hid (fun w E => num_live w E)
  go_enter Tryd.func7, Tryd.ntmps7
  go_wp2_with fail
  refine (c1.out _).mono ?_
  rintro e w1 ⟨rfl, X1⟩
  go_wp2_with fail
  refine (c2.out _ (E.later X1)).mono ?_
  rintro e w2 ⟨v, rfl, hI, X2⟩
  have HI := Lib.hid hI
  have Y2 := X1.trans X2
  clear hI X2 X1
  go_wp2_with fail
  refine (c3.out _ (E.later Y2)).mono ?_
  rintro e w3 ⟨rfl, X3⟩
  have HI3 := Lib.hid (HI.out.ext X3)
  have Y3 := Y2.trans X3
  clear HI X3 Y2
  go_wp2_with fail
  have hc : IntsV (w3.alloc (.cells #[.int .i64 1, .int .i64 (-2)] 3)) (.slice (some ⟨w3.heap.size, 0, none⟩) 2 2) [1, -2] := .inr ⟨w3.heap.size, 0, 2, rfl, fun j hj => by
    rw [Nat.zero_add, World.cell?_alloc_new]
    match j, hj with
    | 0, _ => rfl
    | 1, _ => rfl⟩
  refine (same5 v _ [1, -2] _ (HI3.out.ext ((Ext.refl w3).alloc _)) hc (by decide)).mono ?_
  rintro e w4 ⟨rfl, X4⟩
  have Y4 := (Y3.alloc _).trans X4
  clear hc X4 HI3
  go_wp2
  go_ret
  exact ⟨rfl, Y4⟩
end Go.Proofs.YtchelhmefghcdaaDoor

/- The document's Find and Mark; the law's live. -/
import Derived.Test.YtaimmpcijdpgdaaDoorLyM
import Derived.Test.YtaimmpcijdpgdaaDoorCf6
import Derived.Test.YtaimmpcijdpgdaaDoorCf5
import Derived.Test.YtaimmpcijdpgdaaDoorCf2
import Derived.Test.YtaimmpcijdpgdaaDoorLong
namespace Go.Proofs.YtaimmpcijdpgdaaDoor
open Go.RowKit
set_option linter.unusedVariables false
set_option linter.unusedSimpArgs false
set_option maxHeartbeats 2000000
attribute [local go_sem] later_cell later_frozen later_const
def fnd (o : Option Nat) : Int := match o with | some c => c | none => -1
def FndDoes (N : Nat → ByteArray) (x : ByteArray) (m : Nat) (w : World) (e : Ending) (w' : World) : Prop := e = .returned (.int .i64 (fnd (findN N x m))) ∧ w = w'
/-- the document's Find, over a list whose names are known -/
theorem rFind (g m cap : Nat) (x : ByteArray) (N : Nat → ByteArray) (w : World) (hm : m ≤ 1000) (hN : ∀ c, c < m → w.cell? ⟨g, c * 3, none⟩ = some (.string (N c))) :
    Calls Tryd.prog 17 #[.slice (some ⟨g, 0, none⟩) m cap, .string x] w (FndDoes N x m w) := by
  have HN := Lib.hid hN
  have HG : Hid (∀ e w', (e = .returned (.int .i64 (fnd (findN N x m))) ∧ w = w') → FndDoes N x m w e w') := Lib.hid (fun e w' h => h)
  generalize FndDoes N x m w = G at *
  clear hN
  go_enter Tryd.func17, Tryd.ntmps17
  go_wp2
  go_loopw [5] (fun i wr => ∃ k : Nat, k ≤ m ∧ i = .int .i64 k ∧ w = wr ∧ Hid (∀ c, c < k → N c ≠ x)) (fun i _ => m - (intOf i).toNat)
  case atStart => exact ⟨0, Nat.zero_le _, rfl, rfl, Lib.hid fun c hc => by omega⟩
  case round =>
    obtain ⟨k, hk, rfl, rfl, HP⟩ := hrel
    by_cases hlt : k < m
    · have hkm : (k : Int) < (m : Int) := by omega
      have q := HN.out k hlt
      by_cases he : N k = x
      · have HF := Lib.hid (findN_some hlt he HP.out)
        rw [he] at q
        have HG2 := Lib.hid (HG.out (.returned (.int .i64 k)) w ⟨by rw [HF.out]; rfl, rfl⟩)
        clear he
        go_wp2
        exact HG2.out
      · have d : ((N k).toList == x.toList) = false := (Lib.bytes_beq_false_iff _ _).2 he
        have HP2 : Hid (∀ c, c < k + 1 → N c ≠ x) := Lib.hid fun c hc => by
          by_cases e : c = k
          · subst e; exact he
          · exact HP.out c (by omega)
        generalize N k = y at *
        clear he
        go_wp2
        exact ⟨⟨k + 1, by omega, by go_num, by first | trivial | rfl, HP2⟩, by simp [intOf]; omega⟩
    · obtain rfl : k = m := by omega
      have HG2 := Lib.hid (HG.out (.returned (.int .i64 (-1))) w ⟨by rw [findN_none HP.out]; rfl, rfl⟩)
      clear HP
      go_wp2
      exact HG2.out
theorem dec_one (x : Nat) (h : x < 10) : Lib.itoa (x : Int) = [UInt8.ofNat (48 + x)] := by
  unfold Lib.itoa
  rw [if_neg (by omega), show (x : Int).toNat = x by omega, Lib.decDigits, dif_pos h]
theorem nm_done1 : nmOf 9 1 = ⟨#[100, 111, 110, 101, 49]⟩ := by
  have := dec_one 1 (by omega)
  rw [nm_tx 1 (by omega)]
  unfold nlOf
  rw [show pMany 9 = true from rfl, if_pos rfl, show ((1 : Int)) = ((1 : Nat) : Int) from rfl, this]
  rfl
theorem nm_slot0 : nmOf 10 0 = ⟨#[115, 108, 111, 116, 48]⟩ := by
  have := dec_one 0 (by omega)
  rw [nm_tx 0 (by omega)]
  unfold nlOf
  rw [show pMany 10 = true from rfl, if_pos rfl, show ((0 : Int)) = ((0 : Nat) : Int) from rfl, this]
  rfl
theorem ckL : ckC 5 32 2 1 [[]] = 0 := by decide +kernel
theorem layL (u : Value) : layV 5 32 2 1 4294967294 u 1 = (.agg #[.int .i64 5, .int .i64 32, .int .i64 2, .int .i64 1, .int .u64 4294967294, u, .int .i64 (-1), .int .i64 (-1), .int .i64 1, .int .i64 2, .int .i64 3, .int .i64 4, .int .i64 6, .int .i64 8]) := by simp [layV, nCu, nCl, nTi, nSe, nNe, nMa, nSl, nCe]
set_option maxRecDepth 100000 in
theorem live11 (w : World) (E : LEnv w) : Calls Tryd.prog 8 #[] w fun e w' => e = .returned (.bool true) ∧ Ext w w' := by
  have c1 := fun u w h => lOf_ok 5 32 2 1 4294967294 u [[]] w h (by simp) (by simp) ckL
  have c2 := fun (a : Option Addr) (cap : Nat) w' (hx : Ext w w') => lName 5 32 2 1 4294967294 a 1 cap (-1) (-1) 1 2 3 4 6 8 5 1 9 w' (by omega) (by omega) (by omega) (by omega) (by decide) (by omega) (by omega) (by omega) (E.ext hx)
  have c3 := fun (a : Option Addr) (cap : Nat) w' (hx : Ext w w') => lKind 5 32 2 1 4294967294 a 1 cap (-1) (-1) 1 2 3 4 6 8 3 w' (by omega) (by omega) (by omega) (by omega) (E.parts.ext hx)
  have c4 := fun (a : Option Addr) (cap : Nat) w' (hx : Ext w w') => lKind 5 32 2 1 4294967294 a 1 cap (-1) (-1) 1 2 3 4 6 8 7 w' (by omega) (by omega) (by omega) (by omega) (E.parts.ext hx)
  rw [nm_done1] at c2
  rw [show pKind (useL 5 ((1 : Nat) : Int) (-1) (-1) 1 2 3 4 6 8 3).1.toNat = 2 by decide] at c3
  rw [show pKind (useL 5 ((1 : Nat) : Int) (-1) (-1) 1 2 3 4 6 8 7).1.toNat = 3 by decide] at c4
  have C1 := Lib.hid c1
  have C2 := Lib.hid c2
  have C3 := Lib.hid c3
  have C4 := Lib.hid c4
  clear c1 c2 c3 c4 E
  go_enter Tryd.func8, Tryd.ntmps8
  go_wp2_with fail
  refine (plain10 _).mono ?_
  rintro e w1 ⟨b1, rfl, L1, X1⟩
  have HL1 := Lib.hid (L1.ext ((Ext.refl w1).alloc (.cells #[.int .i64 5, .int .i64 32, .int .i64 2, .int .i64 1, .int .u64 4294967294, .slice (some ⟨b1, 0, none⟩) 1 1] 25)))
  clear L1
  go_wp2_with fail
  refine (C1.out _ _ HL1.out).mono ?_
  rintro e w2 ⟨u2, rfl, O2, X2⟩
  obtain ⟨b2, f2, cur2, e2, -⟩ := id O2
  rw [show (([[]] : List (List Int)).length) = 1 from rfl] at e2 ⊢
  subst e2
  rw [show ((1 : Nat) : Int) = 1 from rfl, layL]
  have E2 : Ext w w2 := X1.trans (Ext.trans ((Ext.refl w1).alloc _) X2)
  clear X1 X2 O2
  go_wp2_with fail
  refine (C2.out _ _ _ (E2.alloc _)).mono ?_
  rintro e w3 ⟨rfl, X3⟩
  have hb3 := X3
  have ql_0 : w3.cell? ⟨w2.heap.size, 0, none⟩ = some (.int .i64 5) := (hb3.cells.1 _ _ (by simp <;> omega)).trans (by simp [go_sem])
  have ql_1 : w3.cell? ⟨w2.heap.size, 1, none⟩ = some (.int .i64 32) := (hb3.cells.1 _ _ (by simp <;> omega)).trans (by simp [go_sem])
  have ql_2 : w3.cell? ⟨w2.heap.size, 2, none⟩ = some (.int .i64 2) := (hb3.cells.1 _ _ (by simp <;> omega)).trans (by simp [go_sem])
  have ql_3 : w3.cell? ⟨w2.heap.size, 3, none⟩ = some (.int .i64 1) := (hb3.cells.1 _ _ (by simp <;> omega)).trans (by simp [go_sem])
  have ql_4 : w3.cell? ⟨w2.heap.size, 4, none⟩ = some (.int .u64 4294967294) := (hb3.cells.1 _ _ (by simp <;> omega)).trans (by simp [go_sem])
  have ql_5 : w3.cell? ⟨w2.heap.size, 5, none⟩ = some (.slice (some ⟨b2, 0, none⟩) 1 1) := (hb3.cells.1 _ _ (by simp <;> omega)).trans (by simp [go_sem])
  have ql_6 : w3.cell? ⟨w2.heap.size, 6, none⟩ = some (.int .i64 (-1)) := (hb3.cells.1 _ _ (by simp <;> omega)).trans (by simp [go_sem])
  have ql_7 : w3.cell? ⟨w2.heap.size, 7, none⟩ = some (.int .i64 (-1)) := (hb3.cells.1 _ _ (by simp <;> omega)).trans (by simp [go_sem])
  have ql_8 : w3.cell? ⟨w2.heap.size, 8, none⟩ = some (.int .i64 1) := (hb3.cells.1 _ _ (by simp <;> omega)).trans (by simp [go_sem])
  have ql_9 : w3.cell? ⟨w2.heap.size, 9, none⟩ = some (.int .i64 2) := (hb3.cells.1 _ _ (by simp <;> omega)).trans (by simp [go_sem])
  have ql_10 : w3.cell? ⟨w2.heap.size, 10, none⟩ = some (.int .i64 3) := (hb3.cells.1 _ _ (by simp <;> omega)).trans (by simp [go_sem])
  have ql_11 : w3.cell? ⟨w2.heap.size, 11, none⟩ = some (.int .i64 4) := (hb3.cells.1 _ _ (by simp <;> omega)).trans (by simp [go_sem])
  have ql_12 : w3.cell? ⟨w2.heap.size, 12, none⟩ = some (.int .i64 6) := (hb3.cells.1 _ _ (by simp <;> omega)).trans (by simp [go_sem])
  have ql_13 : w3.cell? ⟨w2.heap.size, 13, none⟩ = some (.int .i64 8) := (hb3.cells.1 _ _ (by simp <;> omega)).trans (by simp [go_sem])
  have E3 := (E2.alloc (.cells #[.int .i64 5] 0)).trans (Ext.refl _)
  clear E3
  have E3 : Ext w w3 := Ext.trans (E2.alloc _) X3
  clear X3 hb3
  go_wp2_with fail
  refine (C3.out _ _ _ E3).mono ?_
  rintro e w4 ⟨rfl, X4⟩
  replace ql_0 := X4.cell ql_0
  replace ql_1 := X4.cell ql_1
  replace ql_2 := X4.cell ql_2
  replace ql_3 := X4.cell ql_3
  replace ql_4 := X4.cell ql_4
  replace ql_5 := X4.cell ql_5
  replace ql_6 := X4.cell ql_6
  replace ql_7 := X4.cell ql_7
  replace ql_8 := X4.cell ql_8
  replace ql_9 := X4.cell ql_9
  replace ql_10 := X4.cell ql_10
  replace ql_11 := X4.cell ql_11
  replace ql_12 := X4.cell ql_12
  replace ql_13 := X4.cell ql_13
  have E4 := E3.trans X4
  clear X4
  go_wp2_with fail
  refine (C4.out _ _ _ E4).mono ?_
  rintro e w5 ⟨rfl, X5⟩
  have E5 := E4.trans X5
  clear X5
  go_wp2
  go_ret
  exact ⟨rfl, E5⟩
end Go.Proofs.YtaimmpcijdpgdaaDoor

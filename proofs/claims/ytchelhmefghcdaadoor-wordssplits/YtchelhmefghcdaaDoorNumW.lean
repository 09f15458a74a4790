/- words.Num, words.Big: the number that a word is. -/
import Derived.Test.YtchelhmefghcdaaDoorFmt
import Derived.Lib.AtoiErrMem
import Derived.Lib.SlicesS
namespace Go.Proofs.YtchelhmefghcdaaDoor
open Go.RowKit
set_option linter.unusedVariables false
set_option maxHeartbeats 2000000
theorem tx_eq (s : ByteArray) : tx s.data.toList = s := by simp [tx]
theorem tx_list (l : List UInt8) : (tx l).data.toList = l := by simp [tx]
theorem tx_inj {a b : List UInt8} (h : tx a = tx b) : a = b := by rw [← tx_list a, h, tx_list]
theorem tx_beq (a b : List UInt8) : ((tx a).toList == (tx b).toList) = decide (a = b) := by
  by_cases e : a = b
  · rw [e]; simp
  · rw [decide_eq_false e]
    exact (Lib.bytes_beq_false_iff _ _).2 fun e' => e (tx_inj e')
theorem atoi_range {l : List UInt8} {v : Int} (h : Lib.atoiAll l = .ok v) : -9223372036854775808 ≤ v ∧ v ≤ 9223372036854775807 := by
  unfold Lib.atoiAll at h
  split at h
  · cases h
  · simp only at h
    split at h
    · cases h
    · cases h
    · split at h
      · cases h
      · split at h
        · cases h
        · simp only [Lib.NumEnd.ok.injEq] at h
          split at h <;> omega
theorem pum_lt (mx : Nat) : ∀ (l : List UInt8) (acc u : Nat), acc ≤ mx → Lib.parseUintM mx acc l = .ok u → u ≤ mx := by
  intro l
  induction l with
  | nil => intro acc u h e; simp only [Lib.parseUintM, Lib.NumEnd.ok.injEq] at e; omega
  | cons c r ih =>
    intro acc u h e
    unfold Lib.parseUintM at e
    repeat' split at e
    all_goals first | (cases e; done) | (exact ih _ _ (by omega) e)
theorem pu_range {l : List UInt8} {u : Nat} (h : Lib.parseUintB 64 l = .ok u) : u < 18446744073709551616 := by
  unfold Lib.parseUintB at h
  split at h
  · cases h
  · have := pum_lt _ l 0 u (by omega) h
    omega
/-- the number that a word is, as the program finds it -/
def numOf (l : List UInt8) : Option Int := match Lib.atoiAll l with
  | .ok v => if Lib.itoa v = l then some v else none
  | _ => none
def bigOf (l : List UInt8) : Option Nat := match Lib.parseUintB 64 l with
  | .ok u => if Lib.decDigits u = l then some u else none
  | _ => none
theorem numOf_range {l : List UInt8} {v : Int} (h : numOf l = some v) : -9223372036854775808 ≤ v ∧ v ≤ 9223372036854775807 := by
  unfold numOf at h
  split at h
  · split at h
    · cases h; exact atoi_range (by assumption)
    · cases h
  · cases h
theorem atoi_does (l : List UInt8) (w : World) (hl : l.length ≤ 281474976710656) (E : Env w) :
    (∀ v, Lib.atoiAll l = .ok v → Calls Tryd.prog 33 #[.string (tx l)] w fun e w' => e = .returned (.tuple #[.int .i64 v, .nilIface]) ∧ Ext w w') ∧
    ((∀ v, Lib.atoiAll l ≠ .ok v) → Calls Tryd.prog 33 #[.string (tx l)] w fun e w' => ∃ (n : Int) (N : Nat), e = .returned (.tuple #[.int .i64 n, .iface 78 (.pointer (some ⟨N, 0, none⟩))]) ∧ Ext w w') := by
  obtain ⟨t, p, hs⟩ := E.syn
  obtain ⟨t', p', hr⟩ := E.rng
  have hsz : (tx l).size = l.length := rfl
  refine ⟨fun v h => ?_, fun h => ?_⟩
  · refine (Tryd.strconv_Atoi_ok (tx l) (by omega) v (by rw [tx_list]; exact h) w).mono ?_
    rintro e w' ⟨rfl, rfl | ⟨t, rfl⟩⟩
    · exact ⟨rfl, Ext.refl _⟩
    · exact ⟨rfl, Lib.bytesWorld_below _ _ _⟩
  · cases hA : Lib.atoiAll l with
    | ok v => exact absurd hA (h v)
    | «syntax» =>
      refine (Tryd.strconv_Atoi_syntax (tx l) (by omega) (by rw [tx_list]; exact hA) _ w hs (Or.inr ⟨_, _, rfl⟩)).mono ?_
      rintro e w' ⟨N, rfl, _, _, hb⟩
      exact ⟨_, N, rfl, hb⟩
    | range =>
      refine (Tryd.strconv_Atoi_range (tx l) (by omega) (by rw [tx_list]; exact hA) _ w hr (Or.inr ⟨_, _, rfl⟩)).mono ?_
      rintro e w' ⟨N, rfl, _, _, hb⟩
      exact ⟨_, N, rfl, hb⟩
theorem pu_does (l : List UInt8) (w : World) (hl : l.length ≤ 281474976710656) (E : Env w) :
    (∀ u, Lib.parseUintB 64 l = .ok u → Calls Tryd.prog 34 #[.string (tx l), .int .i64 10, .int .i64 64] w fun e w' => e = .returned (.tuple #[.int .u64 u, .nilIface]) ∧ Ext w w') ∧
    ((∀ u, Lib.parseUintB 64 l ≠ .ok u) → Calls Tryd.prog 34 #[.string (tx l), .int .i64 10, .int .i64 64] w fun e w' => ∃ (n : Int) (N : Nat), e = .returned (.tuple #[.int .u64 n, .iface 78 (.pointer (some ⟨N, 0, none⟩))]) ∧ Ext w w') := by
  obtain ⟨t, p, hs⟩ := E.syn
  obtain ⟨t', p', hr⟩ := E.rng
  have hsz : (tx l).size = l.length := rfl
  refine ⟨fun v h => ?_, fun h => ?_⟩
  · refine (Tryd.strconv_ParseUint_10_at64_ok (tx l) (by omega) v (by rw [tx_list]; exact h) w).mono ?_
    rintro e w' ⟨rfl, rfl | rfl⟩
    · exact ⟨rfl, Ext.refl _⟩
    · exact ⟨rfl, Lib.bytesWorld_below _ _ _⟩
  · cases hA : Lib.parseUintB 64 l with
    | ok v => exact absurd hA (h v)
    | «syntax» =>
      refine (Tryd.strconv_ParseUint_10_at64_syntax (tx l) (by omega) (by rw [tx_list]; exact hA) _ w hs (Or.inr ⟨_, _, rfl⟩)).mono ?_
      rintro e w' ⟨N, rfl, _, _, hb⟩
      exact ⟨_, N, rfl, hb⟩
    | range =>
      refine (Tryd.strconv_ParseUint_10_at64_range (tx l) (by omega) (by rw [tx_list]; exact hA) _ w hr (Or.inr ⟨_, _, rfl⟩)).mono ?_
      rintro e w' ⟨N, rfl, _, _, hb⟩
      exact ⟨_, N, rfl, hb⟩
set_option maxRecDepth 100000 in
theorem cNum_err (l : List UInt8) (w : World) (hl : l.length ≤ 281474976710656) (E : Env w) (h : ∀ v, Lib.atoiAll l ≠ .ok v) :
    Calls Tryd.prog 20 #[.string (tx l)] w fun e w' => e = .returned (.tuple #[.int .i64 0, .bool false]) ∧ Ext w w' := by
  have c := (atoi_does l w hl E).2 h
  generalize tx l = s at *
  go_enter Tryd.func20, Tryd.ntmps20
  go_wp2_with fail
  refine c.mono ?_
  rintro e w' ⟨n, N, rfl, hw⟩
  go_wp2
  go_ret2
  exact ⟨rfl, hw⟩
set_option maxRecDepth 100000 in
theorem cNum_ok (l : List UInt8) (w : World) (hl : l.length ≤ 281474976710656) (E : Env w) (v : Int) (h : Lib.atoiAll l = .ok v) (b : Bool) (hb : b = decide (Lib.itoa v = l)) :
    Calls Tryd.prog 20 #[.string (tx l)] w fun e w' => e = .returned (.tuple #[.int .i64 (if b then v else 0), .bool b]) ∧ Ext w w' := by
  have c := (atoi_does l w hl E).1 v h
  obtain ⟨h0, h1⟩ := atoi_range h
  have hne : ((tx (Lib.itoa v)).toList == (tx l).toList) = b := by rw [hb]; exact tx_beq _ _
  have d := fun w (E : Env w) => cShow v w h0 h1 E
  generalize tx l = s at *
  generalize tx (Lib.itoa v) = s' at *
  clear hb h
  go_enter Tryd.func20, Tryd.ntmps20
  go_wp2_with fail
  refine c.mono ?_
  rintro e w1 ⟨rfl, hw⟩
  go_wp2_with fail
  refine (d _ (E.later hw)).mono ?_
  rintro e w2 ⟨rfl, hw2⟩
  cases b
  · go_wp2
    go_ret2
    exact ⟨rfl, hw.trans hw2⟩
  · go_wp2
    go_ret2
    exact ⟨rfl, hw.trans hw2⟩
theorem cNum (l : List UInt8) (w : World) (hl : l.length ≤ 281474976710656) (E : Env w) :
    Calls Tryd.prog 20 #[.string (tx l)] w fun e w' => e = .returned (.tuple #[.int .i64 ((numOf l).getD 0), .bool (numOf l).isSome]) ∧ Ext w w' := by
  unfold numOf
  split
  · rename_i v h
    have := cNum_ok l w hl E v h _ rfl
    by_cases e : Lib.itoa v = l
    · simpa [e] using this
    · simpa [e] using this
  · rename_i h
    exact cNum_err l w hl E h
set_option maxRecDepth 100000 in
theorem cBig_err (l : List UInt8) (w : World) (hl : l.length ≤ 281474976710656) (E : Env w) (h : ∀ v, Lib.parseUintB 64 l ≠ .ok v) :
    Calls Tryd.prog 21 #[.string (tx l)] w fun e w' => e = .returned (.tuple #[.int .u64 0, .bool false]) ∧ Ext w w' := by
  have c := (pu_does l w hl E).2 h
  generalize tx l = s at *
  go_enter Tryd.func21, Tryd.ntmps21
  go_wp2_with fail
  refine c.mono ?_
  rintro e w' ⟨n, N, rfl, hw⟩
  go_wp2
  go_ret2
  exact ⟨rfl, hw⟩
set_option maxRecDepth 100000 in
theorem cBig_ok (l : List UInt8) (w : World) (hl : l.length ≤ 281474976710656) (E : Env w) (v : Nat) (h : Lib.parseUintB 64 l = .ok v) (b : Bool) (hb : b = decide (Lib.decDigits v = l)) :
    Calls Tryd.prog 21 #[.string (tx l)] w fun e w' => e = .returned (.tuple #[.int .u64 (if b then (v : Int) else 0), .bool b]) ∧ Ext w w' := by
  have c := (pu_does l w hl E).1 v h
  have h1 := pu_range h
  have hne : ((tx (Lib.decDigits v)).toList == (tx l).toList) = b := by rw [hb]; exact tx_beq _ _
  have d := fun w (E : Env w) => cShowBig v w h1 E
  generalize tx l = s at *
  generalize tx (Lib.decDigits v) = s' at *
  clear hb h
  go_enter Tryd.func21, Tryd.ntmps21
  go_wp2_with fail
  refine c.mono ?_
  rintro e w1 ⟨rfl, hw⟩
  go_wp2_with fail
  refine (d _ (E.later hw)).mono ?_
  rintro e w2 ⟨rfl, hw2⟩
  cases b
  · go_wp2
    go_ret2
    exact ⟨rfl, hw.trans hw2⟩
  · go_wp2
    go_ret2
    exact ⟨rfl, hw.trans hw2⟩
theorem cBig (l : List UInt8) (w : World) (hl : l.length ≤ 281474976710656) (E : Env w) :
    Calls Tryd.prog 21 #[.string (tx l)] w fun e w' => e = .returned (.tuple #[.int .u64 ((bigOf l).getD 0 : Nat), .bool (bigOf l).isSome]) ∧ Ext w w' := by
  unfold bigOf
  split
  · rename_i v h
    have := cBig_ok l w hl E v h _ rfl
    by_cases e : Lib.decDigits v = l
    · simpa [e] using this
    · simpa [e] using this
  · rename_i h
    exact cBig_err l w hl E h
end Go.Proofs.YtchelhmefghcdaaDoor

/- Kinds of accesses; lists of accesses as they lie in memory; Right. -/
import Derived.Test.YtoaifbengichbaaInts
import Derived.Test.YtoaifbengichbaaWMath
import Derived.Test.YtoaifbengichbaaSeq
import Derived.Deep.DeepCutAuto
namespace Go.Proofs.Ytoaifbengichbaa
open Go.RowKit
set_option linter.unusedVariables false
set_option linter.unusedSimpArgs false
set_option maxHeartbeats 2000000
attribute [local go_sem] later_cell later_frozen later_const
/-- an access -/
structure Acc where
  t : Int
  k : Int
  c : Int
  o : Int
  n : Int
def acV (x : Acc) : List Value := [.int .i64 x.t, .int .i64 x.k, .int .i64 x.c, .int .u64 x.o, .int .u64 x.n]
/-- a slice of accesses -/
def AccV (w : World) (v : Value) (ls : List Acc) : Prop :=
  ∃ a cap, v = .slice a ls.length cap ∧ ls.length ≤ cap ∧ cap ≤ maxLen ∧ ∀ i, (hi : i < ls.length) → ∃ b off, a = some ⟨b, off, none⟩ ∧ ∀ j u, (acV ls[i])[j]? = some u → w.cell? ⟨b, off + (i * 5 + j), none⟩ = some u
theorem AccV.ext {w w' : World} {v : Value} {ls : List Acc} (h : AccV w v ls) (hx : Ext w w') : AccV w' v ls := by
  obtain ⟨a, cap, e, h1, h2, h3⟩ := h
  refine ⟨a, cap, e, h1, h2, fun i hi => ?_⟩
  obtain ⟨b, off, ea, hc⟩ := h3 i hi
  exact ⟨b, off, ea, fun j u hu => hx.cell (hc j u hu)⟩
theorem AccV.but {S : Nat → Prop} {w w' : World} {v : Value} {ls : List Acc} (h : AccV w v ls) (hx : But S w w') (n : Nat) (hn : ∀ i, S i → n ≤ i) (hl : ∀ a l c, v = .slice (some a) l c → a.block < n) : AccV w' v ls := by
  obtain ⟨a, cap, e, h1, h2, h3⟩ := h
  refine ⟨a, cap, e, h1, h2, fun i hi => ?_⟩
  obtain ⟨b, off, ea, hc⟩ := h3 i hi
  refine ⟨b, off, ea, fun j u hu => hx.cell (hc j u hu) fun hs => ?_⟩
  have := hn b hs
  subst ea
  have := hl _ _ _ e
  simp at this
  omega
/-- its values -/
theorem AccV.form {w : World} {v : Value} {ls : List Acc} (h : AccV w v ls) : ∃ a cap, v = .slice a ls.length cap ∧ ls.length ≤ cap ∧ cap ≤ maxLen := by
  obtain ⟨a, cap, e, h1, h2, _⟩ := h
  exact ⟨a, cap, e, h1, h2⟩
theorem AccV.at {w : World} {a : Option Addr} {m cap : Nat} {ls : List Acc} (h : AccV w (.slice a m cap) ls) {w' : World} (hx : Ext w w') {i : Nat} (hi : i < ls.length) : ∃ b off, a = some ⟨b, off, none⟩ ∧
    w'.cell? ⟨b, off + i * 5, none⟩ = some (.int .i64 ls[i].t) ∧ w'.cell? ⟨b, off + i * 5 + 1, none⟩ = some (.int .i64 ls[i].k) ∧ w'.cell? ⟨b, off + i * 5 + 2, none⟩ = some (.int .i64 ls[i].c) ∧ w'.cell? ⟨b, off + i * 5 + 3, none⟩ = some (.int .u64 ls[i].o) ∧ w'.cell? ⟨b, off + i * 5 + 4, none⟩ = some (.int .u64 ls[i].n) := by
  obtain ⟨a', cap', e, _, _, h3⟩ := h
  cases e
  obtain ⟨b, off, ea, hc⟩ := h3 i hi
  exact ⟨b, off, ea, hx.cell (hc 0 _ rfl), hx.cell (hc 1 _ rfl), hx.cell (hc 2 _ rfl), hx.cell (hc 3 _ rfl), hx.cell (hc 4 _ rfl)⟩
def atB (k : Int) : Bool := decide (1 ≤ k ∧ k ≤ 5)
def plB (k : Int) : Bool := decide (k = 6 ∨ k = 7)
def wrB (k : Int) : Bool := decide (k = 2 ∨ k = 3 ∨ k = 4 ∨ k = 7)
def rdB (k : Int) : Bool := decide (k = 1 ∨ 3 ≤ k ∧ k ≤ 6)
theorem oAtomic (k : Int) (w : World) : Calls Try.prog 30 #[.int .i64 k] w fun e w' => e = .returned (.bool (atB k)) ∧ w = w' := by
  by_cases h1 : k = 1
  · subst h1
    rw [show atB 1 = true by decide]
    go_enter Try.func30, Try.ntmps30
    go_wp2
    go_ret
    exact ⟨rfl, rfl⟩
  have e1 : (k == 1) = false := by simpa using h1
  by_cases h2 : k = 2
  · subst h2
    rw [show atB 2 = true by decide]
    go_enter Try.func30, Try.ntmps30
    go_wp2
    go_ret
    exact ⟨rfl, rfl⟩
  have e2 : (k == 2) = false := by simpa using h2
  by_cases h3 : k = 3
  · subst h3
    rw [show atB 3 = true by decide]
    go_enter Try.func30, Try.ntmps30
    go_wp2
    go_ret
    exact ⟨rfl, rfl⟩
  have e3 : (k == 3) = false := by simpa using h3
  by_cases h4 : k = 4
  · subst h4
    rw [show atB 4 = true by decide]
    go_enter Try.func30, Try.ntmps30
    go_wp2
    go_ret
    exact ⟨rfl, rfl⟩
  have e4 : (k == 4) = false := by simpa using h4
  by_cases h5 : k = 5
  · subst h5
    rw [show atB 5 = true by decide]
    go_enter Try.func30, Try.ntmps30
    go_wp2
    go_ret
    exact ⟨rfl, rfl⟩
  have e5 : (k == 5) = false := by simpa using h5
  rw [show atB k = false by unfold atB; simp; omega]
  go_enter Try.func30, Try.ntmps30
  go_wp2
  go_ret
  exact ⟨rfl, rfl⟩
theorem oPlain (k : Int) (w : World) : Calls Try.prog 31 #[.int .i64 k] w fun e w' => e = .returned (.bool (plB k)) ∧ w = w' := by
  by_cases h6 : k = 6
  · subst h6
    rw [show plB 6 = true by decide]
    go_enter Try.func31, Try.ntmps31
    go_wp2
    go_ret
    exact ⟨rfl, rfl⟩
  have e6 : (k == 6) = false := by simpa using h6
  by_cases h7 : k = 7
  · subst h7
    rw [show plB 7 = true by decide]
    go_enter Try.func31, Try.ntmps31
    go_wp2
    go_ret
    exact ⟨rfl, rfl⟩
  have e7 : (k == 7) = false := by simpa using h7
  rw [show plB k = false by unfold plB; simp; omega]
  go_enter Try.func31, Try.ntmps31
  go_wp2
  go_ret
  exact ⟨rfl, rfl⟩
theorem oWrites (k : Int) (w : World) : Calls Try.prog 12 #[.int .i64 k] w fun e w' => e = .returned (.bool (wrB k)) ∧ w = w' := by
  by_cases h2 : k = 2
  · subst h2
    rw [show wrB 2 = true by decide]
    go_enter Try.func12, Try.ntmps12
    go_wp2
    go_ret
    exact ⟨rfl, rfl⟩
  have e2 : (k == 2) = false := by simpa using h2
  by_cases h3 : k = 3
  · subst h3
    rw [show wrB 3 = true by decide]
    go_enter Try.func12, Try.ntmps12
    go_wp2
    go_ret
    exact ⟨rfl, rfl⟩
  have e3 : (k == 3) = false := by simpa using h3
  by_cases h4 : k = 4
  · subst h4
    rw [show wrB 4 = true by decide]
    go_enter Try.func12, Try.ntmps12
    go_wp2
    go_ret
    exact ⟨rfl, rfl⟩
  have e4 : (k == 4) = false := by simpa using h4
  by_cases h7 : k = 7
  · subst h7
    rw [show wrB 7 = true by decide]
    go_enter Try.func12, Try.ntmps12
    go_wp2
    go_ret
    exact ⟨rfl, rfl⟩
  have e7 : (k == 7) = false := by simpa using h7
  rw [show wrB k = false by unfold wrB; simp; omega]
  go_enter Try.func12, Try.ntmps12
  go_wp2
  go_ret
  exact ⟨rfl, rfl⟩
theorem oReads (k : Int) (w : World) : Calls Try.prog 14 #[.int .i64 k] w fun e w' => e = .returned (.bool (rdB k)) ∧ w = w' := by
  by_cases h1 : k = 1
  · subst h1
    rw [show rdB 1 = true by decide]
    go_enter Try.func14, Try.ntmps14
    go_wp2
    go_ret
    exact ⟨rfl, rfl⟩
  have e1 : (k == 1) = false := by simpa using h1
  by_cases h3 : k = 3
  · subst h3
    rw [show rdB 3 = true by decide]
    go_enter Try.func14, Try.ntmps14
    go_wp2
    go_ret
    exact ⟨rfl, rfl⟩
  have e3 : (k == 3) = false := by simpa using h3
  by_cases h4 : k = 4
  · subst h4
    rw [show rdB 4 = true by decide]
    go_enter Try.func14, Try.ntmps14
    go_wp2
    go_ret
    exact ⟨rfl, rfl⟩
  have e4 : (k == 4) = false := by simpa using h4
  by_cases h5 : k = 5
  · subst h5
    rw [show rdB 5 = true by decide]
    go_enter Try.func14, Try.ntmps14
    go_wp2
    go_ret
    exact ⟨rfl, rfl⟩
  have e5 : (k == 5) = false := by simpa using h5
  by_cases h6 : k = 6
  · subst h6
    rw [show rdB 6 = true by decide]
    go_enter Try.func14, Try.ntmps14
    go_wp2
    go_ret
    exact ⟨rfl, rfl⟩
  have e6 : (k == 6) = false := by simpa using h6
  rw [show rdB k = false by unfold rdB; simp; omega]
  go_enter Try.func14, Try.ntmps14
  go_wp2
  go_ret
  exact ⟨rfl, rfl⟩
theorem rPlain (k : Int) (w : World) : Calls Try.prog 23 #[.int .i64 k] w fun e w' => e = .returned (.bool (plB k)) ∧ w = w' := by
  by_cases h6 : k = 6
  · subst h6
    rw [show plB 6 = true by decide]
    go_enter Try.func23, Try.ntmps23
    go_wp2
    go_ret
    exact ⟨rfl, rfl⟩
  have e6 : (k == 6) = false := by simpa using h6
  by_cases h7 : k = 7
  · subst h7
    rw [show plB 7 = true by decide]
    go_enter Try.func23, Try.ntmps23
    go_wp2
    go_ret
    exact ⟨rfl, rfl⟩
  have e7 : (k == 7) = false := by simpa using h7
  rw [show plB k = false by unfold plB; simp; omega]
  go_enter Try.func23, Try.ntmps23
  go_wp2
  go_ret
  exact ⟨rfl, rfl⟩
theorem rWrites (k : Int) (w : World) : Calls Try.prog 13 #[.int .i64 k] w fun e w' => e = .returned (.bool (wrB k)) ∧ w = w' := by
  by_cases h2 : k = 2
  · subst h2
    rw [show wrB 2 = true by decide]
    go_enter Try.func13, Try.ntmps13
    go_wp2
    go_ret
    exact ⟨rfl, rfl⟩
  have e2 : (k == 2) = false := by simpa using h2
  by_cases h3 : k = 3
  · subst h3
    rw [show wrB 3 = true by decide]
    go_enter Try.func13, Try.ntmps13
    go_wp2
    go_ret
    exact ⟨rfl, rfl⟩
  have e3 : (k == 3) = false := by simpa using h3
  by_cases h4 : k = 4
  · subst h4
    rw [show wrB 4 = true by decide]
    go_enter Try.func13, Try.ntmps13
    go_wp2
    go_ret
    exact ⟨rfl, rfl⟩
  have e4 : (k == 4) = false := by simpa using h4
  by_cases h7 : k = 7
  · subst h7
    rw [show wrB 7 = true by decide]
    go_enter Try.func13, Try.ntmps13
    go_wp2
    go_ret
    exact ⟨rfl, rfl⟩
  have e7 : (k == 7) = false := by simpa using h7
  rw [show wrB k = false by unfold wrB; simp; omega]
  go_enter Try.func13, Try.ntmps13
  go_wp2
  go_ret
  exact ⟨rfl, rfl⟩
theorem rAtomic (k : Int) (w : World) : Calls Try.prog 32 #[.int .i64 k] w fun e w' => e = .returned (.bool (atB k)) ∧ w = w' := by
  by_cases h : 0 < k
  · have d : decide (0 < k) = true := by simpa using h
    by_cases h2 : k < 6
    · have d2 : decide (k < 6) = true := by simpa using h2
      rw [show atB k = true by unfold atB; simp; omega]
      go_enter Try.func32, Try.ntmps32
      go_wp2
      go_ret
      exact ⟨rfl, rfl⟩
    · have d2 : decide (k < 6) = false := by simpa using h2
      rw [show atB k = false by unfold atB; simp; omega]
      go_enter Try.func32, Try.ntmps32
      go_wp2
      go_ret
      exact ⟨rfl, rfl⟩
  · have d : decide (0 < k) = false := by simpa using h
    rw [show atB k = false by unfold atB; simp; omega]
    go_enter Try.func32, Try.ntmps32
    go_wp2
    go_ret
    exact ⟨rfl, rfl⟩
theorem rReads (k : Int) (w : World) : Calls Try.prog 15 #[.int .i64 k] w fun e w' => e = .returned (.bool (rdB k)) ∧ w = w' := by
  by_cases h1 : k = 1
  · subst h1
    rw [show rdB 1 = true by decide]
    go_enter Try.func15, Try.ntmps15
    go_wp2
    go_ret
    exact ⟨rfl, rfl⟩
  have e1 : (k == 1) = false := by simpa using h1
  by_cases h : 2 < k
  · have d : decide (2 < k) = true := by simpa using h
    by_cases h2 : k < 7
    · have d2 : decide (k < 7) = true := by simpa using h2
      rw [show rdB k = true by unfold rdB; simp; omega]
      go_enter Try.func15, Try.ntmps15
      go_wp2
      go_ret
      exact ⟨rfl, rfl⟩
    · have d2 : decide (k < 7) = false := by simpa using h2
      rw [show rdB k = false by unfold rdB; simp; omega]
      go_enter Try.func15, Try.ntmps15
      go_wp2
      go_ret
      exact ⟨rfl, rfl⟩
  · have d : decide (2 < k) = false := by simpa using h
    rw [show rdB k = false by unfold rdB; simp; omega]
    go_enter Try.func15, Try.ntmps15
    go_wp2
    go_ret
    exact ⟨rfl, rfl⟩
/-- an access by one of n threads, of a kind, of a cell -/
def accOk (n : Int) (x : Acc) : Bool := decide (0 ≤ x.t ∧ x.t < n ∧ 1 ≤ x.k ∧ x.k ≤ 7 ∧ 0 ≤ x.c)
def rightL (n : Int) (ls : List Acc) : Bool := decide (1 ≤ n ∧ n ≤ 10) && ls.all (accOk n)
theorem right_no_at {n : Int} {ls : List Acc} {i : Nat} (hi : i < ls.length) (h : accOk n ls[i] = false) : rightL n ls = false := by
  unfold rightL
  rw [Bool.and_eq_false_iff]
  right
  rw [List.all_eq_false]
  exact ⟨ls[i], List.getElem_mem hi, by rw [h]; simp⟩
theorem right_yes_all {n : Int} {ls : List Acc} (h1 : 1 ≤ n) (h2 : n ≤ 10) (h : ∀ i (hi : i < ls.length), accOk n ls[i] = true) : rightL n ls = true := by
  unfold rightL
  rw [Bool.and_eq_true, List.all_eq_true]
  refine ⟨by simp; omega, fun x hx => ?_⟩
  obtain ⟨i, hi, rfl⟩ := List.getElem_of_mem hx
  exact h i hi
theorem right_n {n : Int} {ls : List Acc} (h : n < 1 ∨ 10 < n) : rightL n ls = false := by
  unfold rightL
  rw [Bool.and_eq_false_iff]
  left
  simp
  omega
set_option maxRecDepth 100000 in
theorem oRight (n : Int) (v : Value) (ls : List Acc) (w : World) (h : AccV w v ls) : Calls Try.prog 8 #[.int .i64 n, v] w fun e w' => e = .returned (.bool (rightL n ls)) ∧ Ext w w' := by
  obtain ⟨a, cap, rfl, hc, hm⟩ := h.form
  have hl : ls.length ≤ 9223372036854775807 := by unfold maxLen at hm; omega
  by_cases h1 : n < 1
  · have d1 : decide (n < 1) = true := by simpa using h1
    rw [right_n (.inl h1)]
    go_enter Try.func8, Try.ntmps8
    go_wp2
    go_ret
    exact ⟨rfl, Ext.refl _⟩
  have d1 : decide (n < 1) = false := by simpa using h1
  by_cases h2 : 10 < n
  · have d2 : decide (10 < n) = true := by simpa using h2
    rw [right_n (.inr h2)]
    go_enter Try.func8, Try.ntmps8
    go_wp2
    go_ret
    exact ⟨rfl, Ext.refl _⟩
  have d2 : decide (10 < n) = false := by simpa using h2
  have HA := Lib.hid h
  have HYES := Lib.hid (fun hh => right_yes_all (n := n) (ls := ls) (by omega) (by omega) hh)
  have HNO := Lib.hid (fun i hi => right_no_at (n := n) (ls := ls) (i := i) hi)
  clear h
  generalize rightL n ls = R at *
  go_enter Try.func8, Try.ntmps8
  go_wp2
  go_loopw [15] (fun i wr => ∃ k : Nat, k ≤ ls.length ∧ i = .int .i64 k ∧ (∀ j (hj : j < ls.length), j < k → accOk n ls[j] = true) ∧ Ext w wr) (fun i _ => ls.length - (intOf i).toNat)
  case atStart => exact ⟨0, Nat.zero_le _, rfl, fun j _ h => absurd h (Nat.not_lt_zero _), Ext.refl _⟩
  case round =>
    obtain ⟨k, hk, rfl, hall, hx⟩ := hrel
    by_cases hlt : k < ls.length
    case neg =>
      obtain rfl : k = ls.length := by omega
      have e := HYES.out (fun i hi => hall i hi hi)
      subst e
      clear hall
      go_wp2
      go_ret
      exact ⟨rfl, hx⟩
    have hkl : (k : Int) < (ls.length : Int) := by omega
    obtain ⟨b, off, ea, c0, c1, c2, c3, c4⟩ := HA.out.at hx hlt
    subst ea
    have HALL := Lib.hid hall
    have NO := Lib.hid (HNO.out k hlt)
    have HX := Lib.hid hx
    have STEP : Hid (accOk n ls[k] = true → ∀ j (hj : j < ls.length), j < k + 1 → accOk n ls[j] = true) := Lib.hid (fun e j hj hjk => by
      by_cases hjk' : j < k
      · exact HALL.out j hj hjk'
      · have : j = k := by omega
        subst this
        exact e)
    clear hall hx
    generalize hxx : ls[k] = x at *
    have CA := Lib.hid (fun w => oAtomic x.k w)
    have CP := Lib.hid (fun w => oPlain x.k w)
    clear hxx
    by_cases g0 : x.t < 0
    · have d0 : decide (x.t < 0) = true := by simpa using g0
      obtain rfl : R = false := NO.out (by unfold accOk; simp; omega)
      go_wp2
      go_ret
      refine ⟨rfl, HX.out.trans ?_⟩
      repeat (first | with_reducible exact Ext.refl _ | with_reducible assumption | with_reducible refine Ext.alloc ?_ _ | with_reducible refine Ext.drew ?_ | with_reducible refine Ext.drewN ?_ _ | with_reducible refine Ext.setCell ?_ (by simp <;> omega) _ | with_reducible refine Ext.trans ?_ (by assumption))
    have d0 : decide (x.t < 0) = false := by simpa using g0
    by_cases g1 : n ≤ x.t
    · have d3 : decide (n ≤ x.t) = true := by simpa using g1
      obtain rfl : R = false := NO.out (by unfold accOk; simp; omega)
      go_wp2
      go_ret
      refine ⟨rfl, HX.out.trans ?_⟩
      repeat (first | with_reducible exact Ext.refl _ | with_reducible assumption | with_reducible refine Ext.alloc ?_ _ | with_reducible refine Ext.drew ?_ | with_reducible refine Ext.drewN ?_ _ | with_reducible refine Ext.setCell ?_ (by simp <;> omega) _ | with_reducible refine Ext.trans ?_ (by assumption))
    have d3 : decide (n ≤ x.t) = false := by simpa using g1
    by_cases g2 : 1 ≤ x.k ∧ x.k ≤ 5
    · rw [show atB x.k = true by unfold atB; simpa using g2] at CA
      by_cases g3 : x.c < 0
      · have d4 : decide (x.c < 0) = true := by simpa using g3
        obtain rfl : R = false := NO.out (by unfold accOk; simp; omega)
        go_wp2_with fail
        refine (CA.out _).mono ?_
        rintro e w' ⟨rfl, rfl⟩
        go_wp2
        go_ret
        refine ⟨rfl, HX.out.trans ?_⟩
        repeat (first | with_reducible exact Ext.refl _ | with_reducible assumption | with_reducible refine Ext.alloc ?_ _ | with_reducible refine Ext.drew ?_ | with_reducible refine Ext.drewN ?_ _ | with_reducible refine Ext.setCell ?_ (by simp <;> omega) _ | with_reducible refine Ext.trans ?_ (by assumption))
      have d4 : decide (x.c < 0) = false := by simpa using g3
      go_wp2_with fail
      refine (CA.out _).mono ?_
      rintro e w' ⟨rfl, rfl⟩
      go_wp2
      exact ⟨⟨k + 1, by omega, by go_num, STEP.out (by unfold accOk; simp; omega), HX.out.trans (by repeat (first | with_reducible exact Ext.refl _ | with_reducible assumption | with_reducible refine Ext.alloc ?_ _ | with_reducible refine Ext.drew ?_ | with_reducible refine Ext.drewN ?_ _ | with_reducible refine Ext.setCell ?_ (by simp <;> omega) _ | with_reducible refine Ext.trans ?_ (by assumption)))⟩, by simp [intOf]; omega⟩
    rw [show atB x.k = false by unfold atB; simpa using g2] at CA
    by_cases g4 : x.k = 6 ∨ x.k = 7
    · rw [show plB x.k = true by unfold plB; simpa using g4] at CP
      by_cases g3 : x.c < 0
      · have d4 : decide (x.c < 0) = true := by simpa using g3
        obtain rfl : R = false := NO.out (by unfold accOk; simp; omega)
        go_wp2_with fail
        refine (CA.out _).mono ?_
        rintro e w' ⟨rfl, rfl⟩
        go_wp2_with fail
        refine (CP.out _).mono ?_
        rintro e w' ⟨rfl, rfl⟩
        go_wp2
        go_ret
        refine ⟨rfl, HX.out.trans ?_⟩
        repeat (first | with_reducible exact Ext.refl _ | with_reducible assumption | with_reducible refine Ext.alloc ?_ _ | with_reducible refine Ext.drew ?_ | with_reducible refine Ext.drewN ?_ _ | with_reducible refine Ext.setCell ?_ (by simp <;> omega) _ | with_reducible refine Ext.trans ?_ (by assumption))
      have d4 : decide (x.c < 0) = false := by simpa using g3
      go_wp2_with fail
      refine (CA.out _).mono ?_
      rintro e w' ⟨rfl, rfl⟩
      go_wp2_with fail
      refine (CP.out _).mono ?_
      rintro e w' ⟨rfl, rfl⟩
      go_wp2
      exact ⟨⟨k + 1, by omega, by go_num, STEP.out (by unfold accOk; simp; omega), HX.out.trans (by repeat (first | with_reducible exact Ext.refl _ | with_reducible assumption | with_reducible refine Ext.alloc ?_ _ | with_reducible refine Ext.drew ?_ | with_reducible refine Ext.drewN ?_ _ | with_reducible refine Ext.setCell ?_ (by simp <;> omega) _ | with_reducible refine Ext.trans ?_ (by assumption)))⟩, by simp [intOf]; omega⟩
    rw [show plB x.k = false by unfold plB; simpa using g4] at CP
    obtain rfl : R = false := NO.out (by unfold accOk; simp; omega)
    go_wp2_with fail
    refine (CA.out _).mono ?_
    rintro e w' ⟨rfl, rfl⟩
    go_wp2_with fail
    refine (CP.out _).mono ?_
    rintro e w' ⟨rfl, rfl⟩
    go_wp2
    go_ret
    refine ⟨rfl, HX.out.trans ?_⟩
    repeat (first | with_reducible exact Ext.refl _ | with_reducible assumption | with_reducible refine Ext.alloc ?_ _ | with_reducible refine Ext.drew ?_ | with_reducible refine Ext.drewN ?_ _ | with_reducible refine Ext.setCell ?_ (by simp <;> omega) _ | with_reducible refine Ext.trans ?_ (by assumption))
end Go.Proofs.Ytoaifbengichbaa

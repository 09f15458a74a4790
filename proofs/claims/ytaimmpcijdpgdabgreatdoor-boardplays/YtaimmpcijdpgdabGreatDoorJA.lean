import Derived.Test.YtaimmpcijdpgdabGreatDoorBd4
import Derived.Test.YtaimmpcijdpgdabGreatDoorPair
import Derived.Test.YtaimmpcijdpgdabGreatDoorCf6
import Derived.Test.YtaimmpcijdpgdabGreatDoorOpenC
/- A board's log and costs; the law's live. -/
namespace Go.Proofs.YtaimmpcijdpgdabGreatDoor
open Go.RowKit
set_option linter.unusedVariables false
set_option linter.unusedSimpArgs false
set_option maxHeartbeats 2000000
attribute [local go_sem] later_cell later_frozen later_const
def isLk (k : Int) : Bool := k == 1 || k == 5 || k == 6
def nL (t : Int) (l : List Acc) : Nat := (l.filter fun x => decide (x.t = t) && isLk x.k).length
def nC (t : Int) (l : List Acc) : Nat := (l.filter fun x => decide (x.t = t) && !isLk x.k).length
theorem nL_le (t : Int) (l : List Acc) : nL t l ≤ l.length := List.length_filter_le _ _
theorem nC_le (t : Int) (l : List Acc) : nC t l ≤ l.length := List.length_filter_le _ _
theorem take_snoc {l : List Acc} {k : Nat} (h : k < l.length) : l.take (k + 1) = l.take k ++ [l[k]] := List.take_succ_eq_append_getElem h
theorem nL_snoc (t : Int) (l : List Acc) (x : Acc) : nL t (l ++ [x]) = nL t l + (if (decide (x.t = t) && isLk x.k) = true then 1 else 0) := by
  unfold nL
  rw [List.filter_append, List.length_append]
  cases h : (decide (x.t = t) && isLk x.k) <;> simp [List.filter_cons, h]
theorem nC_snoc (t : Int) (l : List Acc) (x : Acc) : nC t (l ++ [x]) = nC t l + (if (decide (x.t = t) && !isLk x.k) = true then 1 else 0) := by
  unfold nC
  rw [List.filter_append, List.length_append]
  cases h : (decide (x.t = t) && !isLk x.k) <;> simp [List.filter_cons, h]
/-- how a log lies -/
theorem rowA_form {w : World} {base : Nat} {v : Value} {l : List Acc} (h : w.ownsRow base 91 5 v l.length (rowA l)) : ∃ a cap, v = .slice a l.length cap ∧ (∀ i, i < l.length → ∃ g, a = some ⟨g, 0, none⟩ ∧ ∀ j u, (rowA l)[j]? = some u → w.cell? ⟨g, j, none⟩ = some u) := by
  rcases h.2 with ⟨h1, h2⟩ | ⟨g, cap, cur, h1, h2, h3, h4, h5, h6, h7⟩
  · exact ⟨none, 0, by rw [h1, h2], fun i hi => by omega⟩
  · refine ⟨some ⟨g, 0, none⟩, cap, h1, fun i hi => ⟨g, rfl, fun j u hu => ?_⟩⟩
    have hv : cur[j]? = some u := by
      rw [← h7] at hu
      rw [← Array.getElem?_toList]
      rw [List.getElem?_take] at hu
      split at hu
      · exact hu
      · cases hu
    simp [World.cell?, h3, hv]
theorem rowA_cell {w : World} {base : Nat} {a : Option Addr} {cap : Nat} {l : List Acc} (h : w.ownsRow base 91 5 (.slice a l.length cap) l.length (rowA l)) {i : Nat} (hi : i < l.length) : ∃ g, a = some ⟨g, 0, none⟩ ∧ w.cell? ⟨g, i * 5, none⟩ = some (.int .i64 l[i].t) ∧ w.cell? ⟨g, i * 5 + 1, none⟩ = some (.int .i64 l[i].k) ∧ w.cell? ⟨g, i * 5 + 2, none⟩ = some (.int .i64 l[i].c) ∧ w.cell? ⟨g, i * 5 + 3, none⟩ = some (.int .u64 l[i].o) ∧ w.cell? ⟨g, i * 5 + 4, none⟩ = some (.int .u64 l[i].n) := by
  obtain ⟨a', cap', e, hf⟩ := rowA_form h
  cases e
  obtain ⟨g, e, hc⟩ := hf i hi
  exact ⟨g, e, hc _ _ (rowA_at l i 0 hi (by omega)), hc _ _ (rowA_at l i 1 hi (by omega)), hc _ _ (rowA_at l i 2 hi (by omega)), hc _ _ (rowA_at l i 3 hi (by omega)), hc _ _ (rowA_at l i 4 hi (by omega))⟩
set_option maxRecDepth 100000 in
theorem Cost32 (b g : Nat) (y : LY) (f : Nat → Int) (lv : Value) (log : List Acc) (t : Int) (w : World) (hB : BD w 74 b g y f lv log) (hl : log.length ≤ 1000) :
    Calls Tryz.prog 31 #[.pointer (some ⟨b, 0, none⟩), .int .i64 t] w fun e w' => e = .returned (.complex .f64 (F (nL t log)) (F (nC t log))) ∧ Ext w w' := by
  obtain ⟨a, cap, e, -⟩ := rowA_form hB.row
  subst e
  have q15 := hB.q15
  have HROW := Lib.hid hB.row
  clear hB
  have h1 := nL_le t log
  have h2 := nC_le t log
  have CP := Lib.hid (fun w => of_yes (nL t log) (nC t log) w (by omega) (by omega) (by omega) (by omega))
  have HT : Hid (log.take log.length = log) := Lib.hid (List.take_length)
  obtain ⟨N, hN⟩ : ∃ N, N = log.length := ⟨_, rfl⟩
  have HN := Lib.hid hN
  rw [← hN] at q15 hl h1 h2
  clear hN
  go_enter Tryz.func31, Tryz.ntmps31
  go_wp2
  go_loopw [5, 6, 16] (fun u v i wr => ∃ k : Nat, k ≤ N ∧ i = .int .i64 k ∧ u = .int .i64 (nL t (log.take k)) ∧ v = .int .i64 (nC t (log.take k)) ∧ Ext w wr) (fun _ _ i _ => N - (intOf i).toNat)
  case atStart => exact ⟨0, Nat.zero_le _, rfl, by simp [nL], by simp [nC], Ext.refl _⟩
  case round =>
    obtain ⟨k, hk, rfl, rfl, rfl, hx⟩ := hrel
    by_cases hlt : k < N
    · have hkN : (k : Int) < (N : Int) := by omega
      have hkl : k < log.length := by have := HN.out; omega
      obtain ⟨gl, ea, r0, r1, r2, r3, r4⟩ := rowA_cell HROW.out hkl
      subst ea
      replace r0 := hx.cell r0
      replace r1 := hx.cell r1
      replace r2 := hx.cell r2
      replace r3 := hx.cell r3
      replace r4 := hx.cell r4
      have hsL := nL_snoc t (log.take k) log[k]
      have hsC := nC_snoc t (log.take k) log[k]
      rw [← take_snoc hkl] at hsL hsC
      have bL := nL_le t (log.take k)
      have bC := nC_le t (log.take k)
      have bk : (log.take k).length ≤ k := by rw [List.length_take]; omega
      have HX2 := Lib.hid (hx.alloc (.cells #[.int .i64 log[k].t, .int .i64 log[k].k, .int .i64 log[k].c, .int .u64 log[k].o, .int .u64 log[k].n] 91))
      generalize nL t (log.take k) = x at *
      generalize nC t (log.take k) = z at *
      generalize log[k] = q at *
      clear hx hkl
      by_cases ht : q.t = t
      · by_cases hq : isLk q.k = true
        · have HL1 : Hid (nL t (log.take (k + 1)) = x + 1) := Lib.hid (by rw [hsL]; simp [ht, hq])
          have HC1 : Hid (nC t (log.take (k + 1)) = z) := Lib.hid (by rw [hsC]; simp [ht, hq])
          have dt : (q.t == t) = true := by simpa using ht
          have dk : ((q.k == 1) = true) ∨ ((q.k == 1) = false ∧ (q.k == 5) = true) ∨ ((q.k == 1) = false ∧ (q.k == 5) = false ∧ (q.k == 6) = true) := by
            unfold isLk at hq
            rw [Bool.or_eq_true, Bool.or_eq_true] at hq
            cases h1 : (q.k == 1) with
            | true => exact .inl rfl
            | false =>
              cases h5 : (q.k == 5) with
              | true => exact .inr (.inl ⟨rfl, rfl⟩)
              | false =>
                rw [h1, h5] at hq
                rcases hq with (hq | hq) | hq
                · cases hq
                · cases hq
                · exact .inr (.inr ⟨rfl, rfl, hq⟩)
          clear hsL hsC hq ht
          rcases dk with d1 | ⟨d1, d5⟩ | ⟨d1, d5, d6⟩
          · go_wp2
            exact ⟨⟨k + 1, by omega, by go_num, by rw [HL1.out]; go_num, by rw [HC1.out], HX2.out⟩, by simp [intOf]; omega⟩
          · go_wp2
            exact ⟨⟨k + 1, by omega, by go_num, by rw [HL1.out]; go_num, by rw [HC1.out], HX2.out⟩, by simp [intOf]; omega⟩
          · go_wp2
            exact ⟨⟨k + 1, by omega, by go_num, by rw [HL1.out]; go_num, by rw [HC1.out], HX2.out⟩, by simp [intOf]; omega⟩
        · have HL1 : Hid (nL t (log.take (k + 1)) = x) := Lib.hid (by rw [hsL]; simp [hq])
          have HC1 : Hid (nC t (log.take (k + 1)) = z + 1) := Lib.hid (by rw [hsC]; simp [ht, hq])
          have dk : (q.k == 1) = false ∧ (q.k == 5) = false ∧ (q.k == 6) = false := by
            unfold isLk at hq
            cases h1 : (q.k == 1) <;> cases h5 : (q.k == 5) <;> cases h6 : (q.k == 6) <;> simp [h1, h5, h6] at hq ⊢
          obtain ⟨d1, d5, d6⟩ := dk
          have dt : (q.t == t) = true := by simpa using ht
          clear hsL hsC hq ht
          go_wp2
          exact ⟨⟨k + 1, by omega, by go_num, by rw [HL1.out], by rw [HC1.out]; go_num, HX2.out⟩, by simp [intOf]; omega⟩
      · have HL1 : Hid (nL t (log.take (k + 1)) = x) := Lib.hid (by rw [hsL]; simp [ht])
        have HC1 : Hid (nC t (log.take (k + 1)) = z) := Lib.hid (by rw [hsC]; simp [ht])
        have dt : (q.t == t) = false := by simpa using ht
        clear hsL hsC ht
        go_wp2
        exact ⟨⟨k + 1, by omega, by go_num, by rw [HL1.out], by rw [HC1.out], HX2.out⟩, by simp [intOf]; omega⟩
    · obtain rfl : k = N := by omega
      rw [show log.take k = log by rw [HN.out]; exact HT.out]
      have HX2 := Lib.hid hx
      clear hx
      go_wp2_with fail
      refine (CP.out _).mono ?_
      rintro e w' ⟨rfl, rfl⟩
      go_wp2
      go_ret
      exact ⟨rfl, HX2.out⟩
set_option maxRecDepth 100000 in
theorem Cost64 (b g : Nat) (y : LY) (f : Nat → Int) (lv : Value) (log : List Acc) (t : Int) (w : World) (hB : BD w 75 b g y f lv log) (hl : log.length ≤ 1000) :
    Calls Tryz.prog 28 #[.pointer (some ⟨b, 0, none⟩), .int .i64 t] w fun e w' => e = .returned (.complex .f64 (F (nL t log)) (F (nC t log))) ∧ Ext w w' := by
  obtain ⟨a, cap, e, -⟩ := rowA_form hB.row
  subst e
  have q15 := hB.q15
  have HROW := Lib.hid hB.row
  clear hB
  have h1 := nL_le t log
  have h2 := nC_le t log
  have CP := Lib.hid (fun w => of_yes (nL t log) (nC t log) w (by omega) (by omega) (by omega) (by omega))
  have HT : Hid (log.take log.length = log) := Lib.hid (List.take_length)
  obtain ⟨N, hN⟩ : ∃ N, N = log.length := ⟨_, rfl⟩
  have HN := Lib.hid hN
  rw [← hN] at q15 hl h1 h2
  clear hN
  go_enter Tryz.func28, Tryz.ntmps28
  go_wp2
  go_loopw [5, 6, 16] (fun u v i wr => ∃ k : Nat, k ≤ N ∧ i = .int .i64 k ∧ u = .int .i64 (nL t (log.take k)) ∧ v = .int .i64 (nC t (log.take k)) ∧ Ext w wr) (fun _ _ i _ => N - (intOf i).toNat)
  case atStart => exact ⟨0, Nat.zero_le _, rfl, by simp [nL], by simp [nC], Ext.refl _⟩
  case round =>
    obtain ⟨k, hk, rfl, rfl, rfl, hx⟩ := hrel
    by_cases hlt : k < N
    · have hkN : (k : Int) < (N : Int) := by omega
      have hkl : k < log.length := by have := HN.out; omega
      obtain ⟨gl, ea, r0, r1, r2, r3, r4⟩ := rowA_cell HROW.out hkl
      subst ea
      replace r0 := hx.cell r0
      replace r1 := hx.cell r1
      replace r2 := hx.cell r2
      replace r3 := hx.cell r3
      replace r4 := hx.cell r4
      have hsL := nL_snoc t (log.take k) log[k]
      have hsC := nC_snoc t (log.take k) log[k]
      rw [← take_snoc hkl] at hsL hsC
      have bL := nL_le t (log.take k)
      have bC := nC_le t (log.take k)
      have bk : (log.take k).length ≤ k := by rw [List.length_take]; omega
      have HX2 := Lib.hid (hx.alloc (.cells #[.int .i64 log[k].t, .int .i64 log[k].k, .int .i64 log[k].c, .int .u64 log[k].o, .int .u64 log[k].n] 91))
      generalize nL t (log.take k) = x at *
      generalize nC t (log.take k) = z at *
      generalize log[k] = q at *
      clear hx hkl
      by_cases ht : q.t = t
      · by_cases hq : isLk q.k = true
        · have HL1 : Hid (nL t (log.take (k + 1)) = x + 1) := Lib.hid (by rw [hsL]; simp [ht, hq])
          have HC1 : Hid (nC t (log.take (k + 1)) = z) := Lib.hid (by rw [hsC]; simp [ht, hq])
          have dt : (q.t == t) = true := by simpa using ht
          have dk : ((q.k == 1) = true) ∨ ((q.k == 1) = false ∧ (q.k == 5) = true) ∨ ((q.k == 1) = false ∧ (q.k == 5) = false ∧ (q.k == 6) = true) := by
            unfold isLk at hq
            rw [Bool.or_eq_true, Bool.or_eq_true] at hq
            cases h1 : (q.k == 1) with
            | true => exact .inl rfl
            | false =>
              cases h5 : (q.k == 5) with
              | true => exact .inr (.inl ⟨rfl, rfl⟩)
              | false =>
                rw [h1, h5] at hq
                rcases hq with (hq | hq) | hq
                · cases hq
                · cases hq
                · exact .inr (.inr ⟨rfl, rfl, hq⟩)
          clear hsL hsC hq ht
          rcases dk with d1 | ⟨d1, d5⟩ | ⟨d1, d5, d6⟩
          · go_wp2
            exact ⟨⟨k + 1, by omega, by go_num, by rw [HL1.out]; go_num, by rw [HC1.out], HX2.out⟩, by simp [intOf]; omega⟩
          · go_wp2
            exact ⟨⟨k + 1, by omega, by go_num, by rw [HL1.out]; go_num, by rw [HC1.out], HX2.out⟩, by simp [intOf]; omega⟩
          · go_wp2
            exact ⟨⟨k + 1, by omega, by go_num, by rw [HL1.out]; go_num, by rw [HC1.out], HX2.out⟩, by simp [intOf]; omega⟩
        · have HL1 : Hid (nL t (log.take (k + 1)) = x) := Lib.hid (by rw [hsL]; simp [hq])
          have HC1 : Hid (nC t (log.take (k + 1)) = z + 1) := Lib.hid (by rw [hsC]; simp [ht, hq])
          have dk : (q.k == 1) = false ∧ (q.k == 5) = false ∧ (q.k == 6) = false := by
            unfold isLk at hq
            cases h1 : (q.k == 1) <;> cases h5 : (q.k == 5) <;> cases h6 : (q.k == 6) <;> simp [h1, h5, h6] at hq ⊢
          obtain ⟨d1, d5, d6⟩ := dk
          have dt : (q.t == t) = true := by simpa using ht
          clear hsL hsC hq ht
          go_wp2
          exact ⟨⟨k + 1, by omega, by go_num, by rw [HL1.out], by rw [HC1.out]; go_num, HX2.out⟩, by simp [intOf]; omega⟩
      · have HL1 : Hid (nL t (log.take (k + 1)) = x) := Lib.hid (by rw [hsL]; simp [ht])
        have HC1 : Hid (nC t (log.take (k + 1)) = z) := Lib.hid (by rw [hsC]; simp [ht])
        have dt : (q.t == t) = false := by simpa using ht
        clear hsL hsC ht
        go_wp2
        exact ⟨⟨k + 1, by omega, by go_num, by rw [HL1.out], by rw [HC1.out], HX2.out⟩, by simp [intOf]; omega⟩
    · obtain rfl : k = N := by omega
      rw [show log.take k = log by rw [HN.out]; exact HT.out]
      have HX2 := Lib.hid hx
      clear hx
      go_wp2_with fail
      refine (CP.out _).mono ?_
      rintro e w' ⟨rfl, rfl⟩
      go_wp2
      go_ret
      exact ⟨rfl, HX2.out⟩
end Go.Proofs.YtaimmpcijdpgdabGreatDoor
/- The law's live; Log and Len. -/
namespace Go.Proofs.YtaimmpcijdpgdabGreatDoor
open Go.RowKit
set_option linter.unusedVariables false
set_option linter.unusedSimpArgs false
set_option maxHeartbeats 2000000
attribute [local go_sem] later_cell later_frozen later_const
theorem notOwn {b g k : Nat} (h1 : k ≠ b) (h2 : k ≠ g) : ¬ Own b g (.slice none 0 0) k := fun h => by
  rcases h with h | h | h
  · exact h1 h
  · exact h2 h
  · cases h
theorem ownGe {b g n : Nat} (h1 : n ≤ b) (h2 : n ≤ g) : ∀ k, Own b g (.slice none 0 0) k → n ≤ k := fun k h => by
  rcases h with h | h | h
  · omega
  · omega
  · cases h
theorem ckV : ckC 2 32 4 1 [[]] = 0 := by decide +kernel
theorem layV12 (u : Value) : layV 2 32 4 1 4294967295 u 1 = (.agg #[.int .i64 2, .int .i64 32, .int .i64 4, .int .i64 1, .int .u64 4294967295, u, .int .i64 (-1), .int .i64 1, .int .i64 (-1), .int .i64 (-1), .int .i64 (-1), .int .i64 2, .int .i64 6, .int .i64 10]) := by simp [layV, nCu, nCl, nTi, nSe, nNe, nMa, nSl, nCe]
theorem use12 : useN 2 1 4 1 = (3, 0) := by decide
set_option maxRecDepth 100000 in
theorem live12 (w : World) (E : Parts w) : Calls Tryz.prog 8 #[] w fun e w' => e = .returned (.bool true) ∧ Ext w w' := by
  have hok : NumOk 2 1 4 := ⟨by omega, by omega, by omega, by omega, by omega, by omega⟩
  have c1 := fun u w h => lOf_ok 2 32 4 1 4294967295 u [[]] w h (by simp) (by simp) ckV
  have c2 := fun (a : Option Addr) (w : World) h => New32 2 4 1 4294967295 a 1 [[]] (-1) 1 (-1) (-1) (-1) 2 6 10 w h (by simp) (by simp) ckV (by omega) (by omega) (by decide)
  have hkd : ∀ bo, kd (yOf 2 32 4 1 4294967295 bo 1 10) ((1 : Nat) : Int) = 1 := fun bo => by
    rw [yOf_kd (by decide)]
    decide
  have hf : fsC 2 32 4 4294967295 1 1 = 4294967295 := by
    unfold fsC
    rw [show useN 2 ((1 : Nat) : Int) 4 ((1 : Nat) : Int) = (3, 0) from use12]
    decide
  have c3 := fun b g bo (w : World) h hE => Add32_yes b g (yOf 2 32 4 1 4294967295 bo 1 10) (fsC 2 32 4 4294967295 1) (.slice none 0 0) [] 0 2 1 w h (yOf_ok hok (by decide)) hE (hkd bo) (by rw [hf]; omega) (by rw [hf]; omega) (by simp)
  have c4 := fun b g bo f lv log (w : World) h hE => Peek32 b g (yOf 2 32 4 1 4294967295 bo 1 10) f lv log 1 w h (yOf_ok hok (by decide)) hE (by rw [hkd bo]; decide)
  have c5 := fun b g bo f lv (w : World) h => Cost32 b g (yOf 2 32 4 1 4294967295 bo 1 10) f lv [⟨0, 3, ((1 : Nat) : Int), fsC 2 32 4 4294967295 1 1, (fsC 2 32 4 4294967295 1 1 % 4294967296 + 2) % 4294967296⟩] 0 w h (by simp)
  rw [show nL 0 [(⟨0, 3, ((1 : Nat) : Int), fsC 2 32 4 4294967295 1 1, (fsC 2 32 4 4294967295 1 1 % 4294967296 + 2) % 4294967296⟩ : Acc)] = 0 from rfl, show nC 0 [(⟨0, 3, ((1 : Nat) : Int), fsC 2 32 4 4294967295 1 1, (fsC 2 32 4 4294967295 1 1 % 4294967296 + 2) % 4294967296⟩ : Acc)] = 1 from rfl] at c5
  have c6 := fun w => second_yes (F ((0 : Nat) : Int)) (F ((1 : Nat) : Int)) 0 1 w (cnt_F (by omega) (by omega)) (cnt_F (by omega) (by omega))
  have HV : Hid (fsC 2 32 4 4294967295 1 1 % 4294967296 = 4294967295) := Lib.hid (by rw [hf]; decide)
  have HV2 : Hid (upd (fsC 2 32 4 4294967295 1) 1 ((fsC 2 32 4 4294967295 1 1 % 4294967296 + 2) % 4294967296) 1 = 1) := Lib.hid (by unfold upd; rw [if_pos rfl, hf]; decide)
  have C1 := Lib.hid c1
  have C2 := Lib.hid c2
  have C3 := Lib.hid c3
  have C4 := Lib.hid c4
  have C5 := Lib.hid c5
  have C6 := Lib.hid c6
  have HE := Lib.hid E
  clear c1 c2 c3 c4 c5 c6 E hkd hf hok
  go_enter Tryz.func8, Tryz.ntmps8
  go_wp2_with fail
  refine (plain10 _).mono ?_
  rintro e w1 ⟨b1, rfl, L1, X1⟩
  have HL1 := Lib.hid (L1.ext ((Ext.refl w1).alloc (.cells #[.int .i64 2, .int .i64 32, .int .i64 4, .int .i64 1, .int .u64 4294967295, .slice (some ⟨b1, 0, none⟩) 1 1] 25)))
  clear L1
  go_wp2_with fail
  refine (C1.out _ _ HL1.out).mono ?_
  rintro e w2 ⟨u2, rfl, O2, X2⟩
  obtain ⟨b2, f2, cur2, e2, -⟩ := id O2
  rw [show (([[]] : List (List Int)).length) = 1 from rfl] at e2 ⊢
  subst e2
  rw [show ((1 : Nat) : Int) = 1 from rfl, layV12]
  have E2 : Ext w w2 := X1.trans (Ext.trans ((Ext.refl w1).alloc _) X2)
  have HL2 := Lib.hid ((O2.ext ((Ext.refl w2).alloc (.cells #[.int .i64 2, .int .i64 32, .int .i64 4, .int .i64 1, .int .u64 4294967295, .slice (some ⟨b2, 0, none⟩) 1 1, .int .i64 (-1), .int .i64 1, .int .i64 (-1), .int .i64 (-1), .int .i64 (-1), .int .i64 2, .int .i64 6, .int .i64 10] 31))).lists)
  clear X1 X2 O2 HL1
  go_wp2_with fail
  refine (C2.out _ _ HL2.out).mono ?_
  rintro e w3 ⟨b3, g3, bo3, rfl, B3, O3, X3, hb3, hg3⟩
  rw [show (([[]] : List (List Int)).length) = 1 from rfl] at B3
  have ql : w3.cell? ⟨w2.heap.size, 7, none⟩ = some (.int .i64 1) := X3.cell (by simp [go_sem])
  have hs2 : (w2.alloc (.cells #[.int .i64 2, .int .i64 32, .int .i64 4, .int .i64 1, .int .u64 4294967295, .slice (some ⟨b2, 0, none⟩) 1 1, .int .i64 (-1), .int .i64 1, .int .i64 (-1), .int .i64 (-1), .int .i64 (-1), .int .i64 2, .int .i64 6, .int .i64 10] 31)).heap.size = w2.heap.size + 1 := by simp
  rw [hs2] at hb3 hg3
  have E3 : Ext w w3 := Ext.trans (E2.alloc _) X3
  have h02 := E2.size
  have HB3 := Lib.hid B3
  clear X3 O3 B3 E2 HL2 hs2
  go_wp2_with fail
  refine (C3.out b3 g3 bo3 _ HB3.out (HE.out.ext E3)).mono ?_
  rintro e w4 ⟨rfl, lv4, B4, T4, A4⟩
  rw [HV.out]
  replace ql := T4.cell ql (notOwn (by omega) (by omega))
  have E4 : Ext w w4 := But.ext E3 T4 (ownGe (by omega) (by omega))
  have HB4 := Lib.hid B4
  clear B4 T4 A4 HB3
  go_wp2_with fail
  refine (C4.out b3 g3 bo3 _ _ _ _ HB4.out (HE.out.ext E4)).mono ?_
  rintro e w5 ⟨rfl, X5⟩
  rw [HV2.out]
  have HB5 := Lib.hid (HB4.out.ext X5)
  have E5 := E4.trans X5
  clear X5 ql
  go_wp2_with fail
  refine (C5.out b3 g3 bo3 _ _ _ HB5.out).mono ?_
  rintro e w6 ⟨rfl, X6⟩
  have E6 := E5.trans X6
  clear X6
  go_wp2_with fail
  refine (C6.out _).mono ?_
  rintro e w' ⟨rfl, rfl⟩
  go_wp2
  go_ret
  exact ⟨rfl, E6⟩
def GivesA (w : World) (l : List Acc) (e : Ending) (w' : World) : Prop := ∃ v, e = .returned v ∧ w'.ownsRow w.heap.size 91 5 v l.length (rowA l) ∧ Ext w w'
theorem aClone (base : Nat) (v : Value) (l : List Acc) (w : World) (h : w.ownsRow base 91 5 v l.length (rowA l)) (hl : l.length ≤ 1000) : Calls Tryz.prog 68 #[v] w (GivesA w l) := by
  obtain ⟨a, cap, rfl, hf⟩ := rowA_form h
  cases a with
  | none =>
    have h0 : l = [] := by
      cases l with
      | nil => rfl
      | cons z l => obtain ⟨g, e, _⟩ := hf 0 (by simp); cases e
    subst h0
    have heq := fun W => Lib.run_eql_slice_nil (P := Tryz.prog) W 50 91 none 0 cap 0 0 Tryz.underlying50
    have HG : Hid (GivesA w [] (.returned (.slice none 0 0)) w) := Lib.hid ⟨_, rfl, World.ownsRow_nil _ _ _ _, Ext.refl _⟩
    generalize GivesA w [] = G at *
    clear hf h
    show Calls Tryz.prog 68 #[.slice none 0 cap] w G
    go_enter Tryz.func68, Tryz.ntmps68
    go_wp2
    exact HG.out
  | some p =>
    obtain ⟨i0, hi, hz0, hz1, hz2⟩ := info_parts info_acc
    have hnews : ∀ j u, (rowA l)[j]? = some u → w.cell? (p.add j) = some u := by
      intro j u hu
      have hll : 0 < l.length := by
        rcases Nat.eq_zero_or_pos l.length with h0 | h0
        · have : l = [] := List.length_eq_zero_iff.1 h0
          subst this
          simp [rowA] at hu
        · exact h0
      obtain ⟨g, e, hc⟩ := hf 0 hll
      cases e
      have := hc j u hu
      by_cases hj0 : j = 0
      · subst hj0; simpa [Addr.add] using this
      · simpa [Addr.add, hj0] using this
    have HN := Lib.hid hnews
    have HL : Hid ((rowA l).length = l.length * 5) := Lib.hid (rowA_len l)
    have HM := Lib.hid (rowA_one l)
    have HG : Hid (∀ v' w', w'.ownsRow w.heap.size 91 5 v' l.length (rowA l) → Ext w w' → GivesA w l (.returned v') w') := Lib.hid (fun v' w' h1 h2 => ⟨v', rfl, h1, h2⟩)
    generalize hgr : GivesA w l = G at *
    generalize rowA l = ns at *
    generalize l.length = n at *
    clear h hnews hf hgr
    have heq := fun W => Lib.run_eql_slice_nil (P := Tryz.prog) W 50 91 (some p) n cap 0 0 Tryz.underlying50
    go_enter Tryz.func68, Tryz.ntmps68
    go_wp2_with (at_builtin; refine wpList_append_own _ rfl _ _ 50 rfl w.heap.size 91 i0 (.agg #[.int .i64 0, .int .i64 0, .int .i64 0, .int .u64 0, .int .u64 0]) 5 40 Tryz.underlying50 hi hz0 hz1 hz2 rfl (by decide) _ 0 [] rfl (World.ownsRow_made w #[] 0 (Nat.le_refl _) (by unfold maxLen; omega) rfl) p n cap ns rfl HL.out ?c1 HM.out ?c3 ?c4 ?c5 ?_)
    case c1 => intro j u hu; exact Lib.cell?_alloc_some _ (HN.out j u hu)
    case c3 => unfold maxLen; omega
    case c4 => omega
    case c5 => simp
    intro v' w' h1 h2 _
    have X := (((Ext.refl w).alloc (.cells #[] 91))).grown h2 (fun j h => by simp [Value.ownBlock] at h; omega)
    have h1' : w'.ownsRow w.heap.size 91 5 v' n ns := by simpa using h1
    have HG2 := Lib.hid (HG.out v' w' h1' X)
    clear h1 h1' h2 X
    go_wp2
    exact HG2.out
theorem Log32 (b g : Nat) (y : LY) (f : Nat → Int) (lv : Value) (log : List Acc) (w : World) (hB : BD w 74 b g y f lv log) (hl : log.length ≤ 1000) :
    Calls Tryz.prog 19 #[.pointer (some ⟨b, 0, none⟩)] w (GivesA w log) := by
  have C := Lib.hid (aClone 0 lv log w hB.row hl)
  have q15 := hB.q15
  clear hB
  go_enter Tryz.func19, Tryz.ntmps19
  go_wp2_with fail
  refine C.out.mono ?_
  rintro e w1 ⟨v, rfl, R1, X1⟩
  have HR : Hid (GivesA w log (.returned v) w1) := Lib.hid ⟨v, rfl, R1, X1⟩
  clear R1 X1
  go_wp2
  go_ret
  exact HR.out
theorem Log64 (b g : Nat) (y : LY) (f : Nat → Int) (lv : Value) (log : List Acc) (w : World) (hB : BD w 75 b g y f lv log) (hl : log.length ≤ 1000) :
    Calls Tryz.prog 23 #[.pointer (some ⟨b, 0, none⟩)] w (GivesA w log) := by
  have C := Lib.hid (aClone 0 lv log w hB.row hl)
  have q15 := hB.q15
  clear hB
  go_enter Tryz.func23, Tryz.ntmps23
  go_wp2_with fail
  refine C.out.mono ?_
  rintro e w1 ⟨v, rfl, R1, X1⟩
  have HR : Hid (GivesA w log (.returned v) w1) := Lib.hid ⟨v, rfl, R1, X1⟩
  clear R1 X1
  go_wp2
  go_ret
  exact HR.out
end Go.Proofs.YtaimmpcijdpgdabGreatDoor
/- What an access comes to, by the laws' small and great. -/
namespace Go.Proofs.YtaimmpcijdpgdabGreatDoor
open Go.RowKit
set_option linter.unusedVariables false
set_option linter.unusedSimpArgs false
set_option maxHeartbeats 2000000
attribute [local go_sem] later_cell later_frozen later_const
/-- an access that is asked for -/
structure DoR where
  t : Int
  k : Int
  c : Int
  n : Int
  o : Int
  z : Int
/-- how a board stands: cells, accesses; what was told -/
structure ST where
  f : Nat → Int
  l : List Acc
  v : Int
  b : Bool
def plusW (W x n : Int) : Int := if W = 32 then (x + n) % 4294967296 else U64 (x + n)
def lookS (y : LY) (W : Int) (kind ak : Int) (d : DoR) (f : Nat → Int) (l : List Acc) : ST :=
  if kd y d.c = kind then ⟨f, l ++ [⟨d.t, ak, d.c, f d.c.toNat, f d.c.toNat⟩], cutS W (f d.c.toNat), false⟩ else ⟨f, l, 0, false⟩
def putS (y : LY) (W : Int) (kind ak : Int) (d : DoR) (f : Nat → Int) (l : List Acc) : ST :=
  if kd y d.c = kind then ⟨upd f d.c.toNat (cutS W d.z), l ++ [⟨d.t, ak, d.c, f d.c.toNat, cutS W d.z⟩], 0, false⟩ else ⟨f, l, 0, false⟩
def addS (y : LY) (W : Int) (d : DoR) (f : Nat → Int) (l : List Acc) : ST :=
  if kd y d.c = 1 then ⟨upd f d.c.toNat (plusW W (cutS W (f d.c.toNat)) d.n), l ++ [⟨d.t, 3, d.c, f d.c.toNat, plusW W (cutS W (f d.c.toNat)) d.n⟩], cutS W (f d.c.toNat), false⟩ else ⟨f, l, 0, false⟩
def swapS (y : LY) (W : Int) (d : DoR) (f : Nat → Int) (l : List Acc) : ST :=
  if kd y d.c = 1 then (if cutS W (f d.c.toNat) = cutS W d.o then ⟨upd f d.c.toNat (cutS W d.z), l ++ [⟨d.t, 4, d.c, f d.c.toNat, cutS W d.z⟩], 0, true⟩ else ⟨f, l ++ [⟨d.t, 5, d.c, f d.c.toNat, f d.c.toNat⟩], 0, false⟩) else ⟨f, l, 0, false⟩
def getS (y : LY) (d : DoR) (f : Nat → Int) (l : List Acc) : ST :=
  if kd y (plc y.Sl y.C d.c) = 3 then ⟨f, l ++ [⟨d.t, 6, plc y.Sl y.C d.c, f (plc y.Sl y.C d.c).toNat, f (plc y.Sl y.C d.c).toNat⟩], f (plc y.Sl y.C d.c).toNat, false⟩ else ⟨f, l, 0, false⟩
def setS (y : LY) (d : DoR) (f : Nat → Int) (l : List Acc) : ST :=
  if kd y (plc y.Sl y.C d.c) = 3 then ⟨upd f (plc y.Sl y.C d.c).toNat (U64 d.n), l ++ [⟨d.t, 7, plc y.Sl y.C d.c, f (plc y.Sl y.C d.c).toNat, U64 d.n⟩], 0, false⟩ else ⟨f, l, 0, false⟩
def stp (y : LY) (W : Int) (d : DoR) (f : Nat → Int) (l : List Acc) : ST :=
  if d.k = 1 then lookS y W 1 1 d f l else if d.k = 2 then putS y W 1 2 d f l else if d.k = 3 then addS y W d f l else if d.k = 4 then swapS y W d f l
  else if d.k = 6 then lookS y W 2 6 d f l else if d.k = 7 then putS y W 2 7 d f l else if d.k = 8 then getS y d f l else if d.k = 9 then setS y d f l else ⟨f, l, 0, false⟩
theorem plusW64 (x n : Int) : plusW 64 x n = U64 (x + n) := rfl
theorem cut32 (x : Int) : cutS 32 x = x % 4294967296 := rfl
theorem cut64 (x : Int) : cutS 64 x = x := rfl
theorem wrap_back {x : Int} (h0 : 0 ≤ x) (h1 : x < 18446744073709551616) : IntKind.u64.wrap (wrap64 x) = x := by rw [IntKind.wrap_u64]; unfold wrap64; omega
set_option maxRecDepth 100000 in
theorem small_Load_no (b g : Nat) (y : LY) (f : Nat → Int) (lv : Value) (log : List Acc) (d : DoR) (w : World) (hB : BD w 74 b g y f lv log) (Y : YOk y) (E : Parts w) (hl : log.length ≤ 1000) (fr : ∀ i, i < y.m → 0 ≤ f i ∧ f i < 18446744073709551616) (o0 : 0 ≤ d.o) (o1 : d.o < 18446744073709551616) (z0 : 0 ≤ d.z) (z1 : d.z < 18446744073709551616) (hd : d.k = 1) (hk : kd y d.c ≠ 1) :
    Calls Tryz.prog 13 #[.pointer (some ⟨b, 0, none⟩), .agg #[.int .i64 d.t, .int .i64 d.k, .int .i64 d.c, .int .i64 d.n, .int .u64 d.o, .int .u64 d.z]] w (ODoes 74 b g y lv (.tuple #[.int .u64 (0), .bool false]) f log w) := by
  rw [hd]
  have C := Lib.hid (fun w' (hx : Ext w w') => Load32_no b g y f lv log d.t d.c w' (hB.ext hx) Y (E.ext hx) hk)
  have HG : Hid (∀ w1 w2 lv', Ext w w1 → BD w2 74 b g y f lv' log → But (Own b g lv) w1 w2 → (lv'.ownBlock = lv.ownBlock ∨ ∃ j, lv'.ownBlock = some j ∧ w1.heap.size ≤ j) → ODoes 74 b g y lv (.tuple #[.int .u64 (0), .bool false]) f log w (.returned (.tuple #[.int .u64 (0), .bool false])) w2) := Lib.hid (fun w1 w2 lv' a1 a2 a3 a4 => odoes_wrap a1 a2 a3 a4 (Ext.refl _))
  clear hB Y E fr o0 o1 z0 z1 hd hl
  go_enter Tryz.func13, Tryz.ntmps13
  go_wp2_with fail
  refine (C.out _ ((Ext.refl w).alloc _)).mono ?_
  rintro e w2 ⟨rfl, lv', B2, T2, A2⟩
  have HG2 := Lib.hid (HG.out _ w2 lv' ((Ext.refl w).alloc _) B2 T2 A2)
  clear B2 T2 A2
  go_wp2
  go_ret2
  exact HG2.out
set_option maxRecDepth 100000 in
theorem small_Load_yes (b g : Nat) (y : LY) (f : Nat → Int) (lv : Value) (log : List Acc) (d : DoR) (w : World) (hB : BD w 74 b g y f lv log) (Y : YOk y) (E : Parts w) (hl : log.length ≤ 1000) (fr : ∀ i, i < y.m → 0 ≤ f i ∧ f i < 18446744073709551616) (o0 : 0 ≤ d.o) (o1 : d.o < 18446744073709551616) (z0 : 0 ≤ d.z) (z1 : d.z < 18446744073709551616) (hd : d.k = 1) (hk : kd y d.c = 1) :
    Calls Tryz.prog 13 #[.pointer (some ⟨b, 0, none⟩), .agg #[.int .i64 d.t, .int .i64 d.k, .int .i64 d.c, .int .i64 d.n, .int .u64 d.o, .int .u64 d.z]] w (ODoes 74 b g y lv (.tuple #[.int .u64 (cutS 32 (f d.c.toNat)), .bool false]) f (log ++ [⟨d.t, 1, d.c, f d.c.toNat, f d.c.toNat⟩]) w) := by
  rw [hd]
  obtain ⟨c, hc⟩ : ∃ c : Nat, d.c = c := ⟨d.c.toNat, by have := kd_in (y := y) (c := d.c) (by rw [hk]; decide); omega⟩
  have hcm : c < y.m := by have := kd_in (y := y) (c := d.c) (by rw [hk]; decide); omega
  obtain ⟨f0, f1⟩ := fr c hcm
  rw [hc] at hk ⊢
  rw [show ((c : Nat) : Int).toNat = c by omega]
  have C0 := fun w' (hx : Ext w w') => Load32_yes b g y f lv log d.t c w' (hB.ext hx) Y (E.ext hx) hk f0 f1 hl
  rw [cut32]
  have HG : Hid (∀ w1 w2 lv', Ext w w1 → BD w2 74 b g y f lv' (log ++ [⟨d.t, 1, (c : Int), f c, f c⟩]) → But (Own b g lv) w1 w2 → (lv'.ownBlock = lv.ownBlock ∨ ∃ j, lv'.ownBlock = some j ∧ w1.heap.size ≤ j) → ODoes 74 b g y lv (.tuple #[.int .u64 (f c % 4294967296), .bool false]) f (log ++ [⟨d.t, 1, (c : Int), f c, f c⟩]) w (.returned (.tuple #[.int .u64 (f c % 4294967296), .bool false])) w2) := Lib.hid (fun w1 w2 lv' a1 a2 a3 a4 => odoes_wrap a1 a2 a3 a4 (Ext.refl _))
  have r0 : 0 ≤ f c % 4294967296 := by omega
  have r1 : f c % 4294967296 < 4294967296 := by omega
  have C := Lib.hid C0
  clear hB Y E fr o0 o1 z0 z1 hd hl
  clear C0
  generalize f c % 4294967296 = r at *
  go_enter Tryz.func13, Tryz.ntmps13
  go_wp2_with fail
  refine (C.out _ ((Ext.refl w).alloc _)).mono ?_
  rintro e w2 ⟨rfl, lv', B2, T2, A2⟩
  have HG2 := Lib.hid (HG.out _ w2 lv' ((Ext.refl w).alloc _) B2 T2 A2)
  clear B2 T2 A2
  go_wp2
  go_ret2
  exact HG2.out
set_option maxRecDepth 100000 in
theorem small_Store_no (b g : Nat) (y : LY) (f : Nat → Int) (lv : Value) (log : List Acc) (d : DoR) (w : World) (hB : BD w 74 b g y f lv log) (Y : YOk y) (E : Parts w) (hl : log.length ≤ 1000) (fr : ∀ i, i < y.m → 0 ≤ f i ∧ f i < 18446744073709551616) (o0 : 0 ≤ d.o) (o1 : d.o < 18446744073709551616) (z0 : 0 ≤ d.z) (z1 : d.z < 18446744073709551616) (hd : d.k = 2) (hk : kd y d.c ≠ 1) :
    Calls Tryz.prog 13 #[.pointer (some ⟨b, 0, none⟩), .agg #[.int .i64 d.t, .int .i64 d.k, .int .i64 d.c, .int .i64 d.n, .int .u64 d.o, .int .u64 d.z]] w (ODoes 74 b g y lv (.tuple #[.int .u64 (0), .bool false]) f log w) := by
  rw [hd]
  have C := Lib.hid (fun w' (hx : Ext w w') => Store32_no b g y f lv log d.t d.c (d.z % 4294967296) w' (hB.ext hx) Y (E.ext hx) hk)
  have HG : Hid (∀ w1 w2 lv', Ext w w1 → BD w2 74 b g y f lv' log → But (Own b g lv) w1 w2 → (lv'.ownBlock = lv.ownBlock ∨ ∃ j, lv'.ownBlock = some j ∧ w1.heap.size ≤ j) → ODoes 74 b g y lv (.tuple #[.int .u64 (0), .bool false]) f log w (.returned (.tuple #[.int .u64 (0), .bool false])) w2) := Lib.hid (fun w1 w2 lv' a1 a2 a3 a4 => odoes_wrap a1 a2 a3 a4 (Ext.refl _))
  clear hB Y E fr o0 o1 z0 z1 hd hl
  go_enter Tryz.func13, Tryz.ntmps13
  go_wp2_with fail
  refine (C.out _ ((Ext.refl w).alloc _)).mono ?_
  rintro e w2 ⟨rfl, lv', B2, T2, A2⟩
  have HG2 := Lib.hid (HG.out _ w2 lv' ((Ext.refl w).alloc _) B2 T2 A2)
  clear B2 T2 A2
  go_wp2
  go_ret2
  exact HG2.out
set_option maxRecDepth 100000 in
theorem small_Store_yes (b g : Nat) (y : LY) (f : Nat → Int) (lv : Value) (log : List Acc) (d : DoR) (w : World) (hB : BD w 74 b g y f lv log) (Y : YOk y) (E : Parts w) (hl : log.length ≤ 1000) (fr : ∀ i, i < y.m → 0 ≤ f i ∧ f i < 18446744073709551616) (o0 : 0 ≤ d.o) (o1 : d.o < 18446744073709551616) (z0 : 0 ≤ d.z) (z1 : d.z < 18446744073709551616) (hd : d.k = 2) (hk : kd y d.c = 1) :
    Calls Tryz.prog 13 #[.pointer (some ⟨b, 0, none⟩), .agg #[.int .i64 d.t, .int .i64 d.k, .int .i64 d.c, .int .i64 d.n, .int .u64 d.o, .int .u64 d.z]] w (ODoes 74 b g y lv (.tuple #[.int .u64 (0), .bool false]) (upd f d.c.toNat (cutS 32 d.z)) (log ++ [⟨d.t, 2, d.c, f d.c.toNat, cutS 32 d.z⟩]) w) := by
  rw [hd]
  obtain ⟨c, hc⟩ : ∃ c : Nat, d.c = c := ⟨d.c.toNat, by have := kd_in (y := y) (c := d.c) (by rw [hk]; decide); omega⟩
  have hcm : c < y.m := by have := kd_in (y := y) (c := d.c) (by rw [hk]; decide); omega
  obtain ⟨f0, f1⟩ := fr c hcm
  rw [hc] at hk ⊢
  rw [show ((c : Nat) : Int).toNat = c by omega]
  have C0 := fun w' (hx : Ext w w') => Store32_yes b g y f lv log d.t (d.z % 4294967296) c w' (hB.ext hx) Y (E.ext hx) hk (by omega) (by omega) f0 f1 hl
  rw [cut32]
  have HG : Hid (∀ w1 w2 lv', Ext w w1 → BD w2 74 b g y (upd f c (d.z % 4294967296)) lv' (log ++ [⟨d.t, 2, (c : Int), f c, (d.z % 4294967296)⟩]) → But (Own b g lv) w1 w2 → (lv'.ownBlock = lv.ownBlock ∨ ∃ j, lv'.ownBlock = some j ∧ w1.heap.size ≤ j) → ODoes 74 b g y lv (.tuple #[.int .u64 (0), .bool false]) (upd f c (d.z % 4294967296)) (log ++ [⟨d.t, 2, (c : Int), f c, (d.z % 4294967296)⟩]) w (.returned (.tuple #[.int .u64 (0), .bool false])) w2) := Lib.hid (fun w1 w2 lv' a1 a2 a3 a4 => odoes_wrap a1 a2 a3 a4 (Ext.refl _))
  have C := Lib.hid C0
  clear hB Y E fr o0 o1 z0 z1 hd hl
  clear C0
  go_enter Tryz.func13, Tryz.ntmps13
  go_wp2_with fail
  refine (C.out _ ((Ext.refl w).alloc _)).mono ?_
  rintro e w2 ⟨rfl, lv', B2, T2, A2⟩
  have HG2 := Lib.hid (HG.out _ w2 lv' ((Ext.refl w).alloc _) B2 T2 A2)
  clear B2 T2 A2
  go_wp2
  go_ret2
  exact HG2.out
set_option maxRecDepth 100000 in
theorem small_Add_no (b g : Nat) (y : LY) (f : Nat → Int) (lv : Value) (log : List Acc) (d : DoR) (w : World) (hB : BD w 74 b g y f lv log) (Y : YOk y) (E : Parts w) (hl : log.length ≤ 1000) (fr : ∀ i, i < y.m → 0 ≤ f i ∧ f i < 18446744073709551616) (o0 : 0 ≤ d.o) (o1 : d.o < 18446744073709551616) (z0 : 0 ≤ d.z) (z1 : d.z < 18446744073709551616) (hd : d.k = 3) (hk : kd y d.c ≠ 1) :
    Calls Tryz.prog 13 #[.pointer (some ⟨b, 0, none⟩), .agg #[.int .i64 d.t, .int .i64 d.k, .int .i64 d.c, .int .i64 d.n, .int .u64 d.o, .int .u64 d.z]] w (ODoes 74 b g y lv (.tuple #[.int .u64 (0), .bool false]) f log w) := by
  rw [hd]
  have C := Lib.hid (fun w' (hx : Ext w w') => Add32_no b g y f lv log d.t d.c d.n w' (hB.ext hx) Y (E.ext hx) hk)
  have HG : Hid (∀ w1 w2 lv', Ext w w1 → BD w2 74 b g y f lv' log → But (Own b g lv) w1 w2 → (lv'.ownBlock = lv.ownBlock ∨ ∃ j, lv'.ownBlock = some j ∧ w1.heap.size ≤ j) → ODoes 74 b g y lv (.tuple #[.int .u64 (0), .bool false]) f log w (.returned (.tuple #[.int .u64 (0), .bool false])) w2) := Lib.hid (fun w1 w2 lv' a1 a2 a3 a4 => odoes_wrap a1 a2 a3 a4 (Ext.refl _))
  clear hB Y E fr o0 o1 z0 z1 hd hl
  go_enter Tryz.func13, Tryz.ntmps13
  go_wp2_with fail
  refine (C.out _ ((Ext.refl w).alloc _)).mono ?_
  rintro e w2 ⟨rfl, lv', B2, T2, A2⟩
  have HG2 := Lib.hid (HG.out _ w2 lv' ((Ext.refl w).alloc _) B2 T2 A2)
  clear B2 T2 A2
  go_wp2
  go_ret2
  exact HG2.out
set_option maxRecDepth 100000 in
theorem small_Add_yes (b g : Nat) (y : LY) (f : Nat → Int) (lv : Value) (log : List Acc) (d : DoR) (w : World) (hB : BD w 74 b g y f lv log) (Y : YOk y) (E : Parts w) (hl : log.length ≤ 1000) (fr : ∀ i, i < y.m → 0 ≤ f i ∧ f i < 18446744073709551616) (o0 : 0 ≤ d.o) (o1 : d.o < 18446744073709551616) (z0 : 0 ≤ d.z) (z1 : d.z < 18446744073709551616) (hd : d.k = 3) (hk : kd y d.c = 1) :
    Calls Tryz.prog 13 #[.pointer (some ⟨b, 0, none⟩), .agg #[.int .i64 d.t, .int .i64 d.k, .int .i64 d.c, .int .i64 d.n, .int .u64 d.o, .int .u64 d.z]] w (ODoes 74 b g y lv (.tuple #[.int .u64 (cutS 32 (f d.c.toNat)), .bool false]) (upd f d.c.toNat (plusW 32 (cutS 32 (f d.c.toNat)) d.n)) (log ++ [⟨d.t, 3, d.c, f d.c.toNat, plusW 32 (cutS 32 (f d.c.toNat)) d.n⟩]) w) := by
  rw [hd]
  obtain ⟨c, hc⟩ : ∃ c : Nat, d.c = c := ⟨d.c.toNat, by have := kd_in (y := y) (c := d.c) (by rw [hk]; decide); omega⟩
  have hcm : c < y.m := by have := kd_in (y := y) (c := d.c) (by rw [hk]; decide); omega
  obtain ⟨f0, f1⟩ := fr c hcm
  rw [hc] at hk ⊢
  rw [show ((c : Nat) : Int).toNat = c by omega]
  have C0 := fun w' (hx : Ext w w') => Add32_yes b g y f lv log d.t d.n c w' (hB.ext hx) Y (E.ext hx) hk f0 f1 hl
  rw [show plusW 32 (cutS 32 (f c)) d.n = (f c % 4294967296 + d.n) % 4294967296 from rfl, cut32]
  have HG : Hid (∀ w1 w2 lv', Ext w w1 → BD w2 74 b g y (upd f c ((f c % 4294967296 + d.n) % 4294967296)) lv' (log ++ [⟨d.t, 3, (c : Int), f c, ((f c % 4294967296 + d.n) % 4294967296)⟩]) → But (Own b g lv) w1 w2 → (lv'.ownBlock = lv.ownBlock ∨ ∃ j, lv'.ownBlock = some j ∧ w1.heap.size ≤ j) → ODoes 74 b g y lv (.tuple #[.int .u64 (f c % 4294967296), .bool false]) (upd f c ((f c % 4294967296 + d.n) % 4294967296)) (log ++ [⟨d.t, 3, (c : Int), f c, ((f c % 4294967296 + d.n) % 4294967296)⟩]) w (.returned (.tuple #[.int .u64 (f c % 4294967296), .bool false])) w2) := Lib.hid (fun w1 w2 lv' a1 a2 a3 a4 => odoes_wrap a1 a2 a3 a4 (Ext.refl _))
  have r0 : 0 ≤ f c % 4294967296 := by omega
  have r1 : f c % 4294967296 < 4294967296 := by omega
  have C := Lib.hid C0
  clear hB Y E fr o0 o1 z0 z1 hd hl
  clear C0
  generalize (f c % 4294967296 + d.n) % 4294967296 = zz at *
  generalize f c % 4294967296 = r at *
  go_enter Tryz.func13, Tryz.ntmps13
  go_wp2_with fail
  refine (C.out _ ((Ext.refl w).alloc _)).mono ?_
  rintro e w2 ⟨rfl, lv', B2, T2, A2⟩
  have HG2 := Lib.hid (HG.out _ w2 lv' ((Ext.refl w).alloc _) B2 T2 A2)
  clear B2 T2 A2
  go_wp2
  go_ret2
  exact HG2.out
set_option maxRecDepth 100000 in
theorem small_Swap_no (b g : Nat) (y : LY) (f : Nat → Int) (lv : Value) (log : List Acc) (d : DoR) (w : World) (hB : BD w 74 b g y f lv log) (Y : YOk y) (E : Parts w) (hl : log.length ≤ 1000) (fr : ∀ i, i < y.m → 0 ≤ f i ∧ f i < 18446744073709551616) (o0 : 0 ≤ d.o) (o1 : d.o < 18446744073709551616) (z0 : 0 ≤ d.z) (z1 : d.z < 18446744073709551616) (hd : d.k = 4) (hk : kd y d.c ≠ 1) :
    Calls Tryz.prog 13 #[.pointer (some ⟨b, 0, none⟩), .agg #[.int .i64 d.t, .int .i64 d.k, .int .i64 d.c, .int .i64 d.n, .int .u64 d.o, .int .u64 d.z]] w (ODoes 74 b g y lv (.tuple #[.int .u64 (0), .bool false]) f log w) := by
  rw [hd]
  have C := Lib.hid (fun w' (hx : Ext w w') => Swap32_no b g y f lv log d.t d.c (d.o % 4294967296) (d.z % 4294967296) w' (hB.ext hx) Y (E.ext hx) hk)
  have HG : Hid (∀ w1 w2 lv', Ext w w1 → BD w2 74 b g y f lv' log → But (Own b g lv) w1 w2 → (lv'.ownBlock = lv.ownBlock ∨ ∃ j, lv'.ownBlock = some j ∧ w1.heap.size ≤ j) → ODoes 74 b g y lv (.tuple #[.int .u64 (0), .bool false]) f log w (.returned (.tuple #[.int .u64 (0), .bool false])) w2) := Lib.hid (fun w1 w2 lv' a1 a2 a3 a4 => odoes_wrap a1 a2 a3 a4 (Ext.refl _))
  clear hB Y E fr o0 o1 z0 z1 hd hl
  go_enter Tryz.func13, Tryz.ntmps13
  go_wp2_with fail
  refine (C.out _ ((Ext.refl w).alloc _)).mono ?_
  rintro e w2 ⟨rfl, lv', B2, T2, A2⟩
  have HG2 := Lib.hid (HG.out _ w2 lv' ((Ext.refl w).alloc _) B2 T2 A2)
  clear B2 T2 A2
  go_wp2
  go_ret2
  exact HG2.out
set_option maxRecDepth 100000 in
theorem small_Swap_miss (b g : Nat) (y : LY) (f : Nat → Int) (lv : Value) (log : List Acc) (d : DoR) (w : World) (hB : BD w 74 b g y f lv log) (Y : YOk y) (E : Parts w) (hl : log.length ≤ 1000) (fr : ∀ i, i < y.m → 0 ≤ f i ∧ f i < 18446744073709551616) (o0 : 0 ≤ d.o) (o1 : d.o < 18446744073709551616) (z0 : 0 ≤ d.z) (z1 : d.z < 18446744073709551616) (hd : d.k = 4) (hk : kd y d.c = 1) (ho : ¬ cutS 32 (f d.c.toNat) = cutS 32 d.o) :
    Calls Tryz.prog 13 #[.pointer (some ⟨b, 0, none⟩), .agg #[.int .i64 d.t, .int .i64 d.k, .int .i64 d.c, .int .i64 d.n, .int .u64 d.o, .int .u64 d.z]] w (ODoes 74 b g y lv (.tuple #[.int .u64 (0), .bool false]) f (log ++ [⟨d.t, 5, d.c, f d.c.toNat, f d.c.toNat⟩]) w) := by
  rw [hd]
  obtain ⟨c, hc⟩ : ∃ c : Nat, d.c = c := ⟨d.c.toNat, by have := kd_in (y := y) (c := d.c) (by rw [hk]; decide); omega⟩
  have hcm : c < y.m := by have := kd_in (y := y) (c := d.c) (by rw [hk]; decide); omega
  obtain ⟨f0, f1⟩ := fr c hcm
  rw [hc] at hk ⊢
  rw [show ((c : Nat) : Int).toNat = c by omega]
  rw [hc, show ((c : Nat) : Int).toNat = c by omega, cut32, cut32] at ho
  have C := Lib.hid (fun w' (hx : Ext w w') => Swap32_miss b g y f lv log d.t (d.o % 4294967296) (d.z % 4294967296) c w' (hB.ext hx) Y (E.ext hx) hk (by simpa using ho) f0 f1 hl)
  have HG : Hid (∀ w1 w2 lv', Ext w w1 → BD w2 74 b g y f lv' (log ++ [⟨d.t, 5, (c : Int), f c, f c⟩]) → But (Own b g lv) w1 w2 → (lv'.ownBlock = lv.ownBlock ∨ ∃ j, lv'.ownBlock = some j ∧ w1.heap.size ≤ j) → ODoes 74 b g y lv (.tuple #[.int .u64 (0), .bool false]) f (log ++ [⟨d.t, 5, (c : Int), f c, f c⟩]) w (.returned (.tuple #[.int .u64 (0), .bool false])) w2) := Lib.hid (fun w1 w2 lv' a1 a2 a3 a4 => odoes_wrap a1 a2 a3 a4 (Ext.refl _))
  clear hB Y E fr o0 o1 z0 z1 hd hl
  clear ho
  go_enter Tryz.func13, Tryz.ntmps13
  go_wp2_with fail
  refine (C.out _ ((Ext.refl w).alloc _)).mono ?_
  rintro e w2 ⟨rfl, lv', B2, T2, A2⟩
  have HG2 := Lib.hid (HG.out _ w2 lv' ((Ext.refl w).alloc _) B2 T2 A2)
  clear B2 T2 A2
  go_wp2
  go_ret2
  exact HG2.out
set_option maxRecDepth 100000 in
theorem small_Swap_yes (b g : Nat) (y : LY) (f : Nat → Int) (lv : Value) (log : List Acc) (d : DoR) (w : World) (hB : BD w 74 b g y f lv log) (Y : YOk y) (E : Parts w) (hl : log.length ≤ 1000) (fr : ∀ i, i < y.m → 0 ≤ f i ∧ f i < 18446744073709551616) (o0 : 0 ≤ d.o) (o1 : d.o < 18446744073709551616) (z0 : 0 ≤ d.z) (z1 : d.z < 18446744073709551616) (hd : d.k = 4) (hk : kd y d.c = 1) (ho : cutS 32 (f d.c.toNat) = cutS 32 d.o) :
    Calls Tryz.prog 13 #[.pointer (some ⟨b, 0, none⟩), .agg #[.int .i64 d.t, .int .i64 d.k, .int .i64 d.c, .int .i64 d.n, .int .u64 d.o, .int .u64 d.z]] w (ODoes 74 b g y lv (.tuple #[.int .u64 (0), .bool true]) (upd f d.c.toNat (cutS 32 d.z)) (log ++ [⟨d.t, 4, d.c, f d.c.toNat, cutS 32 d.z⟩]) w) := by
  rw [hd]
  obtain ⟨c, hc⟩ : ∃ c : Nat, d.c = c := ⟨d.c.toNat, by have := kd_in (y := y) (c := d.c) (by rw [hk]; decide); omega⟩
  have hcm : c < y.m := by have := kd_in (y := y) (c := d.c) (by rw [hk]; decide); omega
  obtain ⟨f0, f1⟩ := fr c hcm
  rw [hc] at hk ⊢
  rw [show ((c : Nat) : Int).toNat = c by omega]
  rw [hc, show ((c : Nat) : Int).toNat = c by omega, cut32, cut32] at ho
  have C := Lib.hid (fun w' (hx : Ext w w') => Swap32_yes b g y f lv log d.t (d.o % 4294967296) (d.z % 4294967296) c w' (hB.ext hx) Y (E.ext hx) hk (by simpa using ho) (by omega) (by omega) f0 f1 hl)
  rw [cut32]
  have HG : Hid (∀ w1 w2 lv', Ext w w1 → BD w2 74 b g y (upd f c (d.z % 4294967296)) lv' (log ++ [⟨d.t, 4, (c : Int), f c, (d.z % 4294967296)⟩]) → But (Own b g lv) w1 w2 → (lv'.ownBlock = lv.ownBlock ∨ ∃ j, lv'.ownBlock = some j ∧ w1.heap.size ≤ j) → ODoes 74 b g y lv (.tuple #[.int .u64 (0), .bool true]) (upd f c (d.z % 4294967296)) (log ++ [⟨d.t, 4, (c : Int), f c, (d.z % 4294967296)⟩]) w (.returned (.tuple #[.int .u64 (0), .bool true])) w2) := Lib.hid (fun w1 w2 lv' a1 a2 a3 a4 => odoes_wrap a1 a2 a3 a4 (Ext.refl _))
  clear hB Y E fr o0 o1 z0 z1 hd hl
  clear ho
  go_enter Tryz.func13, Tryz.ntmps13
  go_wp2_with fail
  refine (C.out _ ((Ext.refl w).alloc _)).mono ?_
  rintro e w2 ⟨rfl, lv', B2, T2, A2⟩
  have HG2 := Lib.hid (HG.out _ w2 lv' ((Ext.refl w).alloc _) B2 T2 A2)
  clear B2 T2 A2
  go_wp2
  go_ret2
  exact HG2.out
set_option maxRecDepth 100000 in
theorem small_Read_no (b g : Nat) (y : LY) (f : Nat → Int) (lv : Value) (log : List Acc) (d : DoR) (w : World) (hB : BD w 74 b g y f lv log) (Y : YOk y) (E : Parts w) (hl : log.length ≤ 1000) (fr : ∀ i, i < y.m → 0 ≤ f i ∧ f i < 18446744073709551616) (o0 : 0 ≤ d.o) (o1 : d.o < 18446744073709551616) (z0 : 0 ≤ d.z) (z1 : d.z < 18446744073709551616) (hd : d.k = 6) (hk : kd y d.c ≠ 2) :
    Calls Tryz.prog 13 #[.pointer (some ⟨b, 0, none⟩), .agg #[.int .i64 d.t, .int .i64 d.k, .int .i64 d.c, .int .i64 d.n, .int .u64 d.o, .int .u64 d.z]] w (ODoes 74 b g y lv (.tuple #[.int .u64 (0), .bool false]) f log w) := by
  rw [hd]
  have C := Lib.hid (fun w' (hx : Ext w w') => Read32_no b g y f lv log d.t d.c w' (hB.ext hx) Y (E.ext hx) hk)
  have HG : Hid (∀ w1 w2 lv', Ext w w1 → BD w2 74 b g y f lv' log → But (Own b g lv) w1 w2 → (lv'.ownBlock = lv.ownBlock ∨ ∃ j, lv'.ownBlock = some j ∧ w1.heap.size ≤ j) → ODoes 74 b g y lv (.tuple #[.int .u64 (0), .bool false]) f log w (.returned (.tuple #[.int .u64 (0), .bool false])) w2) := Lib.hid (fun w1 w2 lv' a1 a2 a3 a4 => odoes_wrap a1 a2 a3 a4 (Ext.refl _))
  clear hB Y E fr o0 o1 z0 z1 hd hl
  go_enter Tryz.func13, Tryz.ntmps13
  go_wp2_with fail
  refine (C.out _ ((Ext.refl w).alloc _)).mono ?_
  rintro e w2 ⟨rfl, lv', B2, T2, A2⟩
  have HG2 := Lib.hid (HG.out _ w2 lv' ((Ext.refl w).alloc _) B2 T2 A2)
  clear B2 T2 A2
  go_wp2
  go_ret2
  exact HG2.out
set_option maxRecDepth 100000 in
theorem small_Read_yes (b g : Nat) (y : LY) (f : Nat → Int) (lv : Value) (log : List Acc) (d : DoR) (w : World) (hB : BD w 74 b g y f lv log) (Y : YOk y) (E : Parts w) (hl : log.length ≤ 1000) (fr : ∀ i, i < y.m → 0 ≤ f i ∧ f i < 18446744073709551616) (o0 : 0 ≤ d.o) (o1 : d.o < 18446744073709551616) (z0 : 0 ≤ d.z) (z1 : d.z < 18446744073709551616) (hd : d.k = 6) (hk : kd y d.c = 2) :
    Calls Tryz.prog 13 #[.pointer (some ⟨b, 0, none⟩), .agg #[.int .i64 d.t, .int .i64 d.k, .int .i64 d.c, .int .i64 d.n, .int .u64 d.o, .int .u64 d.z]] w (ODoes 74 b g y lv (.tuple #[.int .u64 (cutS 32 (f d.c.toNat)), .bool false]) f (log ++ [⟨d.t, 6, d.c, f d.c.toNat, f d.c.toNat⟩]) w) := by
  rw [hd]
  obtain ⟨c, hc⟩ : ∃ c : Nat, d.c = c := ⟨d.c.toNat, by have := kd_in (y := y) (c := d.c) (by rw [hk]; decide); omega⟩
  have hcm : c < y.m := by have := kd_in (y := y) (c := d.c) (by rw [hk]; decide); omega
  obtain ⟨f0, f1⟩ := fr c hcm
  rw [hc] at hk ⊢
  rw [show ((c : Nat) : Int).toNat = c by omega]
  have C0 := fun w' (hx : Ext w w') => Read32_yes b g y f lv log d.t c w' (hB.ext hx) Y (E.ext hx) hk f0 f1 hl
  rw [cut32]
  have HG : Hid (∀ w1 w2 lv', Ext w w1 → BD w2 74 b g y f lv' (log ++ [⟨d.t, 6, (c : Int), f c, f c⟩]) → But (Own b g lv) w1 w2 → (lv'.ownBlock = lv.ownBlock ∨ ∃ j, lv'.ownBlock = some j ∧ w1.heap.size ≤ j) → ODoes 74 b g y lv (.tuple #[.int .u64 (f c % 4294967296), .bool false]) f (log ++ [⟨d.t, 6, (c : Int), f c, f c⟩]) w (.returned (.tuple #[.int .u64 (f c % 4294967296), .bool false])) w2) := Lib.hid (fun w1 w2 lv' a1 a2 a3 a4 => odoes_wrap a1 a2 a3 a4 (Ext.refl _))
  have r0 : 0 ≤ f c % 4294967296 := by omega
  have r1 : f c % 4294967296 < 4294967296 := by omega
  have C := Lib.hid C0
  clear hB Y E fr o0 o1 z0 z1 hd hl
  clear C0
  generalize f c % 4294967296 = r at *
  go_enter Tryz.func13, Tryz.ntmps13
  go_wp2_with fail
  refine (C.out _ ((Ext.refl w).alloc _)).mono ?_
  rintro e w2 ⟨rfl, lv', B2, T2, A2⟩
  have HG2 := Lib.hid (HG.out _ w2 lv' ((Ext.refl w).alloc _) B2 T2 A2)
  clear B2 T2 A2
  go_wp2
  go_ret2
  exact HG2.out
set_option maxRecDepth 100000 in
theorem small_Write_no (b g : Nat) (y : LY) (f : Nat → Int) (lv : Value) (log : List Acc) (d : DoR) (w : World) (hB : BD w 74 b g y f lv log) (Y : YOk y) (E : Parts w) (hl : log.length ≤ 1000) (fr : ∀ i, i < y.m → 0 ≤ f i ∧ f i < 18446744073709551616) (o0 : 0 ≤ d.o) (o1 : d.o < 18446744073709551616) (z0 : 0 ≤ d.z) (z1 : d.z < 18446744073709551616) (hd : d.k = 7) (hk : kd y d.c ≠ 2) :
    Calls Tryz.prog 13 #[.pointer (some ⟨b, 0, none⟩), .agg #[.int .i64 d.t, .int .i64 d.k, .int .i64 d.c, .int .i64 d.n, .int .u64 d.o, .int .u64 d.z]] w (ODoes 74 b g y lv (.tuple #[.int .u64 (0), .bool false]) f log w) := by
  rw [hd]
  have C := Lib.hid (fun w' (hx : Ext w w') => Write32_no b g y f lv log d.t d.c (d.z % 4294967296) w' (hB.ext hx) Y (E.ext hx) hk)
  have HG : Hid (∀ w1 w2 lv', Ext w w1 → BD w2 74 b g y f lv' log → But (Own b g lv) w1 w2 → (lv'.ownBlock = lv.ownBlock ∨ ∃ j, lv'.ownBlock = some j ∧ w1.heap.size ≤ j) → ODoes 74 b g y lv (.tuple #[.int .u64 (0), .bool false]) f log w (.returned (.tuple #[.int .u64 (0), .bool false])) w2) := Lib.hid (fun w1 w2 lv' a1 a2 a3 a4 => odoes_wrap a1 a2 a3 a4 (Ext.refl _))
  clear hB Y E fr o0 o1 z0 z1 hd hl
  go_enter Tryz.func13, Tryz.ntmps13
  go_wp2_with fail
  refine (C.out _ ((Ext.refl w).alloc _)).mono ?_
  rintro e w2 ⟨rfl, lv', B2, T2, A2⟩
  have HG2 := Lib.hid (HG.out _ w2 lv' ((Ext.refl w).alloc _) B2 T2 A2)
  clear B2 T2 A2
  go_wp2
  go_ret2
  exact HG2.out
set_option maxRecDepth 100000 in
theorem small_Write_yes (b g : Nat) (y : LY) (f : Nat → Int) (lv : Value) (log : List Acc) (d : DoR) (w : World) (hB : BD w 74 b g y f lv log) (Y : YOk y) (E : Parts w) (hl : log.length ≤ 1000) (fr : ∀ i, i < y.m → 0 ≤ f i ∧ f i < 18446744073709551616) (o0 : 0 ≤ d.o) (o1 : d.o < 18446744073709551616) (z0 : 0 ≤ d.z) (z1 : d.z < 18446744073709551616) (hd : d.k = 7) (hk : kd y d.c = 2) :
    Calls Tryz.prog 13 #[.pointer (some ⟨b, 0, none⟩), .agg #[.int .i64 d.t, .int .i64 d.k, .int .i64 d.c, .int .i64 d.n, .int .u64 d.o, .int .u64 d.z]] w (ODoes 74 b g y lv (.tuple #[.int .u64 (0), .bool false]) (upd f d.c.toNat (cutS 32 d.z)) (log ++ [⟨d.t, 7, d.c, f d.c.toNat, cutS 32 d.z⟩]) w) := by
  rw [hd]
  obtain ⟨c, hc⟩ : ∃ c : Nat, d.c = c := ⟨d.c.toNat, by have := kd_in (y := y) (c := d.c) (by rw [hk]; decide); omega⟩
  have hcm : c < y.m := by have := kd_in (y := y) (c := d.c) (by rw [hk]; decide); omega
  obtain ⟨f0, f1⟩ := fr c hcm
  rw [hc] at hk ⊢
  rw [show ((c : Nat) : Int).toNat = c by omega]
  have C0 := fun w' (hx : Ext w w') => Write32_yes b g y f lv log d.t (d.z % 4294967296) c w' (hB.ext hx) Y (E.ext hx) hk (by omega) (by omega) f0 f1 hl
  rw [cut32]
  have HG : Hid (∀ w1 w2 lv', Ext w w1 → BD w2 74 b g y (upd f c (d.z % 4294967296)) lv' (log ++ [⟨d.t, 7, (c : Int), f c, (d.z % 4294967296)⟩]) → But (Own b g lv) w1 w2 → (lv'.ownBlock = lv.ownBlock ∨ ∃ j, lv'.ownBlock = some j ∧ w1.heap.size ≤ j) → ODoes 74 b g y lv (.tuple #[.int .u64 (0), .bool false]) (upd f c (d.z % 4294967296)) (log ++ [⟨d.t, 7, (c : Int), f c, (d.z % 4294967296)⟩]) w (.returned (.tuple #[.int .u64 (0), .bool false])) w2) := Lib.hid (fun w1 w2 lv' a1 a2 a3 a4 => odoes_wrap a1 a2 a3 a4 (Ext.refl _))
  have C := Lib.hid C0
  clear hB Y E fr o0 o1 z0 z1 hd hl
  clear C0
  go_enter Tryz.func13, Tryz.ntmps13
  go_wp2_with fail
  refine (C.out _ ((Ext.refl w).alloc _)).mono ?_
  rintro e w2 ⟨rfl, lv', B2, T2, A2⟩
  have HG2 := Lib.hid (HG.out _ w2 lv' ((Ext.refl w).alloc _) B2 T2 A2)
  clear B2 T2 A2
  go_wp2
  go_ret2
  exact HG2.out
set_option maxRecDepth 100000 in
theorem small_Get_no (b g : Nat) (y : LY) (f : Nat → Int) (lv : Value) (log : List Acc) (d : DoR) (w : World) (hB : BD w 74 b g y f lv log) (Y : YOk y) (E : Parts w) (hl : log.length ≤ 1000) (fr : ∀ i, i < y.m → 0 ≤ f i ∧ f i < 18446744073709551616) (o0 : 0 ≤ d.o) (o1 : d.o < 18446744073709551616) (z0 : 0 ≤ d.z) (z1 : d.z < 18446744073709551616) (hd : d.k = 8) (hk : kd y (plc y.Sl y.C d.c) ≠ 3) :
    Calls Tryz.prog 13 #[.pointer (some ⟨b, 0, none⟩), .agg #[.int .i64 d.t, .int .i64 d.k, .int .i64 d.c, .int .i64 d.n, .int .u64 d.o, .int .u64 d.z]] w (ODoes 74 b g y lv (.tuple #[.int .u64 (0), .bool false]) f log w) := by
  rw [hd]
  have C := Lib.hid (fun w' (hx : Ext w w') => Get32_no b g y f lv log d.t d.c w' (hB.ext hx) Y (E.ext hx) hk)
  have HG : Hid (∀ w1 w2 lv', Ext w w1 → BD w2 74 b g y f lv' log → But (Own b g lv) w1 w2 → (lv'.ownBlock = lv.ownBlock ∨ ∃ j, lv'.ownBlock = some j ∧ w1.heap.size ≤ j) → ODoes 74 b g y lv (.tuple #[.int .u64 (0), .bool false]) f log w (.returned (.tuple #[.int .u64 (0), .bool false])) w2) := Lib.hid (fun w1 w2 lv' a1 a2 a3 a4 => odoes_wrap a1 a2 a3 a4 (Ext.refl _))
  clear hB Y E fr o0 o1 z0 z1 hd hl
  go_enter Tryz.func13, Tryz.ntmps13
  go_wp2_with fail
  refine (C.out _ ((Ext.refl w).alloc _)).mono ?_
  rintro e w2 ⟨rfl, lv', B2, T2, A2⟩
  have HG2 := Lib.hid (HG.out _ w2 lv' ((Ext.refl w).alloc _) B2 T2 A2)
  clear B2 T2 A2
  go_wp2
  go_ret2
  exact HG2.out
set_option maxRecDepth 100000 in
theorem small_Get_yes (b g : Nat) (y : LY) (f : Nat → Int) (lv : Value) (log : List Acc) (d : DoR) (w : World) (hB : BD w 74 b g y f lv log) (Y : YOk y) (E : Parts w) (hl : log.length ≤ 1000) (fr : ∀ i, i < y.m → 0 ≤ f i ∧ f i < 18446744073709551616) (o0 : 0 ≤ d.o) (o1 : d.o < 18446744073709551616) (z0 : 0 ≤ d.z) (z1 : d.z < 18446744073709551616) (hd : d.k = 8) (hk : kd y (plc y.Sl y.C d.c) = 3) :
    Calls Tryz.prog 13 #[.pointer (some ⟨b, 0, none⟩), .agg #[.int .i64 d.t, .int .i64 d.k, .int .i64 d.c, .int .i64 d.n, .int .u64 d.o, .int .u64 d.z]] w (ODoes 74 b g y lv (.tuple #[.int .u64 (f (plc y.Sl y.C d.c).toNat), .bool false]) f (log ++ [⟨d.t, 6, plc y.Sl y.C d.c, f (plc y.Sl y.C d.c).toNat, f (plc y.Sl y.C d.c).toNat⟩]) w) := by
  rw [hd]
  obtain ⟨c, hc⟩ : ∃ c : Nat, plc y.Sl y.C d.c = c := ⟨(plc y.Sl y.C d.c).toNat, by have := kd_in (y := y) (c := plc y.Sl y.C d.c) (by rw [hk]; decide); omega⟩
  have hcm : c < y.m := by have := kd_in (y := y) (c := plc y.Sl y.C d.c) (by rw [hk]; decide); omega
  obtain ⟨f0, f1⟩ := fr c hcm
  rw [hc] at hk ⊢
  rw [show ((c : Nat) : Int).toNat = c by omega]
  have C := Lib.hid (fun w' (hx : Ext w w') => Get32_yes b g y f lv log d.t d.c c w' (hB.ext hx) Y (E.ext hx) hc hk f0 f1 hl)
  have HG : Hid (∀ w1 w2 lv', Ext w w1 → BD w2 74 b g y f lv' (log ++ [⟨d.t, 6, (c : Int), f c, f c⟩]) → But (Own b g lv) w1 w2 → (lv'.ownBlock = lv.ownBlock ∨ ∃ j, lv'.ownBlock = some j ∧ w1.heap.size ≤ j) → ODoes 74 b g y lv (.tuple #[.int .u64 (f c), .bool false]) f (log ++ [⟨d.t, 6, (c : Int), f c, f c⟩]) w (.returned (.tuple #[.int .u64 (f c), .bool false])) w2) := Lib.hid (fun w1 w2 lv' a1 a2 a3 a4 => odoes_wrap a1 a2 a3 a4 (Ext.refl _))
  have hwb := wrap_back f0 f1
  clear hB Y E fr o0 o1 z0 z1 hd hl
  clear hc
  generalize wrap64 (f c) = wv at *
  go_enter Tryz.func13, Tryz.ntmps13
  go_wp2_with fail
  refine (C.out _ ((Ext.refl w).alloc _)).mono ?_
  rintro e w2 ⟨rfl, lv', B2, T2, A2⟩
  have HG2 := Lib.hid (HG.out _ w2 lv' ((Ext.refl w).alloc _) B2 T2 A2)
  clear B2 T2 A2
  go_wp2
  go_ret2
  exact HG2.out
set_option maxRecDepth 100000 in
theorem small_Set_no (b g : Nat) (y : LY) (f : Nat → Int) (lv : Value) (log : List Acc) (d : DoR) (w : World) (hB : BD w 74 b g y f lv log) (Y : YOk y) (E : Parts w) (hl : log.length ≤ 1000) (fr : ∀ i, i < y.m → 0 ≤ f i ∧ f i < 18446744073709551616) (o0 : 0 ≤ d.o) (o1 : d.o < 18446744073709551616) (z0 : 0 ≤ d.z) (z1 : d.z < 18446744073709551616) (hd : d.k = 9) (hk : kd y (plc y.Sl y.C d.c) ≠ 3) :
    Calls Tryz.prog 13 #[.pointer (some ⟨b, 0, none⟩), .agg #[.int .i64 d.t, .int .i64 d.k, .int .i64 d.c, .int .i64 d.n, .int .u64 d.o, .int .u64 d.z]] w (ODoes 74 b g y lv (.tuple #[.int .u64 (0), .bool false]) f log w) := by
  rw [hd]
  have C := Lib.hid (fun w' (hx : Ext w w') => Set32_no b g y f lv log d.t d.c d.n w' (hB.ext hx) Y (E.ext hx) hk)
  have HG : Hid (∀ w1 w2 lv', Ext w w1 → BD w2 74 b g y f lv' log → But (Own b g lv) w1 w2 → (lv'.ownBlock = lv.ownBlock ∨ ∃ j, lv'.ownBlock = some j ∧ w1.heap.size ≤ j) → ODoes 74 b g y lv (.tuple #[.int .u64 (0), .bool false]) f log w (.returned (.tuple #[.int .u64 (0), .bool false])) w2) := Lib.hid (fun w1 w2 lv' a1 a2 a3 a4 => odoes_wrap a1 a2 a3 a4 (Ext.refl _))
  clear hB Y E fr o0 o1 z0 z1 hd hl
  go_enter Tryz.func13, Tryz.ntmps13
  go_wp2_with fail
  refine (C.out _ ((Ext.refl w).alloc _)).mono ?_
  rintro e w2 ⟨rfl, lv', B2, T2, A2⟩
  have HG2 := Lib.hid (HG.out _ w2 lv' ((Ext.refl w).alloc _) B2 T2 A2)
  clear B2 T2 A2
  go_wp2
  go_ret2
  exact HG2.out
set_option maxRecDepth 100000 in
theorem small_Set_yes (b g : Nat) (y : LY) (f : Nat → Int) (lv : Value) (log : List Acc) (d : DoR) (w : World) (hB : BD w 74 b g y f lv log) (Y : YOk y) (E : Parts w) (hl : log.length ≤ 1000) (fr : ∀ i, i < y.m → 0 ≤ f i ∧ f i < 18446744073709551616) (o0 : 0 ≤ d.o) (o1 : d.o < 18446744073709551616) (z0 : 0 ≤ d.z) (z1 : d.z < 18446744073709551616) (hd : d.k = 9) (hk : kd y (plc y.Sl y.C d.c) = 3) :
    Calls Tryz.prog 13 #[.pointer (some ⟨b, 0, none⟩), .agg #[.int .i64 d.t, .int .i64 d.k, .int .i64 d.c, .int .i64 d.n, .int .u64 d.o, .int .u64 d.z]] w (ODoes 74 b g y lv (.tuple #[.int .u64 (0), .bool false]) (upd f (plc y.Sl y.C d.c).toNat (U64 d.n)) (log ++ [⟨d.t, 7, plc y.Sl y.C d.c, f (plc y.Sl y.C d.c).toNat, U64 d.n⟩]) w) := by
  rw [hd]
  obtain ⟨c, hc⟩ : ∃ c : Nat, plc y.Sl y.C d.c = c := ⟨(plc y.Sl y.C d.c).toNat, by have := kd_in (y := y) (c := plc y.Sl y.C d.c) (by rw [hk]; decide); omega⟩
  have hcm : c < y.m := by have := kd_in (y := y) (c := plc y.Sl y.C d.c) (by rw [hk]; decide); omega
  obtain ⟨f0, f1⟩ := fr c hcm
  rw [hc] at hk ⊢
  rw [show ((c : Nat) : Int).toNat = c by omega]
  have C := Lib.hid (fun w' (hx : Ext w w') => Set32_yes b g y f lv log d.t d.c d.n c w' (hB.ext hx) Y (E.ext hx) hc hk f0 f1 hl)
  have HG : Hid (∀ w1 w2 lv', Ext w w1 → BD w2 74 b g y (upd f c (U64 d.n)) lv' (log ++ [⟨d.t, 7, (c : Int), f c, U64 d.n⟩]) → But (Own b g lv) w1 w2 → (lv'.ownBlock = lv.ownBlock ∨ ∃ j, lv'.ownBlock = some j ∧ w1.heap.size ≤ j) → ODoes 74 b g y lv (.tuple #[.int .u64 (0), .bool false]) (upd f c (U64 d.n)) (log ++ [⟨d.t, 7, (c : Int), f c, U64 d.n⟩]) w (.returned (.tuple #[.int .u64 (0), .bool false])) w2) := Lib.hid (fun w1 w2 lv' a1 a2 a3 a4 => odoes_wrap a1 a2 a3 a4 (Ext.refl _))
  clear hB Y E fr o0 o1 z0 z1 hd hl
  clear hc
  go_enter Tryz.func13, Tryz.ntmps13
  go_wp2_with fail
  refine (C.out _ ((Ext.refl w).alloc _)).mono ?_
  rintro e w2 ⟨rfl, lv', B2, T2, A2⟩
  have HG2 := Lib.hid (HG.out _ w2 lv' ((Ext.refl w).alloc _) B2 T2 A2)
  clear B2 T2 A2
  go_wp2
  go_ret2
  exact HG2.out
set_option maxRecDepth 100000 in
theorem small_none (b g : Nat) (y : LY) (f : Nat → Int) (lv : Value) (log : List Acc) (d : DoR) (w : World) (hB : BD w 74 b g y f lv log) (h1 : d.k ≠ 1) (h2 : d.k ≠ 2) (h3 : d.k ≠ 3) (h4 : d.k ≠ 4) (h6 : d.k ≠ 6) (h7 : d.k ≠ 7) (h8 : d.k ≠ 8) (h9 : d.k ≠ 9) :
    Calls Tryz.prog 13 #[.pointer (some ⟨b, 0, none⟩), .agg #[.int .i64 d.t, .int .i64 d.k, .int .i64 d.c, .int .i64 d.n, .int .u64 d.o, .int .u64 d.z]] w (ODoes 74 b g y lv (.tuple #[.int .u64 0, .bool false]) f log w) := by
  have HG : Hid (∀ w1, Ext w w1 → ODoes 74 b g y lv (.tuple #[.int .u64 0, .bool false]) f log w (.returned (.tuple #[.int .u64 0, .bool false])) w1) := Lib.hid (fun w1 a1 => odoes_same hB a1)
  have e1 : (d.k == 1) = false := by simpa using h1
  have e2 : (d.k == 2) = false := by simpa using h2
  have e3 : (d.k == 3) = false := by simpa using h3
  have e4 : (d.k == 4) = false := by simpa using h4
  have e6 : (d.k == 6) = false := by simpa using h6
  have e7 : (d.k == 7) = false := by simpa using h7
  have e8 : (d.k == 8) = false := by simpa using h8
  have e9 : (d.k == 9) = false := by simpa using h9
  clear hB h1 h2 h3 h4 h6 h7 h8 h9
  have HG2 := Lib.hid (HG.out _ ((Ext.refl w).alloc (.cells #[.int .i64 d.t, .int .i64 d.k, .int .i64 d.c, .int .i64 d.n, .int .u64 d.o, .int .u64 d.z] 45)))
  go_enter Tryz.func13, Tryz.ntmps13
  go_wp2
  go_ret2
  exact HG2.out
theorem small_step (b g : Nat) (y : LY) (f : Nat → Int) (lv : Value) (log : List Acc) (d : DoR) (w : World) (hB : BD w 74 b g y f lv log) (Y : YOk y) (E : Parts w) (hl : log.length ≤ 1000) (fr : ∀ i, i < y.m → 0 ≤ f i ∧ f i < 18446744073709551616) (o0 : 0 ≤ d.o) (o1 : d.o < 18446744073709551616) (z0 : 0 ≤ d.z) (z1 : d.z < 18446744073709551616) :
    Calls Tryz.prog 13 #[.pointer (some ⟨b, 0, none⟩), .agg #[.int .i64 d.t, .int .i64 d.k, .int .i64 d.c, .int .i64 d.n, .int .u64 d.o, .int .u64 d.z]] w (ODoes 74 b g y lv (.tuple #[.int .u64 (stp y 32 d f log).v, .bool (stp y 32 d f log).b]) (stp y 32 d f log).f (stp y 32 d f log).l w) := by
  unfold stp
  by_cases k1 : d.k = 1
  · rw [if_pos k1]
    unfold lookS
    by_cases hk : kd y d.c = 1
    · rw [if_pos hk]
      exact small_Load_yes b g y f lv log d w hB Y E hl fr o0 o1 z0 z1 k1 hk
    · rw [if_neg hk]
      exact small_Load_no b g y f lv log d w hB Y E hl fr o0 o1 z0 z1 k1 hk
  rw [if_neg k1]
  by_cases k2 : d.k = 2
  · rw [if_pos k2]
    unfold putS
    by_cases hk : kd y d.c = 1
    · rw [if_pos hk]
      exact small_Store_yes b g y f lv log d w hB Y E hl fr o0 o1 z0 z1 k2 hk
    · rw [if_neg hk]
      exact small_Store_no b g y f lv log d w hB Y E hl fr o0 o1 z0 z1 k2 hk
  rw [if_neg k2]
  by_cases k3 : d.k = 3
  · rw [if_pos k3]
    unfold addS
    by_cases hk : kd y d.c = 1
    · rw [if_pos hk]
      exact small_Add_yes b g y f lv log d w hB Y E hl fr o0 o1 z0 z1 k3 hk
    · rw [if_neg hk]
      exact small_Add_no b g y f lv log d w hB Y E hl fr o0 o1 z0 z1 k3 hk
  rw [if_neg k3]
  by_cases k4 : d.k = 4
  · rw [if_pos k4]
    unfold swapS
    by_cases hk : kd y d.c = 1
    · rw [if_pos hk]
      by_cases ho : cutS 32 (f d.c.toNat) = cutS 32 d.o
      · rw [if_pos ho]
        exact small_Swap_yes b g y f lv log d w hB Y E hl fr o0 o1 z0 z1 k4 hk ho
      · rw [if_neg ho]
        exact small_Swap_miss b g y f lv log d w hB Y E hl fr o0 o1 z0 z1 k4 hk ho
    · rw [if_neg hk]
      exact small_Swap_no b g y f lv log d w hB Y E hl fr o0 o1 z0 z1 k4 hk
  rw [if_neg k4]
  by_cases k6 : d.k = 6
  · rw [if_pos k6]
    unfold lookS
    by_cases hk : kd y d.c = 2
    · rw [if_pos hk]
      exact small_Read_yes b g y f lv log d w hB Y E hl fr o0 o1 z0 z1 k6 hk
    · rw [if_neg hk]
      exact small_Read_no b g y f lv log d w hB Y E hl fr o0 o1 z0 z1 k6 hk
  rw [if_neg k6]
  by_cases k7 : d.k = 7
  · rw [if_pos k7]
    unfold putS
    by_cases hk : kd y d.c = 2
    · rw [if_pos hk]
      exact small_Write_yes b g y f lv log d w hB Y E hl fr o0 o1 z0 z1 k7 hk
    · rw [if_neg hk]
      exact small_Write_no b g y f lv log d w hB Y E hl fr o0 o1 z0 z1 k7 hk
  rw [if_neg k7]
  by_cases k8 : d.k = 8
  · rw [if_pos k8]
    unfold getS
    by_cases hk : kd y (plc y.Sl y.C d.c) = 3
    · rw [if_pos hk]
      exact small_Get_yes b g y f lv log d w hB Y E hl fr o0 o1 z0 z1 k8 hk
    · rw [if_neg hk]
      exact small_Get_no b g y f lv log d w hB Y E hl fr o0 o1 z0 z1 k8 hk
  rw [if_neg k8]
  by_cases k9 : d.k = 9
  · rw [if_pos k9]
    unfold setS
    by_cases hk : kd y (plc y.Sl y.C d.c) = 3
    · rw [if_pos hk]
      exact small_Set_yes b g y f lv log d w hB Y E hl fr o0 o1 z0 z1 k9 hk
    · rw [if_neg hk]
      exact small_Set_no b g y f lv log d w hB Y E hl fr o0 o1 z0 z1 k9 hk
  rw [if_neg k9]
  exact small_none b g y f lv log d w hB k1 k2 k3 k4 k6 k7 k8 k9
set_option maxRecDepth 100000 in
theorem great_Load_no (b g : Nat) (y : LY) (f : Nat → Int) (lv : Value) (log : List Acc) (d : DoR) (w : World) (hB : BD w 75 b g y f lv log) (Y : YOk y) (E : Parts w) (hl : log.length ≤ 1000) (fr : ∀ i, i < y.m → 0 ≤ f i ∧ f i < 18446744073709551616) (o0 : 0 ≤ d.o) (o1 : d.o < 18446744073709551616) (z0 : 0 ≤ d.z) (z1 : d.z < 18446744073709551616) (hd : d.k = 1) (hk : kd y d.c ≠ 1) :
    Calls Tryz.prog 14 #[.pointer (some ⟨b, 0, none⟩), .agg #[.int .i64 d.t, .int .i64 d.k, .int .i64 d.c, .int .i64 d.n, .int .u64 d.o, .int .u64 d.z]] w (ODoes 75 b g y lv (.tuple #[.int .u64 (0), .bool false]) f log w) := by
  rw [hd]
  have C := Lib.hid (fun w' (hx : Ext w w') => Load64_no b g y f lv log d.t d.c w' (hB.ext hx) Y (E.ext hx) hk)
  have HG : Hid (∀ w1 w2 lv', Ext w w1 → BD w2 75 b g y f lv' log → But (Own b g lv) w1 w2 → (lv'.ownBlock = lv.ownBlock ∨ ∃ j, lv'.ownBlock = some j ∧ w1.heap.size ≤ j) → ODoes 75 b g y lv (.tuple #[.int .u64 (0), .bool false]) f log w (.returned (.tuple #[.int .u64 (0), .bool false])) w2) := Lib.hid (fun w1 w2 lv' a1 a2 a3 a4 => odoes_wrap a1 a2 a3 a4 (Ext.refl _))
  clear hB Y E fr o0 o1 z0 z1 hd hl
  go_enter Tryz.func14, Tryz.ntmps14
  go_wp2_with fail
  refine (C.out _ ((Ext.refl w).alloc _)).mono ?_
  rintro e w2 ⟨rfl, lv', B2, T2, A2⟩
  have HG2 := Lib.hid (HG.out _ w2 lv' ((Ext.refl w).alloc _) B2 T2 A2)
  clear B2 T2 A2
  go_wp2
  go_ret2
  exact HG2.out
set_option maxRecDepth 100000 in
theorem great_Load_yes (b g : Nat) (y : LY) (f : Nat → Int) (lv : Value) (log : List Acc) (d : DoR) (w : World) (hB : BD w 75 b g y f lv log) (Y : YOk y) (E : Parts w) (hl : log.length ≤ 1000) (fr : ∀ i, i < y.m → 0 ≤ f i ∧ f i < 18446744073709551616) (o0 : 0 ≤ d.o) (o1 : d.o < 18446744073709551616) (z0 : 0 ≤ d.z) (z1 : d.z < 18446744073709551616) (hd : d.k = 1) (hk : kd y d.c = 1) :
    Calls Tryz.prog 14 #[.pointer (some ⟨b, 0, none⟩), .agg #[.int .i64 d.t, .int .i64 d.k, .int .i64 d.c, .int .i64 d.n, .int .u64 d.o, .int .u64 d.z]] w (ODoes 75 b g y lv (.tuple #[.int .u64 (cutS 64 (f d.c.toNat)), .bool false]) f (log ++ [⟨d.t, 1, d.c, f d.c.toNat, f d.c.toNat⟩]) w) := by
  rw [hd]
  obtain ⟨c, hc⟩ : ∃ c : Nat, d.c = c := ⟨d.c.toNat, by have := kd_in (y := y) (c := d.c) (by rw [hk]; decide); omega⟩
  have hcm : c < y.m := by have := kd_in (y := y) (c := d.c) (by rw [hk]; decide); omega
  obtain ⟨f0, f1⟩ := fr c hcm
  rw [hc] at hk ⊢
  rw [show ((c : Nat) : Int).toNat = c by omega]
  have C0 := fun w' (hx : Ext w w') => Load64_yes b g y f lv log d.t c w' (hB.ext hx) Y (E.ext hx) hk f0 f1 hl
  rw [u64_id f0 f1] at C0
  rw [cut64]
  have HG : Hid (∀ w1 w2 lv', Ext w w1 → BD w2 75 b g y f lv' (log ++ [⟨d.t, 1, (c : Int), f c, f c⟩]) → But (Own b g lv) w1 w2 → (lv'.ownBlock = lv.ownBlock ∨ ∃ j, lv'.ownBlock = some j ∧ w1.heap.size ≤ j) → ODoes 75 b g y lv (.tuple #[.int .u64 (f c), .bool false]) f (log ++ [⟨d.t, 1, (c : Int), f c, f c⟩]) w (.returned (.tuple #[.int .u64 (f c), .bool false])) w2) := Lib.hid (fun w1 w2 lv' a1 a2 a3 a4 => odoes_wrap a1 a2 a3 a4 (Ext.refl _))
  have C := Lib.hid C0
  clear hB Y E fr o0 o1 z0 z1 hd hl
  clear C0
  go_enter Tryz.func14, Tryz.ntmps14
  go_wp2_with fail
  refine (C.out _ ((Ext.refl w).alloc _)).mono ?_
  rintro e w2 ⟨rfl, lv', B2, T2, A2⟩
  have HG2 := Lib.hid (HG.out _ w2 lv' ((Ext.refl w).alloc _) B2 T2 A2)
  clear B2 T2 A2
  go_wp2
  go_ret2
  exact HG2.out
set_option maxRecDepth 100000 in
theorem great_Store_no (b g : Nat) (y : LY) (f : Nat → Int) (lv : Value) (log : List Acc) (d : DoR) (w : World) (hB : BD w 75 b g y f lv log) (Y : YOk y) (E : Parts w) (hl : log.length ≤ 1000) (fr : ∀ i, i < y.m → 0 ≤ f i ∧ f i < 18446744073709551616) (o0 : 0 ≤ d.o) (o1 : d.o < 18446744073709551616) (z0 : 0 ≤ d.z) (z1 : d.z < 18446744073709551616) (hd : d.k = 2) (hk : kd y d.c ≠ 1) :
    Calls Tryz.prog 14 #[.pointer (some ⟨b, 0, none⟩), .agg #[.int .i64 d.t, .int .i64 d.k, .int .i64 d.c, .int .i64 d.n, .int .u64 d.o, .int .u64 d.z]] w (ODoes 75 b g y lv (.tuple #[.int .u64 (0), .bool false]) f log w) := by
  rw [hd]
  have C := Lib.hid (fun w' (hx : Ext w w') => Store64_no b g y f lv log d.t d.c d.z w' (hB.ext hx) Y (E.ext hx) hk)
  have HG : Hid (∀ w1 w2 lv', Ext w w1 → BD w2 75 b g y f lv' log → But (Own b g lv) w1 w2 → (lv'.ownBlock = lv.ownBlock ∨ ∃ j, lv'.ownBlock = some j ∧ w1.heap.size ≤ j) → ODoes 75 b g y lv (.tuple #[.int .u64 (0), .bool false]) f log w (.returned (.tuple #[.int .u64 (0), .bool false])) w2) := Lib.hid (fun w1 w2 lv' a1 a2 a3 a4 => odoes_wrap a1 a2 a3 a4 (Ext.refl _))
  clear hB Y E fr o0 o1 z0 z1 hd hl
  go_enter Tryz.func14, Tryz.ntmps14
  go_wp2_with fail
  refine (C.out _ ((Ext.refl w).alloc _)).mono ?_
  rintro e w2 ⟨rfl, lv', B2, T2, A2⟩
  have HG2 := Lib.hid (HG.out _ w2 lv' ((Ext.refl w).alloc _) B2 T2 A2)
  clear B2 T2 A2
  go_wp2
  go_ret2
  exact HG2.out
set_option maxRecDepth 100000 in
theorem great_Store_yes (b g : Nat) (y : LY) (f : Nat → Int) (lv : Value) (log : List Acc) (d : DoR) (w : World) (hB : BD w 75 b g y f lv log) (Y : YOk y) (E : Parts w) (hl : log.length ≤ 1000) (fr : ∀ i, i < y.m → 0 ≤ f i ∧ f i < 18446744073709551616) (o0 : 0 ≤ d.o) (o1 : d.o < 18446744073709551616) (z0 : 0 ≤ d.z) (z1 : d.z < 18446744073709551616) (hd : d.k = 2) (hk : kd y d.c = 1) :
    Calls Tryz.prog 14 #[.pointer (some ⟨b, 0, none⟩), .agg #[.int .i64 d.t, .int .i64 d.k, .int .i64 d.c, .int .i64 d.n, .int .u64 d.o, .int .u64 d.z]] w (ODoes 75 b g y lv (.tuple #[.int .u64 (0), .bool false]) (upd f d.c.toNat (cutS 64 d.z)) (log ++ [⟨d.t, 2, d.c, f d.c.toNat, cutS 64 d.z⟩]) w) := by
  rw [hd]
  obtain ⟨c, hc⟩ : ∃ c : Nat, d.c = c := ⟨d.c.toNat, by have := kd_in (y := y) (c := d.c) (by rw [hk]; decide); omega⟩
  have hcm : c < y.m := by have := kd_in (y := y) (c := d.c) (by rw [hk]; decide); omega
  obtain ⟨f0, f1⟩ := fr c hcm
  rw [hc] at hk ⊢
  rw [show ((c : Nat) : Int).toNat = c by omega]
  have C0 := fun w' (hx : Ext w w') => Store64_yes b g y f lv log d.t d.z c w' (hB.ext hx) Y (E.ext hx) hk (by omega) (by omega) f0 f1 hl
  rw [cut64]
  have HG : Hid (∀ w1 w2 lv', Ext w w1 → BD w2 75 b g y (upd f c d.z) lv' (log ++ [⟨d.t, 2, (c : Int), f c, d.z⟩]) → But (Own b g lv) w1 w2 → (lv'.ownBlock = lv.ownBlock ∨ ∃ j, lv'.ownBlock = some j ∧ w1.heap.size ≤ j) → ODoes 75 b g y lv (.tuple #[.int .u64 (0), .bool false]) (upd f c d.z) (log ++ [⟨d.t, 2, (c : Int), f c, d.z⟩]) w (.returned (.tuple #[.int .u64 (0), .bool false])) w2) := Lib.hid (fun w1 w2 lv' a1 a2 a3 a4 => odoes_wrap a1 a2 a3 a4 (Ext.refl _))
  have C := Lib.hid C0
  clear hB Y E fr o0 o1 z0 z1 hd hl
  clear C0
  go_enter Tryz.func14, Tryz.ntmps14
  go_wp2_with fail
  refine (C.out _ ((Ext.refl w).alloc _)).mono ?_
  rintro e w2 ⟨rfl, lv', B2, T2, A2⟩
  have HG2 := Lib.hid (HG.out _ w2 lv' ((Ext.refl w).alloc _) B2 T2 A2)
  clear B2 T2 A2
  go_wp2
  go_ret2
  exact HG2.out
set_option maxRecDepth 100000 in
theorem great_Add_no (b g : Nat) (y : LY) (f : Nat → Int) (lv : Value) (log : List Acc) (d : DoR) (w : World) (hB : BD w 75 b g y f lv log) (Y : YOk y) (E : Parts w) (hl : log.length ≤ 1000) (fr : ∀ i, i < y.m → 0 ≤ f i ∧ f i < 18446744073709551616) (o0 : 0 ≤ d.o) (o1 : d.o < 18446744073709551616) (z0 : 0 ≤ d.z) (z1 : d.z < 18446744073709551616) (hd : d.k = 3) (hk : kd y d.c ≠ 1) :
    Calls Tryz.prog 14 #[.pointer (some ⟨b, 0, none⟩), .agg #[.int .i64 d.t, .int .i64 d.k, .int .i64 d.c, .int .i64 d.n, .int .u64 d.o, .int .u64 d.z]] w (ODoes 75 b g y lv (.tuple #[.int .u64 (0), .bool false]) f log w) := by
  rw [hd]
  have C := Lib.hid (fun w' (hx : Ext w w') => Add64_no b g y f lv log d.t d.c d.n w' (hB.ext hx) Y (E.ext hx) hk)
  have HG : Hid (∀ w1 w2 lv', Ext w w1 → BD w2 75 b g y f lv' log → But (Own b g lv) w1 w2 → (lv'.ownBlock = lv.ownBlock ∨ ∃ j, lv'.ownBlock = some j ∧ w1.heap.size ≤ j) → ODoes 75 b g y lv (.tuple #[.int .u64 (0), .bool false]) f log w (.returned (.tuple #[.int .u64 (0), .bool false])) w2) := Lib.hid (fun w1 w2 lv' a1 a2 a3 a4 => odoes_wrap a1 a2 a3 a4 (Ext.refl _))
  clear hB Y E fr o0 o1 z0 z1 hd hl
  go_enter Tryz.func14, Tryz.ntmps14
  go_wp2_with fail
  refine (C.out _ ((Ext.refl w).alloc _)).mono ?_
  rintro e w2 ⟨rfl, lv', B2, T2, A2⟩
  have HG2 := Lib.hid (HG.out _ w2 lv' ((Ext.refl w).alloc _) B2 T2 A2)
  clear B2 T2 A2
  go_wp2
  go_ret2
  exact HG2.out
set_option maxRecDepth 100000 in
theorem great_Add_yes (b g : Nat) (y : LY) (f : Nat → Int) (lv : Value) (log : List Acc) (d : DoR) (w : World) (hB : BD w 75 b g y f lv log) (Y : YOk y) (E : Parts w) (hl : log.length ≤ 1000) (fr : ∀ i, i < y.m → 0 ≤ f i ∧ f i < 18446744073709551616) (o0 : 0 ≤ d.o) (o1 : d.o < 18446744073709551616) (z0 : 0 ≤ d.z) (z1 : d.z < 18446744073709551616) (hd : d.k = 3) (hk : kd y d.c = 1) :
    Calls Tryz.prog 14 #[.pointer (some ⟨b, 0, none⟩), .agg #[.int .i64 d.t, .int .i64 d.k, .int .i64 d.c, .int .i64 d.n, .int .u64 d.o, .int .u64 d.z]] w (ODoes 75 b g y lv (.tuple #[.int .u64 (cutS 64 (f d.c.toNat)), .bool false]) (upd f d.c.toNat (plusW 64 (cutS 64 (f d.c.toNat)) d.n)) (log ++ [⟨d.t, 3, d.c, f d.c.toNat, plusW 64 (cutS 64 (f d.c.toNat)) d.n⟩]) w) := by
  rw [hd]
  obtain ⟨c, hc⟩ : ∃ c : Nat, d.c = c := ⟨d.c.toNat, by have := kd_in (y := y) (c := d.c) (by rw [hk]; decide); omega⟩
  have hcm : c < y.m := by have := kd_in (y := y) (c := d.c) (by rw [hk]; decide); omega
  obtain ⟨f0, f1⟩ := fr c hcm
  rw [hc] at hk ⊢
  rw [show ((c : Nat) : Int).toNat = c by omega]
  have C0 := fun w' (hx : Ext w w') => Add64_yes b g y f lv log d.t d.n c w' (hB.ext hx) Y (E.ext hx) hk f0 f1 hl
  rw [u64_id f0 f1] at C0
  rw [show plusW 64 (cutS 64 (f c)) d.n = U64 (f c + d.n) from rfl, cut64]
  have HG : Hid (∀ w1 w2 lv', Ext w w1 → BD w2 75 b g y (upd f c (U64 (f c + d.n))) lv' (log ++ [⟨d.t, 3, (c : Int), f c, (U64 (f c + d.n))⟩]) → But (Own b g lv) w1 w2 → (lv'.ownBlock = lv.ownBlock ∨ ∃ j, lv'.ownBlock = some j ∧ w1.heap.size ≤ j) → ODoes 75 b g y lv (.tuple #[.int .u64 (f c), .bool false]) (upd f c (U64 (f c + d.n))) (log ++ [⟨d.t, 3, (c : Int), f c, (U64 (f c + d.n))⟩]) w (.returned (.tuple #[.int .u64 (f c), .bool false])) w2) := Lib.hid (fun w1 w2 lv' a1 a2 a3 a4 => odoes_wrap a1 a2 a3 a4 (Ext.refl _))
  have C := Lib.hid C0
  clear hB Y E fr o0 o1 z0 z1 hd hl
  clear C0
  go_enter Tryz.func14, Tryz.ntmps14
  go_wp2_with fail
  refine (C.out _ ((Ext.refl w).alloc _)).mono ?_
  rintro e w2 ⟨rfl, lv', B2, T2, A2⟩
  have HG2 := Lib.hid (HG.out _ w2 lv' ((Ext.refl w).alloc _) B2 T2 A2)
  clear B2 T2 A2
  go_wp2
  go_ret2
  exact HG2.out
set_option maxRecDepth 100000 in
theorem great_Swap_no (b g : Nat) (y : LY) (f : Nat → Int) (lv : Value) (log : List Acc) (d : DoR) (w : World) (hB : BD w 75 b g y f lv log) (Y : YOk y) (E : Parts w) (hl : log.length ≤ 1000) (fr : ∀ i, i < y.m → 0 ≤ f i ∧ f i < 18446744073709551616) (o0 : 0 ≤ d.o) (o1 : d.o < 18446744073709551616) (z0 : 0 ≤ d.z) (z1 : d.z < 18446744073709551616) (hd : d.k = 4) (hk : kd y d.c ≠ 1) :
    Calls Tryz.prog 14 #[.pointer (some ⟨b, 0, none⟩), .agg #[.int .i64 d.t, .int .i64 d.k, .int .i64 d.c, .int .i64 d.n, .int .u64 d.o, .int .u64 d.z]] w (ODoes 75 b g y lv (.tuple #[.int .u64 (0), .bool false]) f log w) := by
  rw [hd]
  have C := Lib.hid (fun w' (hx : Ext w w') => Swap64_no b g y f lv log d.t d.c d.o d.z w' (hB.ext hx) Y (E.ext hx) hk)
  have HG : Hid (∀ w1 w2 lv', Ext w w1 → BD w2 75 b g y f lv' log → But (Own b g lv) w1 w2 → (lv'.ownBlock = lv.ownBlock ∨ ∃ j, lv'.ownBlock = some j ∧ w1.heap.size ≤ j) → ODoes 75 b g y lv (.tuple #[.int .u64 (0), .bool false]) f log w (.returned (.tuple #[.int .u64 (0), .bool false])) w2) := Lib.hid (fun w1 w2 lv' a1 a2 a3 a4 => odoes_wrap a1 a2 a3 a4 (Ext.refl _))
  clear hB Y E fr o0 o1 z0 z1 hd hl
  go_enter Tryz.func14, Tryz.ntmps14
  go_wp2_with fail
  refine (C.out _ ((Ext.refl w).alloc _)).mono ?_
  rintro e w2 ⟨rfl, lv', B2, T2, A2⟩
  have HG2 := Lib.hid (HG.out _ w2 lv' ((Ext.refl w).alloc _) B2 T2 A2)
  clear B2 T2 A2
  go_wp2
  go_ret2
  exact HG2.out
set_option maxRecDepth 100000 in
theorem great_Swap_miss (b g : Nat) (y : LY) (f : Nat → Int) (lv : Value) (log : List Acc) (d : DoR) (w : World) (hB : BD w 75 b g y f lv log) (Y : YOk y) (E : Parts w) (hl : log.length ≤ 1000) (fr : ∀ i, i < y.m → 0 ≤ f i ∧ f i < 18446744073709551616) (o0 : 0 ≤ d.o) (o1 : d.o < 18446744073709551616) (z0 : 0 ≤ d.z) (z1 : d.z < 18446744073709551616) (hd : d.k = 4) (hk : kd y d.c = 1) (ho : ¬ cutS 64 (f d.c.toNat) = cutS 64 d.o) :
    Calls Tryz.prog 14 #[.pointer (some ⟨b, 0, none⟩), .agg #[.int .i64 d.t, .int .i64 d.k, .int .i64 d.c, .int .i64 d.n, .int .u64 d.o, .int .u64 d.z]] w (ODoes 75 b g y lv (.tuple #[.int .u64 (0), .bool false]) f (log ++ [⟨d.t, 5, d.c, f d.c.toNat, f d.c.toNat⟩]) w) := by
  rw [hd]
  obtain ⟨c, hc⟩ : ∃ c : Nat, d.c = c := ⟨d.c.toNat, by have := kd_in (y := y) (c := d.c) (by rw [hk]; decide); omega⟩
  have hcm : c < y.m := by have := kd_in (y := y) (c := d.c) (by rw [hk]; decide); omega
  obtain ⟨f0, f1⟩ := fr c hcm
  rw [hc] at hk ⊢
  rw [show ((c : Nat) : Int).toNat = c by omega]
  rw [hc, show ((c : Nat) : Int).toNat = c by omega, cut64, cut64] at ho
  have C := Lib.hid (fun w' (hx : Ext w w') => Swap64_miss b g y f lv log d.t d.o d.z c w' (hB.ext hx) Y (E.ext hx) hk (by rw [u64_id f0 f1]; simpa using ho) f0 f1 hl)
  have HG : Hid (∀ w1 w2 lv', Ext w w1 → BD w2 75 b g y f lv' (log ++ [⟨d.t, 5, (c : Int), f c, f c⟩]) → But (Own b g lv) w1 w2 → (lv'.ownBlock = lv.ownBlock ∨ ∃ j, lv'.ownBlock = some j ∧ w1.heap.size ≤ j) → ODoes 75 b g y lv (.tuple #[.int .u64 (0), .bool false]) f (log ++ [⟨d.t, 5, (c : Int), f c, f c⟩]) w (.returned (.tuple #[.int .u64 (0), .bool false])) w2) := Lib.hid (fun w1 w2 lv' a1 a2 a3 a4 => odoes_wrap a1 a2 a3 a4 (Ext.refl _))
  clear hB Y E fr o0 o1 z0 z1 hd hl
  clear ho
  go_enter Tryz.func14, Tryz.ntmps14
  go_wp2_with fail
  refine (C.out _ ((Ext.refl w).alloc _)).mono ?_
  rintro e w2 ⟨rfl, lv', B2, T2, A2⟩
  have HG2 := Lib.hid (HG.out _ w2 lv' ((Ext.refl w).alloc _) B2 T2 A2)
  clear B2 T2 A2
  go_wp2
  go_ret2
  exact HG2.out
set_option maxRecDepth 100000 in
theorem great_Swap_yes (b g : Nat) (y : LY) (f : Nat → Int) (lv : Value) (log : List Acc) (d : DoR) (w : World) (hB : BD w 75 b g y f lv log) (Y : YOk y) (E : Parts w) (hl : log.length ≤ 1000) (fr : ∀ i, i < y.m → 0 ≤ f i ∧ f i < 18446744073709551616) (o0 : 0 ≤ d.o) (o1 : d.o < 18446744073709551616) (z0 : 0 ≤ d.z) (z1 : d.z < 18446744073709551616) (hd : d.k = 4) (hk : kd y d.c = 1) (ho : cutS 64 (f d.c.toNat) = cutS 64 d.o) :
    Calls Tryz.prog 14 #[.pointer (some ⟨b, 0, none⟩), .agg #[.int .i64 d.t, .int .i64 d.k, .int .i64 d.c, .int .i64 d.n, .int .u64 d.o, .int .u64 d.z]] w (ODoes 75 b g y lv (.tuple #[.int .u64 (0), .bool true]) (upd f d.c.toNat (cutS 64 d.z)) (log ++ [⟨d.t, 4, d.c, f d.c.toNat, cutS 64 d.z⟩]) w) := by
  rw [hd]
  obtain ⟨c, hc⟩ : ∃ c : Nat, d.c = c := ⟨d.c.toNat, by have := kd_in (y := y) (c := d.c) (by rw [hk]; decide); omega⟩
  have hcm : c < y.m := by have := kd_in (y := y) (c := d.c) (by rw [hk]; decide); omega
  obtain ⟨f0, f1⟩ := fr c hcm
  rw [hc] at hk ⊢
  rw [show ((c : Nat) : Int).toNat = c by omega]
  rw [hc, show ((c : Nat) : Int).toNat = c by omega, cut64, cut64] at ho
  have C := Lib.hid (fun w' (hx : Ext w w') => Swap64_yes b g y f lv log d.t d.o d.z c w' (hB.ext hx) Y (E.ext hx) hk (by rw [u64_id f0 f1]; simpa using ho) (by omega) (by omega) f0 f1 hl)
  rw [cut64]
  have HG : Hid (∀ w1 w2 lv', Ext w w1 → BD w2 75 b g y (upd f c d.z) lv' (log ++ [⟨d.t, 4, (c : Int), f c, d.z⟩]) → But (Own b g lv) w1 w2 → (lv'.ownBlock = lv.ownBlock ∨ ∃ j, lv'.ownBlock = some j ∧ w1.heap.size ≤ j) → ODoes 75 b g y lv (.tuple #[.int .u64 (0), .bool true]) (upd f c d.z) (log ++ [⟨d.t, 4, (c : Int), f c, d.z⟩]) w (.returned (.tuple #[.int .u64 (0), .bool true])) w2) := Lib.hid (fun w1 w2 lv' a1 a2 a3 a4 => odoes_wrap a1 a2 a3 a4 (Ext.refl _))
  clear hB Y E fr o0 o1 z0 z1 hd hl
  clear ho
  go_enter Tryz.func14, Tryz.ntmps14
  go_wp2_with fail
  refine (C.out _ ((Ext.refl w).alloc _)).mono ?_
  rintro e w2 ⟨rfl, lv', B2, T2, A2⟩
  have HG2 := Lib.hid (HG.out _ w2 lv' ((Ext.refl w).alloc _) B2 T2 A2)
  clear B2 T2 A2
  go_wp2
  go_ret2
  exact HG2.out
set_option maxRecDepth 100000 in
theorem great_Read_no (b g : Nat) (y : LY) (f : Nat → Int) (lv : Value) (log : List Acc) (d : DoR) (w : World) (hB : BD w 75 b g y f lv log) (Y : YOk y) (E : Parts w) (hl : log.length ≤ 1000) (fr : ∀ i, i < y.m → 0 ≤ f i ∧ f i < 18446744073709551616) (o0 : 0 ≤ d.o) (o1 : d.o < 18446744073709551616) (z0 : 0 ≤ d.z) (z1 : d.z < 18446744073709551616) (hd : d.k = 6) (hk : kd y d.c ≠ 2) :
    Calls Tryz.prog 14 #[.pointer (some ⟨b, 0, none⟩), .agg #[.int .i64 d.t, .int .i64 d.k, .int .i64 d.c, .int .i64 d.n, .int .u64 d.o, .int .u64 d.z]] w (ODoes 75 b g y lv (.tuple #[.int .u64 (0), .bool false]) f log w) := by
  rw [hd]
  have C := Lib.hid (fun w' (hx : Ext w w') => Read64_no b g y f lv log d.t d.c w' (hB.ext hx) Y (E.ext hx) hk)
  have HG : Hid (∀ w1 w2 lv', Ext w w1 → BD w2 75 b g y f lv' log → But (Own b g lv) w1 w2 → (lv'.ownBlock = lv.ownBlock ∨ ∃ j, lv'.ownBlock = some j ∧ w1.heap.size ≤ j) → ODoes 75 b g y lv (.tuple #[.int .u64 (0), .bool false]) f log w (.returned (.tuple #[.int .u64 (0), .bool false])) w2) := Lib.hid (fun w1 w2 lv' a1 a2 a3 a4 => odoes_wrap a1 a2 a3 a4 (Ext.refl _))
  clear hB Y E fr o0 o1 z0 z1 hd hl
  go_enter Tryz.func14, Tryz.ntmps14
  go_wp2_with fail
  refine (C.out _ ((Ext.refl w).alloc _)).mono ?_
  rintro e w2 ⟨rfl, lv', B2, T2, A2⟩
  have HG2 := Lib.hid (HG.out _ w2 lv' ((Ext.refl w).alloc _) B2 T2 A2)
  clear B2 T2 A2
  go_wp2
  go_ret2
  exact HG2.out
set_option maxRecDepth 100000 in
theorem great_Read_yes (b g : Nat) (y : LY) (f : Nat → Int) (lv : Value) (log : List Acc) (d : DoR) (w : World) (hB : BD w 75 b g y f lv log) (Y : YOk y) (E : Parts w) (hl : log.length ≤ 1000) (fr : ∀ i, i < y.m → 0 ≤ f i ∧ f i < 18446744073709551616) (o0 : 0 ≤ d.o) (o1 : d.o < 18446744073709551616) (z0 : 0 ≤ d.z) (z1 : d.z < 18446744073709551616) (hd : d.k = 6) (hk : kd y d.c = 2) :
    Calls Tryz.prog 14 #[.pointer (some ⟨b, 0, none⟩), .agg #[.int .i64 d.t, .int .i64 d.k, .int .i64 d.c, .int .i64 d.n, .int .u64 d.o, .int .u64 d.z]] w (ODoes 75 b g y lv (.tuple #[.int .u64 (cutS 64 (f d.c.toNat)), .bool false]) f (log ++ [⟨d.t, 6, d.c, f d.c.toNat, f d.c.toNat⟩]) w) := by
  rw [hd]
  obtain ⟨c, hc⟩ : ∃ c : Nat, d.c = c := ⟨d.c.toNat, by have := kd_in (y := y) (c := d.c) (by rw [hk]; decide); omega⟩
  have hcm : c < y.m := by have := kd_in (y := y) (c := d.c) (by rw [hk]; decide); omega
  obtain ⟨f0, f1⟩ := fr c hcm
  rw [hc] at hk ⊢
  rw [show ((c : Nat) : Int).toNat = c by omega]
  have C0 := fun w' (hx : Ext w w') => Read64_yes b g y f lv log d.t c w' (hB.ext hx) Y (E.ext hx) hk f0 f1 hl
  rw [u64_id f0 f1] at C0
  rw [cut64]
  have HG : Hid (∀ w1 w2 lv', Ext w w1 → BD w2 75 b g y f lv' (log ++ [⟨d.t, 6, (c : Int), f c, f c⟩]) → But (Own b g lv) w1 w2 → (lv'.ownBlock = lv.ownBlock ∨ ∃ j, lv'.ownBlock = some j ∧ w1.heap.size ≤ j) → ODoes 75 b g y lv (.tuple #[.int .u64 (f c), .bool false]) f (log ++ [⟨d.t, 6, (c : Int), f c, f c⟩]) w (.returned (.tuple #[.int .u64 (f c), .bool false])) w2) := Lib.hid (fun w1 w2 lv' a1 a2 a3 a4 => odoes_wrap a1 a2 a3 a4 (Ext.refl _))
  have C := Lib.hid C0
  clear hB Y E fr o0 o1 z0 z1 hd hl
  clear C0
  go_enter Tryz.func14, Tryz.ntmps14
  go_wp2_with fail
  refine (C.out _ ((Ext.refl w).alloc _)).mono ?_
  rintro e w2 ⟨rfl, lv', B2, T2, A2⟩
  have HG2 := Lib.hid (HG.out _ w2 lv' ((Ext.refl w).alloc _) B2 T2 A2)
  clear B2 T2 A2
  go_wp2
  go_ret2
  exact HG2.out
set_option maxRecDepth 100000 in
theorem great_Write_no (b g : Nat) (y : LY) (f : Nat → Int) (lv : Value) (log : List Acc) (d : DoR) (w : World) (hB : BD w 75 b g y f lv log) (Y : YOk y) (E : Parts w) (hl : log.length ≤ 1000) (fr : ∀ i, i < y.m → 0 ≤ f i ∧ f i < 18446744073709551616) (o0 : 0 ≤ d.o) (o1 : d.o < 18446744073709551616) (z0 : 0 ≤ d.z) (z1 : d.z < 18446744073709551616) (hd : d.k = 7) (hk : kd y d.c ≠ 2) :
    Calls Tryz.prog 14 #[.pointer (some ⟨b, 0, none⟩), .agg #[.int .i64 d.t, .int .i64 d.k, .int .i64 d.c, .int .i64 d.n, .int .u64 d.o, .int .u64 d.z]] w (ODoes 75 b g y lv (.tuple #[.int .u64 (0), .bool false]) f log w) := by
  rw [hd]
  have C := Lib.hid (fun w' (hx : Ext w w') => Write64_no b g y f lv log d.t d.c d.z w' (hB.ext hx) Y (E.ext hx) hk)
  have HG : Hid (∀ w1 w2 lv', Ext w w1 → BD w2 75 b g y f lv' log → But (Own b g lv) w1 w2 → (lv'.ownBlock = lv.ownBlock ∨ ∃ j, lv'.ownBlock = some j ∧ w1.heap.size ≤ j) → ODoes 75 b g y lv (.tuple #[.int .u64 (0), .bool false]) f log w (.returned (.tuple #[.int .u64 (0), .bool false])) w2) := Lib.hid (fun w1 w2 lv' a1 a2 a3 a4 => odoes_wrap a1 a2 a3 a4 (Ext.refl _))
  clear hB Y E fr o0 o1 z0 z1 hd hl
  go_enter Tryz.func14, Tryz.ntmps14
  go_wp2_with fail
  refine (C.out _ ((Ext.refl w).alloc _)).mono ?_
  rintro e w2 ⟨rfl, lv', B2, T2, A2⟩
  have HG2 := Lib.hid (HG.out _ w2 lv' ((Ext.refl w).alloc _) B2 T2 A2)
  clear B2 T2 A2
  go_wp2
  go_ret2
  exact HG2.out
set_option maxRecDepth 100000 in
theorem great_Write_yes (b g : Nat) (y : LY) (f : Nat → Int) (lv : Value) (log : List Acc) (d : DoR) (w : World) (hB : BD w 75 b g y f lv log) (Y : YOk y) (E : Parts w) (hl : log.length ≤ 1000) (fr : ∀ i, i < y.m → 0 ≤ f i ∧ f i < 18446744073709551616) (o0 : 0 ≤ d.o) (o1 : d.o < 18446744073709551616) (z0 : 0 ≤ d.z) (z1 : d.z < 18446744073709551616) (hd : d.k = 7) (hk : kd y d.c = 2) :
    Calls Tryz.prog 14 #[.pointer (some ⟨b, 0, none⟩), .agg #[.int .i64 d.t, .int .i64 d.k, .int .i64 d.c, .int .i64 d.n, .int .u64 d.o, .int .u64 d.z]] w (ODoes 75 b g y lv (.tuple #[.int .u64 (0), .bool false]) (upd f d.c.toNat (cutS 64 d.z)) (log ++ [⟨d.t, 7, d.c, f d.c.toNat, cutS 64 d.z⟩]) w) := by
  rw [hd]
  obtain ⟨c, hc⟩ : ∃ c : Nat, d.c = c := ⟨d.c.toNat, by have := kd_in (y := y) (c := d.c) (by rw [hk]; decide); omega⟩
  have hcm : c < y.m := by have := kd_in (y := y) (c := d.c) (by rw [hk]; decide); omega
  obtain ⟨f0, f1⟩ := fr c hcm
  rw [hc] at hk ⊢
  rw [show ((c : Nat) : Int).toNat = c by omega]
  have C0 := fun w' (hx : Ext w w') => Write64_yes b g y f lv log d.t d.z c w' (hB.ext hx) Y (E.ext hx) hk (by omega) (by omega) f0 f1 hl
  rw [cut64]
  have HG : Hid (∀ w1 w2 lv', Ext w w1 → BD w2 75 b g y (upd f c d.z) lv' (log ++ [⟨d.t, 7, (c : Int), f c, d.z⟩]) → But (Own b g lv) w1 w2 → (lv'.ownBlock = lv.ownBlock ∨ ∃ j, lv'.ownBlock = some j ∧ w1.heap.size ≤ j) → ODoes 75 b g y lv (.tuple #[.int .u64 (0), .bool false]) (upd f c d.z) (log ++ [⟨d.t, 7, (c : Int), f c, d.z⟩]) w (.returned (.tuple #[.int .u64 (0), .bool false])) w2) := Lib.hid (fun w1 w2 lv' a1 a2 a3 a4 => odoes_wrap a1 a2 a3 a4 (Ext.refl _))
  have C := Lib.hid C0
  clear hB Y E fr o0 o1 z0 z1 hd hl
  clear C0
  go_enter Tryz.func14, Tryz.ntmps14
  go_wp2_with fail
  refine (C.out _ ((Ext.refl w).alloc _)).mono ?_
  rintro e w2 ⟨rfl, lv', B2, T2, A2⟩
  have HG2 := Lib.hid (HG.out _ w2 lv' ((Ext.refl w).alloc _) B2 T2 A2)
  clear B2 T2 A2
  go_wp2
  go_ret2
  exact HG2.out
set_option maxRecDepth 100000 in
theorem great_Get_no (b g : Nat) (y : LY) (f : Nat → Int) (lv : Value) (log : List Acc) (d : DoR) (w : World) (hB : BD w 75 b g y f lv log) (Y : YOk y) (E : Parts w) (hl : log.length ≤ 1000) (fr : ∀ i, i < y.m → 0 ≤ f i ∧ f i < 18446744073709551616) (o0 : 0 ≤ d.o) (o1 : d.o < 18446744073709551616) (z0 : 0 ≤ d.z) (z1 : d.z < 18446744073709551616) (hd : d.k = 8) (hk : kd y (plc y.Sl y.C d.c) ≠ 3) :
    Calls Tryz.prog 14 #[.pointer (some ⟨b, 0, none⟩), .agg #[.int .i64 d.t, .int .i64 d.k, .int .i64 d.c, .int .i64 d.n, .int .u64 d.o, .int .u64 d.z]] w (ODoes 75 b g y lv (.tuple #[.int .u64 (0), .bool false]) f log w) := by
  rw [hd]
  have C := Lib.hid (fun w' (hx : Ext w w') => Get64_no b g y f lv log d.t d.c w' (hB.ext hx) Y (E.ext hx) hk)
  have HG : Hid (∀ w1 w2 lv', Ext w w1 → BD w2 75 b g y f lv' log → But (Own b g lv) w1 w2 → (lv'.ownBlock = lv.ownBlock ∨ ∃ j, lv'.ownBlock = some j ∧ w1.heap.size ≤ j) → ODoes 75 b g y lv (.tuple #[.int .u64 (0), .bool false]) f log w (.returned (.tuple #[.int .u64 (0), .bool false])) w2) := Lib.hid (fun w1 w2 lv' a1 a2 a3 a4 => odoes_wrap a1 a2 a3 a4 (Ext.refl _))
  clear hB Y E fr o0 o1 z0 z1 hd hl
  go_enter Tryz.func14, Tryz.ntmps14
  go_wp2_with fail
  refine (C.out _ ((Ext.refl w).alloc _)).mono ?_
  rintro e w2 ⟨rfl, lv', B2, T2, A2⟩
  have HG2 := Lib.hid (HG.out _ w2 lv' ((Ext.refl w).alloc _) B2 T2 A2)
  clear B2 T2 A2
  go_wp2
  go_ret2
  exact HG2.out
set_option maxRecDepth 100000 in
theorem great_Get_yes (b g : Nat) (y : LY) (f : Nat → Int) (lv : Value) (log : List Acc) (d : DoR) (w : World) (hB : BD w 75 b g y f lv log) (Y : YOk y) (E : Parts w) (hl : log.length ≤ 1000) (fr : ∀ i, i < y.m → 0 ≤ f i ∧ f i < 18446744073709551616) (o0 : 0 ≤ d.o) (o1 : d.o < 18446744073709551616) (z0 : 0 ≤ d.z) (z1 : d.z < 18446744073709551616) (hd : d.k = 8) (hk : kd y (plc y.Sl y.C d.c) = 3) :
    Calls Tryz.prog 14 #[.pointer (some ⟨b, 0, none⟩), .agg #[.int .i64 d.t, .int .i64 d.k, .int .i64 d.c, .int .i64 d.n, .int .u64 d.o, .int .u64 d.z]] w (ODoes 75 b g y lv (.tuple #[.int .u64 (f (plc y.Sl y.C d.c).toNat), .bool false]) f (log ++ [⟨d.t, 6, plc y.Sl y.C d.c, f (plc y.Sl y.C d.c).toNat, f (plc y.Sl y.C d.c).toNat⟩]) w) := by
  rw [hd]
  obtain ⟨c, hc⟩ : ∃ c : Nat, plc y.Sl y.C d.c = c := ⟨(plc y.Sl y.C d.c).toNat, by have := kd_in (y := y) (c := plc y.Sl y.C d.c) (by rw [hk]; decide); omega⟩
  have hcm : c < y.m := by have := kd_in (y := y) (c := plc y.Sl y.C d.c) (by rw [hk]; decide); omega
  obtain ⟨f0, f1⟩ := fr c hcm
  rw [hc] at hk ⊢
  rw [show ((c : Nat) : Int).toNat = c by omega]
  have C := Lib.hid (fun w' (hx : Ext w w') => Get64_yes b g y f lv log d.t d.c c w' (hB.ext hx) Y (E.ext hx) hc hk f0 f1 hl)
  have HG : Hid (∀ w1 w2 lv', Ext w w1 → BD w2 75 b g y f lv' (log ++ [⟨d.t, 6, (c : Int), f c, f c⟩]) → But (Own b g lv) w1 w2 → (lv'.ownBlock = lv.ownBlock ∨ ∃ j, lv'.ownBlock = some j ∧ w1.heap.size ≤ j) → ODoes 75 b g y lv (.tuple #[.int .u64 (f c), .bool false]) f (log ++ [⟨d.t, 6, (c : Int), f c, f c⟩]) w (.returned (.tuple #[.int .u64 (f c), .bool false])) w2) := Lib.hid (fun w1 w2 lv' a1 a2 a3 a4 => odoes_wrap a1 a2 a3 a4 (Ext.refl _))
  have hwb := wrap_back f0 f1
  clear hB Y E fr o0 o1 z0 z1 hd hl
  clear hc
  generalize wrap64 (f c) = wv at *
  go_enter Tryz.func14, Tryz.ntmps14
  go_wp2_with fail
  refine (C.out _ ((Ext.refl w).alloc _)).mono ?_
  rintro e w2 ⟨rfl, lv', B2, T2, A2⟩
  have HG2 := Lib.hid (HG.out _ w2 lv' ((Ext.refl w).alloc _) B2 T2 A2)
  clear B2 T2 A2
  go_wp2
  go_ret2
  exact HG2.out
set_option maxRecDepth 100000 in
theorem great_Set_no (b g : Nat) (y : LY) (f : Nat → Int) (lv : Value) (log : List Acc) (d : DoR) (w : World) (hB : BD w 75 b g y f lv log) (Y : YOk y) (E : Parts w) (hl : log.length ≤ 1000) (fr : ∀ i, i < y.m → 0 ≤ f i ∧ f i < 18446744073709551616) (o0 : 0 ≤ d.o) (o1 : d.o < 18446744073709551616) (z0 : 0 ≤ d.z) (z1 : d.z < 18446744073709551616) (hd : d.k = 9) (hk : kd y (plc y.Sl y.C d.c) ≠ 3) :
    Calls Tryz.prog 14 #[.pointer (some ⟨b, 0, none⟩), .agg #[.int .i64 d.t, .int .i64 d.k, .int .i64 d.c, .int .i64 d.n, .int .u64 d.o, .int .u64 d.z]] w (ODoes 75 b g y lv (.tuple #[.int .u64 (0), .bool false]) f log w) := by
  rw [hd]
  have C := Lib.hid (fun w' (hx : Ext w w') => Set64_no b g y f lv log d.t d.c d.n w' (hB.ext hx) Y (E.ext hx) hk)
  have HG : Hid (∀ w1 w2 lv', Ext w w1 → BD w2 75 b g y f lv' log → But (Own b g lv) w1 w2 → (lv'.ownBlock = lv.ownBlock ∨ ∃ j, lv'.ownBlock = some j ∧ w1.heap.size ≤ j) → ODoes 75 b g y lv (.tuple #[.int .u64 (0), .bool false]) f log w (.returned (.tuple #[.int .u64 (0), .bool false])) w2) := Lib.hid (fun w1 w2 lv' a1 a2 a3 a4 => odoes_wrap a1 a2 a3 a4 (Ext.refl _))
  clear hB Y E fr o0 o1 z0 z1 hd hl
  go_enter Tryz.func14, Tryz.ntmps14
  go_wp2_with fail
  refine (C.out _ ((Ext.refl w).alloc _)).mono ?_
  rintro e w2 ⟨rfl, lv', B2, T2, A2⟩
  have HG2 := Lib.hid (HG.out _ w2 lv' ((Ext.refl w).alloc _) B2 T2 A2)
  clear B2 T2 A2
  go_wp2
  go_ret2
  exact HG2.out
set_option maxRecDepth 100000 in
theorem great_Set_yes (b g : Nat) (y : LY) (f : Nat → Int) (lv : Value) (log : List Acc) (d : DoR) (w : World) (hB : BD w 75 b g y f lv log) (Y : YOk y) (E : Parts w) (hl : log.length ≤ 1000) (fr : ∀ i, i < y.m → 0 ≤ f i ∧ f i < 18446744073709551616) (o0 : 0 ≤ d.o) (o1 : d.o < 18446744073709551616) (z0 : 0 ≤ d.z) (z1 : d.z < 18446744073709551616) (hd : d.k = 9) (hk : kd y (plc y.Sl y.C d.c) = 3) :
    Calls Tryz.prog 14 #[.pointer (some ⟨b, 0, none⟩), .agg #[.int .i64 d.t, .int .i64 d.k, .int .i64 d.c, .int .i64 d.n, .int .u64 d.o, .int .u64 d.z]] w (ODoes 75 b g y lv (.tuple #[.int .u64 (0), .bool false]) (upd f (plc y.Sl y.C d.c).toNat (U64 d.n)) (log ++ [⟨d.t, 7, plc y.Sl y.C d.c, f (plc y.Sl y.C d.c).toNat, U64 d.n⟩]) w) := by
  rw [hd]
  obtain ⟨c, hc⟩ : ∃ c : Nat, plc y.Sl y.C d.c = c := ⟨(plc y.Sl y.C d.c).toNat, by have := kd_in (y := y) (c := plc y.Sl y.C d.c) (by rw [hk]; decide); omega⟩
  have hcm : c < y.m := by have := kd_in (y := y) (c := plc y.Sl y.C d.c) (by rw [hk]; decide); omega
  obtain ⟨f0, f1⟩ := fr c hcm
  rw [hc] at hk ⊢
  rw [show ((c : Nat) : Int).toNat = c by omega]
  have C := Lib.hid (fun w' (hx : Ext w w') => Set64_yes b g y f lv log d.t d.c d.n c w' (hB.ext hx) Y (E.ext hx) hc hk f0 f1 hl)
  have HG : Hid (∀ w1 w2 lv', Ext w w1 → BD w2 75 b g y (upd f c (U64 d.n)) lv' (log ++ [⟨d.t, 7, (c : Int), f c, U64 d.n⟩]) → But (Own b g lv) w1 w2 → (lv'.ownBlock = lv.ownBlock ∨ ∃ j, lv'.ownBlock = some j ∧ w1.heap.size ≤ j) → ODoes 75 b g y lv (.tuple #[.int .u64 (0), .bool false]) (upd f c (U64 d.n)) (log ++ [⟨d.t, 7, (c : Int), f c, U64 d.n⟩]) w (.returned (.tuple #[.int .u64 (0), .bool false])) w2) := Lib.hid (fun w1 w2 lv' a1 a2 a3 a4 => odoes_wrap a1 a2 a3 a4 (Ext.refl _))
  clear hB Y E fr o0 o1 z0 z1 hd hl
  clear hc
  go_enter Tryz.func14, Tryz.ntmps14
  go_wp2_with fail
  refine (C.out _ ((Ext.refl w).alloc _)).mono ?_
  rintro e w2 ⟨rfl, lv', B2, T2, A2⟩
  have HG2 := Lib.hid (HG.out _ w2 lv' ((Ext.refl w).alloc _) B2 T2 A2)
  clear B2 T2 A2
  go_wp2
  go_ret2
  exact HG2.out
set_option maxRecDepth 100000 in
theorem great_none (b g : Nat) (y : LY) (f : Nat → Int) (lv : Value) (log : List Acc) (d : DoR) (w : World) (hB : BD w 75 b g y f lv log) (h1 : d.k ≠ 1) (h2 : d.k ≠ 2) (h3 : d.k ≠ 3) (h4 : d.k ≠ 4) (h6 : d.k ≠ 6) (h7 : d.k ≠ 7) (h8 : d.k ≠ 8) (h9 : d.k ≠ 9) :
    Calls Tryz.prog 14 #[.pointer (some ⟨b, 0, none⟩), .agg #[.int .i64 d.t, .int .i64 d.k, .int .i64 d.c, .int .i64 d.n, .int .u64 d.o, .int .u64 d.z]] w (ODoes 75 b g y lv (.tuple #[.int .u64 0, .bool false]) f log w) := by
  have HG : Hid (∀ w1, Ext w w1 → ODoes 75 b g y lv (.tuple #[.int .u64 0, .bool false]) f log w (.returned (.tuple #[.int .u64 0, .bool false])) w1) := Lib.hid (fun w1 a1 => odoes_same hB a1)
  have e1 : (d.k == 1) = false := by simpa using h1
  have e2 : (d.k == 2) = false := by simpa using h2
  have e3 : (d.k == 3) = false := by simpa using h3
  have e4 : (d.k == 4) = false := by simpa using h4
  have e6 : (d.k == 6) = false := by simpa using h6
  have e7 : (d.k == 7) = false := by simpa using h7
  have e8 : (d.k == 8) = false := by simpa using h8
  have e9 : (d.k == 9) = false := by simpa using h9
  clear hB h1 h2 h3 h4 h6 h7 h8 h9
  have HG2 := Lib.hid (HG.out _ ((Ext.refl w).alloc (.cells #[.int .i64 d.t, .int .i64 d.k, .int .i64 d.c, .int .i64 d.n, .int .u64 d.o, .int .u64 d.z] 45)))
  go_enter Tryz.func14, Tryz.ntmps14
  go_wp2
  go_ret2
  exact HG2.out
theorem great_step (b g : Nat) (y : LY) (f : Nat → Int) (lv : Value) (log : List Acc) (d : DoR) (w : World) (hB : BD w 75 b g y f lv log) (Y : YOk y) (E : Parts w) (hl : log.length ≤ 1000) (fr : ∀ i, i < y.m → 0 ≤ f i ∧ f i < 18446744073709551616) (o0 : 0 ≤ d.o) (o1 : d.o < 18446744073709551616) (z0 : 0 ≤ d.z) (z1 : d.z < 18446744073709551616) :
    Calls Tryz.prog 14 #[.pointer (some ⟨b, 0, none⟩), .agg #[.int .i64 d.t, .int .i64 d.k, .int .i64 d.c, .int .i64 d.n, .int .u64 d.o, .int .u64 d.z]] w (ODoes 75 b g y lv (.tuple #[.int .u64 (stp y 64 d f log).v, .bool (stp y 64 d f log).b]) (stp y 64 d f log).f (stp y 64 d f log).l w) := by
  unfold stp
  by_cases k1 : d.k = 1
  · rw [if_pos k1]
    unfold lookS
    by_cases hk : kd y d.c = 1
    · rw [if_pos hk]
      exact great_Load_yes b g y f lv log d w hB Y E hl fr o0 o1 z0 z1 k1 hk
    · rw [if_neg hk]
      exact great_Load_no b g y f lv log d w hB Y E hl fr o0 o1 z0 z1 k1 hk
  rw [if_neg k1]
  by_cases k2 : d.k = 2
  · rw [if_pos k2]
    unfold putS
    by_cases hk : kd y d.c = 1
    · rw [if_pos hk]
      exact great_Store_yes b g y f lv log d w hB Y E hl fr o0 o1 z0 z1 k2 hk
    · rw [if_neg hk]
      exact great_Store_no b g y f lv log d w hB Y E hl fr o0 o1 z0 z1 k2 hk
  rw [if_neg k2]
  by_cases k3 : d.k = 3
  · rw [if_pos k3]
    unfold addS
    by_cases hk : kd y d.c = 1
    · rw [if_pos hk]
      exact great_Add_yes b g y f lv log d w hB Y E hl fr o0 o1 z0 z1 k3 hk
    · rw [if_neg hk]
      exact great_Add_no b g y f lv log d w hB Y E hl fr o0 o1 z0 z1 k3 hk
  rw [if_neg k3]
  by_cases k4 : d.k = 4
  · rw [if_pos k4]
    unfold swapS
    by_cases hk : kd y d.c = 1
    · rw [if_pos hk]
      by_cases ho : cutS 64 (f d.c.toNat) = cutS 64 d.o
      · rw [if_pos ho]
        exact great_Swap_yes b g y f lv log d w hB Y E hl fr o0 o1 z0 z1 k4 hk ho
      · rw [if_neg ho]
        exact great_Swap_miss b g y f lv log d w hB Y E hl fr o0 o1 z0 z1 k4 hk ho
    · rw [if_neg hk]
      exact great_Swap_no b g y f lv log d w hB Y E hl fr o0 o1 z0 z1 k4 hk
  rw [if_neg k4]
  by_cases k6 : d.k = 6
  · rw [if_pos k6]
    unfold lookS
    by_cases hk : kd y d.c = 2
    · rw [if_pos hk]
      exact great_Read_yes b g y f lv log d w hB Y E hl fr o0 o1 z0 z1 k6 hk
    · rw [if_neg hk]
      exact great_Read_no b g y f lv log d w hB Y E hl fr o0 o1 z0 z1 k6 hk
  rw [if_neg k6]
  by_cases k7 : d.k = 7
  · rw [if_pos k7]
    unfold putS
    by_cases hk : kd y d.c = 2
    · rw [if_pos hk]
      exact great_Write_yes b g y f lv log d w hB Y E hl fr o0 o1 z0 z1 k7 hk
    · rw [if_neg hk]
      exact great_Write_no b g y f lv log d w hB Y E hl fr o0 o1 z0 z1 k7 hk
  rw [if_neg k7]
  by_cases k8 : d.k = 8
  · rw [if_pos k8]
    unfold getS
    by_cases hk : kd y (plc y.Sl y.C d.c) = 3
    · rw [if_pos hk]
      exact great_Get_yes b g y f lv log d w hB Y E hl fr o0 o1 z0 z1 k8 hk
    · rw [if_neg hk]
      exact great_Get_no b g y f lv log d w hB Y E hl fr o0 o1 z0 z1 k8 hk
  rw [if_neg k8]
  by_cases k9 : d.k = 9
  · rw [if_pos k9]
    unfold setS
    by_cases hk : kd y (plc y.Sl y.C d.c) = 3
    · rw [if_pos hk]
      exact great_Set_yes b g y f lv log d w hB Y E hl fr o0 o1 z0 z1 k9 hk
    · rw [if_neg hk]
      exact great_Set_no b g y f lv log d w hB Y E hl fr o0 o1 z0 z1 k9 hk
  rw [if_neg k9]
  exact great_none b g y f lv log d w hB k1 k2 k3 k4 k6 k7 k8 k9
end Go.Proofs.YtaimmpcijdpgdabGreatDoor
/- Arguments as the row hands them in, opened: an access that is asked for, a slice of these. No program in sight. -/
namespace Go.Proofs.YtaimmpcijdpgdabGreatDoor
open Go.Joins Go.ChangeShapes Go.WideShapes Go.ChangeAt Go.RowKit Go.Deep
set_option linter.unusedVariables false
/-- all its numbers fit -/
def DoOk (d : DoR) : Prop := (Lit.int .i64 d.t).wf = true ∧ (Lit.int .i64 d.k).wf = true ∧ (Lit.int .i64 d.c).wf = true ∧ (Lit.int .i64 d.n).wf = true ∧ (Lit.int .u64 d.o).wf = true ∧ (Lit.int .u64 d.z).wf = true
def doV (d : DoR) : List Value := [.int .i64 d.t, .int .i64 d.k, .int .i64 d.c, .int .i64 d.n, .int .u64 d.o, .int .u64 d.z]
def IsDos (w : World) (a : Option Addr) (len cap : Nat) (ds : List DoR) : Prop :=
  ds.length = len ∧ len ≤ cap ∧ cap ≤ maxLen ∧ (∀ d ∈ ds, DoOk d) ∧ (∀ i, (hi : i < ds.length) → ∃ b off, a = some ⟨b, off, none⟩ ∧ ∀ j u, (doV ds[i])[j]? = some u → w.cell? ⟨b, off + (i * 6 + j), none⟩ = some u)
section
variable {H : Type} {enc : TypeId × Value → H} {P : Program} {W : World} {held : Bool}
theorem do_cells {t : TypeId} {f0 f1 f2 f3 f4 f5 : Field} {cs : List Value} {fuel : Nat} {d : DataW H × List MemPlace} {base : Nat} {sp : Nat → Bool} (ht : P.underlying t = some (.struct #[f0, f1, f2, f3, f4, f5]))
    (e0 : P.underlying f0.type = some (.int .i64)) (e1 : P.underlying f1.type = some (.int .i64)) (e2 : P.underlying f2.type = some (.int .i64)) (e3 : P.underlying f3.type = some (.int .i64)) (e4 : P.underlying f4.type = some (.int .u64)) (e5 : P.underlying f5.type = some (.int .u64))
    (hone : oneCellFields P #[f0, f1, f2, f3, f4, f5] = true) (hl6 : cs.length = 6) (hf : DataW.trod enc P W base sp held fuel t cs = some d) : ∃ x : DoR, cs = doV x ∧ DoOk x := by
  obtain ⟨xs, n, _, _, hl, hlen, hh⟩ := DataW.trod_struct ht hf
  have g0 := hh 0 f0 rfl
  have g1 := hh 1 f1 rfl
  have g2 := hh 2 f2 rfl
  have g3 := hh 3 f3 rfl
  have g4 := hh 4 f4 rfl
  have g5 := hh 5 f5 rfl
  clear hh hf
  have hlen' : xs.length = 6 := by simpa using hlen
  obtain ⟨o0, k0⟩ := hone_of hone 0 f0 rfl
  obtain ⟨o1, k1⟩ := hone_of hone 1 f1 rfl
  obtain ⟨o2, k2⟩ := hone_of hone 2 f2 rfl
  obtain ⟨o3, k3⟩ := hone_of hone 3 f3 rfl
  obtain ⟨o4, k4⟩ := hone_of hone 4 f4 rfl
  obtain ⟨o5, k5⟩ := hone_of hone 5 f5 rfl
  rw [List.getElem?_eq_getElem (by omega)] at g0 g1 g2 g3 g4 g5
  match cs, hl6 with
  | [c0, c1, c2, c3, c4, c5], _ =>
    simp [o0, k0] at g0
    simp [o1, k1] at g1
    simp [o2, k2] at g2
    simp [o3, k3] at g3
    simp [o4, k4] at g4
    simp [o5, k5] at g5
    obtain ⟨x0, q0, _, w0⟩ := DataW.trod_int e0 g0
    obtain ⟨x1, q1, _, w1⟩ := DataW.trod_int e1 g1
    obtain ⟨x2, q2, _, w2⟩ := DataW.trod_int e2 g2
    obtain ⟨x3, q3, _, w3⟩ := DataW.trod_int e3 g3
    obtain ⟨x4, q4, _, w4⟩ := DataW.trod_int e4 g4
    obtain ⟨x5, q5, _, w5⟩ := DataW.trod_int e5 g5
    simp at q0 q1 q2 q3 q4 q5
    subst q0 q1 q2 q3 q4 q5
    exact ⟨⟨x0, x1, x2, x3, x4, x5⟩, rfl, w0, w1, w2, w3, w4, w5⟩
/-- one, by value -/
theorem open_do {r : Reach} {b0 : Nat} {t : TypeId} {f0 f1 f2 f3 f4 f5 : Field} {v : Value} {d : DataW H} {p : List MemPlace} (ht : P.underlying t = some (.struct #[f0, f1, f2, f3, f4, f5]))
    (e0 : P.underlying f0.type = some (.int .i64)) (e1 : P.underlying f1.type = some (.int .i64)) (e2 : P.underlying f2.type = some (.int .i64)) (e3 : P.underlying f3.type = some (.int .i64)) (e4 : P.underlying f4.type = some (.int .u64)) (e5 : P.underlying f5.type = some (.int .u64))
    (hone : oneCellFields P #[f0, f1, f2, f3, f4, f5] = true) (hC : P.cellsOf t = 6)
    (hv : Value.okWide P W r b0 t v) (h : DataW.Trod enc P W 0 (fun _ => true) held t v d p) : ∃ x : DoR, v = .agg #[.int .i64 x.t, .int .i64 x.k, .int .i64 x.c, .int .i64 x.n, .int .u64 x.o, .int .u64 x.z] ∧ DoOk x := by
  obtain ⟨cs, rfl, hsz⟩ := okWide_struct ht hv
  obtain ⟨fuel, hf⟩ := h
  obtain ⟨x, hx, hok⟩ := do_cells (cs := cs.toList) ht e0 e1 e2 e3 e4 e5 hone (by simpa using hsz.trans hC) (by simpa [Value.cells] using hf)
  refine ⟨x, ?_, hok⟩
  have : cs = (doV x).toArray := by rw [← hx]
  rw [this]
  rfl
theorem open_dos {t e : TypeId} {f0 f1 f2 f3 f4 f5 : Field} {a : Option Addr} {len cap : Nat} {d : DataW H} {p : List MemPlace} (ht : P.underlying t = some (.slice e)) (hs : P.underlying e = some (.struct #[f0, f1, f2, f3, f4, f5]))
    (e0 : P.underlying f0.type = some (.int .i64)) (e1 : P.underlying f1.type = some (.int .i64)) (e2 : P.underlying f2.type = some (.int .i64)) (e3 : P.underlying f3.type = some (.int .i64)) (e4 : P.underlying f4.type = some (.int .u64)) (e5 : P.underlying f5.type = some (.int .u64))
    (hone : oneCellFields P #[f0, f1, f2, f3, f4, f5] = true) (hC : P.cellsOf e = 6)
    (h : DataW.Trod enc P W 0 (fun _ => true) held t (.slice a len cap) d p) : ∃ ds, IsDos W a len cap ds := by
  obtain ⟨fuel, hf⟩ := h
  rcases open_slice ht hf with ⟨hcs, _⟩ | ⟨x, l, c, m, n, D, Pl, hcs, _, hl, hm, hmm, _, hi⟩
  · simp [Value.cells] at hcs
    obtain ⟨rfl, rfl, rfl⟩ := hcs
    exact ⟨[], rfl, Nat.le_refl _, by unfold maxLen; omega, by simp, fun i hi => by simp at hi⟩
  · simp [Value.cells] at hcs
    obtain ⟨rfl, rfl, rfl⟩ := hcs
    simp at hmm
    subst hmm
    have one : ∀ i : Nat, ∃ q : DoR, i < m → DoOk q ∧ ∀ j u, (doV q)[j]? = some u → W.cell? (x.add (i * 6 + j)) = some u := by
      intro i
      by_cases him : i < m
      · obtain ⟨cs', hc, ht'⟩ := hi i him
        rw [hC] at hc
        obtain ⟨_, hcl, hat⟩ := World.cells?_some hc
        obtain ⟨q, hq, hok⟩ := do_cells (cs := cs') hs e0 e1 e2 e3 e4 e5 hone (by omega) ht'
        refine ⟨q, fun _ => ⟨hok, fun j u hu => ?_⟩⟩
        rw [← hq] at hu
        have hj : j < 6 := by
          have := (List.getElem?_eq_some_iff.1 hu).1
          omega
        have aj := hat j hj
        rw [hu] at aj
        rw [← Go.Deep.add_add]
        exact aj
      · exact ⟨⟨0, 0, 0, 0, 0, 0⟩, fun h => absurd h him⟩
    obtain ⟨f, hf⟩ := Classical.axiomOfChoice one
    refine ⟨(List.range len).map f, by simp, hl, hm, ?_, ?_⟩
    · intro q hq
      simp at hq
      obtain ⟨i, hi, rfl⟩ := hq
      exact (hf i (by omega)).1
    · intro i hi
      have hil : i < len := by simpa using hi
      have h0 := (hf i (by omega)).2
      have h00 := (hf 0 (by omega)).2 0 _ rfl
      have hx2 : x = ⟨x.block, x.off, none⟩ := spot_none (v := .int .i64 (f 0).t) (by simpa [Addr.add] using h00)
      refine ⟨x.block, x.off, by rw [← hx2], fun j u hu => ?_⟩
      have hu2 : (doV (f i))[j]? = some u := by simpa using hu
      have := h0 j u hu2
      rw [hx2] at this
      by_cases hz : i * 6 + j = 0
      · rw [hz] at this ⊢; simpa [Addr.add] using this
      · simpa only [Addr.add, hz, if_false] using this
end
end Go.Proofs.YtaimmpcijdpgdabGreatDoor

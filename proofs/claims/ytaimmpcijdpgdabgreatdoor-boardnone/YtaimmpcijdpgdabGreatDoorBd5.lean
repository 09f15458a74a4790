/- A board's log and costs; the law's live. -/
import Derived.Test.YtaimmpcijdpgdabGreatDoorBd4
import Derived.Test.YtaimmpcijdpgdabGreatDoorPair
import Derived.Test.YtaimmpcijdpgdabGreatDoorCf6
namespace Go.Proofs.YtaimmpcijdpgdabGreatDoor
open Go.RowKit
set_option linter.unusedVariables false
set_option linter.unusedSimpArgs false
set_option maxHeartbeats 2000000
attribute [local go_sem] later_cell later_frozen later_const
def isLk (k : Int) : Bool := k == 1 || k == 5 || k == 6
def nL (t : Int) (l : List Acc) : Nat := (l.filter fun x => decide (x.t = t) && isLk x.k).length
def nC (t : Int) (l : List Acc) : Nat := (l.filter fun x => decide (x.t = t) && !isLk x.k).length
theorem nL_le (t : Int) (l : List Acc) : nL t l ≤ l.length := List.length_filter_le _ _
theorem nC_le (t : Int) (l : List Acc) : nC t l ≤ l.length := List.length_filter_le _ _
theorem take_snoc {l : List Acc} {k : Nat} (h : k < l.length) : l.take (k + 1) = l.take k ++ [l[k]] := List.take_succ_eq_append_getElem h
theorem nL_snoc (t : Int) (l : List Acc) (x : Acc) : nL t (l ++ [x]) = nL t l + (if (decide (x.t = t) && isLk x.k) = true then 1 else 0) := by
  unfold nL
  rw [List.filter_append, List.length_append]
  cases h : (decide (x.t = t) && isLk x.k) <;> simp [List.filter_cons, h]
theorem nC_snoc (t : Int) (l : List Acc) (x : Acc) : nC t (l ++ [x]) = nC t l + (if (decide (x.t = t) && !isLk x.k) = true then 1 else 0) := by
  unfold nC
  rw [List.filter_append, List.length_append]
  cases h : (decide (x.t = t) && !isLk x.k) <;> simp [List.filter_cons, h]
/-- how a log lies -/
theorem rowA_form {w : World} {base : Nat} {v : Value} {l : List Acc} (h : w.ownsRow base 91 5 v l.length (rowA l)) : ∃ a cap, v = .slice a l.length cap ∧ (∀ i, i < l.length → ∃ g, a = some ⟨g, 0, none⟩ ∧ ∀ j u, (rowA l)[j]? = some u → w.cell? ⟨g, j, none⟩ = some u) := by
  rcases h.2 with ⟨h1, h2⟩ | ⟨g, cap, cur, h1, h2, h3, h4, h5, h6, h7⟩
  · exact ⟨none, 0, by rw [h1, h2], fun i hi => by omega⟩
  · refine ⟨some ⟨g, 0, none⟩, cap, h1, fun i hi => ⟨g, rfl, fun j u hu => ?_⟩⟩
    have hv : cur[j]? = some u := by
      rw [← h7] at hu
      rw [← Array.getElem?_toList]
      rw [List.getElem?_take] at hu
      split at hu
      · exact hu
      · cases hu
    simp [World.cell?, h3, hv]
theorem rowA_cell {w : World} {base : Nat} {a : Option Addr} {cap : Nat} {l : List Acc} (h : w.ownsRow base 91 5 (.slice a l.length cap) l.length (rowA l)) {i : Nat} (hi : i < l.length) : ∃ g, a = some ⟨g, 0, none⟩ ∧ w.cell? ⟨g, i * 5, none⟩ = some (.int .i64 l[i].t) ∧ w.cell? ⟨g, i * 5 + 1, none⟩ = some (.int .i64 l[i].k) ∧ w.cell? ⟨g, i * 5 + 2, none⟩ = some (.int .i64 l[i].c) ∧ w.cell? ⟨g, i * 5 + 3, none⟩ = some (.int .u64 l[i].o) ∧ w.cell? ⟨g, i * 5 + 4, none⟩ = some (.int .u64 l[i].n) := by
  obtain ⟨a', cap', e, hf⟩ := rowA_form h
  cases e
  obtain ⟨g, e, hc⟩ := hf i hi
  exact ⟨g, e, hc _ _ (rowA_at l i 0 hi (by omega)), hc _ _ (rowA_at l i 1 hi (by omega)), hc _ _ (rowA_at l i 2 hi (by omega)), hc _ _ (rowA_at l i 3 hi (by omega)), hc _ _ (rowA_at l i 4 hi (by omega))⟩
set_option maxRecDepth 100000 in
theorem Cost32 (b g : Nat) (y : LY) (f : Nat → Int) (lv : Value) (log : List Acc) (t : Int) (w : World) (hB : BD w 74 b g y f lv log) (hl : log.length ≤ 1000) :
    Calls Tryz.prog 31 #[.pointer (some ⟨b, 0, none⟩), .int .i64 t] w fun e w' => e = .returned (.complex .f64 (F (nL t log)) (F (nC t log))) ∧ Ext w w' := by
  obtain ⟨a, cap, e, -⟩ := rowA_form hB.row
  subst e
  have q15 := hB.q15
  have HROW := Lib.hid hB.row
  clear hB
  have h1 := nL_le t log
  have h2 := nC_le t log
  have CP := Lib.hid (fun w => of_yes (nL t log) (nC t log) w (by omega) (by omega) (by omega) (by omega))
  have HT : Hid (log.take log.length = log) := Lib.hid (List.take_length)
  obtain ⟨N, hN⟩ : ∃ N, N = log.length := ⟨_, rfl⟩
  have HN := Lib.hid hN
  rw [← hN] at q15 hl h1 h2
  clear hN
  go_enter Tryz.func31, Tryz.ntmps31
  go_wp2
  go_loopw [5, 6, 16] (fun u v i wr => ∃ k : Nat, k ≤ N ∧ i = .int .i64 k ∧ u = .int .i64 (nL t (log.take k)) ∧ v = .int .i64 (nC t (log.take k)) ∧ Ext w wr) (fun _ _ i _ => N - (intOf i).toNat)
  case atStart => exact ⟨0, Nat.zero_le _, rfl, by simp [nL], by simp [nC], Ext.refl _⟩
  case round =>
    obtain ⟨k, hk, rfl, rfl, rfl, hx⟩ := hrel
    by_cases hlt : k < N
    · have hkN : (k : Int) < (N : Int) := by omega
      have hkl : k < log.length := by have := HN.out; omega
      obtain ⟨gl, ea, r0, r1, r2, r3, r4⟩ := rowA_cell HROW.out hkl
      subst ea
      replace r0 := hx.cell r0
      replace r1 := hx.cell r1
      replace r2 := hx.cell r2
      replace r3 := hx.cell r3
      replace r4 := hx.cell r4
      have hsL := nL_snoc t (log.take k) log[k]
      have hsC := nC_snoc t (log.take k) log[k]
      rw [← take_snoc hkl] at hsL hsC
      have bL := nL_le t (log.take k)
      have bC := nC_le t (log.take k)
      have bk : (log.take k).length ≤ k := by rw [List.length_take]; omega
      have HX2 := Lib.hid (hx.alloc (.cells #[.int .i64 log[k].t, .int .i64 log[k].k, .int .i64 log[k].c, .int .u64 log[k].o, .int .u64 log[k].n] 91))
      generalize nL t (log.take k) = x at *
      generalize nC t (log.take k) = z at *
      generalize log[k] = q at *
      clear hx hkl
      by_cases ht : q.t = t
      · by_cases hq : isLk q.k = true
        · have HL1 : Hid (nL t (log.take (k + 1)) = x + 1) := Lib.hid (by rw [hsL]; simp [ht, hq])
          have HC1 : Hid (nC t (log.take (k + 1)) = z) := Lib.hid (by rw [hsC]; simp [ht, hq])
          have dt : (q.t == t) = true := by simpa using ht
          have dk : ((q.k == 1) = true) ∨ ((q.k == 1) = false ∧ (q.k == 5) = true) ∨ ((q.k == 1) = false ∧ (q.k == 5) = false ∧ (q.k == 6) = true) := by
            unfold isLk at hq
            rw [Bool.or_eq_true, Bool.or_eq_true] at hq
            cases h1 : (q.k == 1) with
            | true => exact .inl rfl
            | false =>
              cases h5 : (q.k == 5) with
              | true => exact .inr (.inl ⟨rfl, rfl⟩)
              | false =>
                rw [h1, h5] at hq
                rcases hq with (hq | hq) | hq
                · cases hq
                · cases hq
                · exact .inr (.inr ⟨rfl, rfl, hq⟩)
          clear hsL hsC hq ht
          rcases dk with d1 | ⟨d1, d5⟩ | ⟨d1, d5, d6⟩
          · go_wp2
            exact ⟨⟨k + 1, by omega, by go_num, by rw [HL1.out]; go_num, by rw [HC1.out], HX2.out⟩, by simp [intOf]; omega⟩
          · go_wp2
            exact ⟨⟨k + 1, by omega, by go_num, by rw [HL1.out]; go_num, by rw [HC1.out], HX2.out⟩, by simp [intOf]; omega⟩
          · go_wp2
            exact ⟨⟨k + 1, by omega, by go_num, by rw [HL1.out]; go_num, by rw [HC1.out], HX2.out⟩, by simp [intOf]; omega⟩
        · have HL1 : Hid (nL t (log.take (k + 1)) = x) := Lib.hid (by rw [hsL]; simp [hq])
          have HC1 : Hid (nC t (log.take (k + 1)) = z + 1) := Lib.hid (by rw [hsC]; simp [ht, hq])
          have dk : (q.k == 1) = false ∧ (q.k == 5) = false ∧ (q.k == 6) = false := by
            unfold isLk at hq
            cases h1 : (q.k == 1) <;> cases h5 : (q.k == 5) <;> cases h6 : (q.k == 6) <;> simp [h1, h5, h6] at hq ⊢
          obtain ⟨d1, d5, d6⟩ := dk
          have dt : (q.t == t) = true := by simpa using ht
          clear hsL hsC hq ht
          go_wp2
          exact ⟨⟨k + 1, by omega, by go_num, by rw [HL1.out], by rw [HC1.out]; go_num, HX2.out⟩, by simp [intOf]; omega⟩
      · have HL1 : Hid (nL t (log.take (k + 1)) = x) := Lib.hid (by rw [hsL]; simp [ht])
        have HC1 : Hid (nC t (log.take (k + 1)) = z) := Lib.hid (by rw [hsC]; simp [ht])
        have dt : (q.t == t) = false := by simpa using ht
        clear hsL hsC ht
        go_wp2
        exact ⟨⟨k + 1, by omega, by go_num, by rw [HL1.out], by rw [HC1.out], HX2.out⟩, by simp [intOf]; omega⟩
    · obtain rfl : k = N := by omega
      rw [show log.take k = log by rw [HN.out]; exact HT.out]
      have HX2 := Lib.hid hx
      clear hx
      go_wp2_with fail
      refine (CP.out _).mono ?_
      rintro e w' ⟨rfl, rfl⟩
      go_wp2
      go_ret
      exact ⟨rfl, HX2.out⟩
set_option maxRecDepth 100000 in
theorem Cost64 (b g : Nat) (y : LY) (f : Nat → Int) (lv : Value) (log : List Acc) (t : Int) (w : World) (hB : BD w 75 b g y f lv log) (hl : log.length ≤ 1000) :
    Calls Tryz.prog 28 #[.pointer (some ⟨b, 0, none⟩), .int .i64 t] w fun e w' => e = .returned (.complex .f64 (F (nL t log)) (F (nC t log))) ∧ Ext w w' := by
  obtain ⟨a, cap, e, -⟩ := rowA_form hB.row
  subst e
  have q15 := hB.q15
  have HROW := Lib.hid hB.row
  clear hB
  have h1 := nL_le t log
  have h2 := nC_le t log
  have CP := Lib.hid (fun w => of_yes (nL t log) (nC t log) w (by omega) (by omega) (by omega) (by omega))
  have HT : Hid (log.take log.length = log) := Lib.hid (List.take_length)
  obtain ⟨N, hN⟩ : ∃ N, N = log.length := ⟨_, rfl⟩
  have HN := Lib.hid hN
  rw [← hN] at q15 hl h1 h2
  clear hN
  go_enter Tryz.func28, Tryz.ntmps28
  go_wp2
  go_loopw [5, 6, 16] (fun u v i wr => ∃ k : Nat, k ≤ N ∧ i = .int .i64 k ∧ u = .int .i64 (nL t (log.take k)) ∧ v = .int .i64 (nC t (log.take k)) ∧ Ext w wr) (fun _ _ i _ => N - (intOf i).toNat)
  case atStart => exact ⟨0, Nat.zero_le _, rfl, by simp [nL], by simp [nC], Ext.refl _⟩
  case round =>
    obtain ⟨k, hk, rfl, rfl, rfl, hx⟩ := hrel
    by_cases hlt : k < N
    · have hkN : (k : Int) < (N : Int) := by omega
      have hkl : k < log.length := by have := HN.out; omega
      obtain ⟨gl, ea, r0, r1, r2, r3, r4⟩ := rowA_cell HROW.out hkl
      subst ea
      replace r0 := hx.cell r0
      replace r1 := hx.cell r1
      replace r2 := hx.cell r2
      replace r3 := hx.cell r3
      replace r4 := hx.cell r4
      have hsL := nL_snoc t (log.take k) log[k]
      have hsC := nC_snoc t (log.take k) log[k]
      rw [← take_snoc hkl] at hsL hsC
      have bL := nL_le t (log.take k)
      have bC := nC_le t (log.take k)
      have bk : (log.take k).length ≤ k := by rw [List.length_take]; omega
      have HX2 := Lib.hid (hx.alloc (.cells #[.int .i64 log[k].t, .int .i64 log[k].k, .int .i64 log[k].c, .int .u64 log[k].o, .int .u64 log[k].n] 91))
      generalize nL t (log.take k) = x at *
      generalize nC t (log.take k) = z at *
      generalize log[k] = q at *
      clear hx hkl
      by_cases ht : q.t = t
      · by_cases hq : isLk q.k = true
        · have HL1 : Hid (nL t (log.take (k + 1)) = x + 1) := Lib.hid (by rw [hsL]; simp [ht, hq])
          have HC1 : Hid (nC t (log.take (k + 1)) = z) := Lib.hid (by rw [hsC]; simp [ht, hq])
          have dt : (q.t == t) = true := by simpa using ht
          have dk : ((q.k == 1) = true) ∨ ((q.k == 1) = false ∧ (q.k == 5) = true) ∨ ((q.k == 1) = false ∧ (q.k == 5) = false ∧ (q.k == 6) = true) := by
            unfold isLk at hq
            rw [Bool.or_eq_true, Bool.or_eq_true] at hq
            cases h1 : (q.k == 1) with
            | true => exact .inl rfl
            | false =>
              cases h5 : (q.k == 5) with
              | true => exact .inr (.inl ⟨rfl, rfl⟩)
              | false =>
                rw [h1, h5] at hq
                rcases hq with (hq | hq) | hq
                · cases hq
                · cases hq
                · exact .inr (.inr ⟨rfl, rfl, hq⟩)
          clear hsL hsC hq ht
          rcases dk with d1 | ⟨d1, d5⟩ | ⟨d1, d5, d6⟩
          · go_wp2
            exact ⟨⟨k + 1, by omega, by go_num, by rw [HL1.out]; go_num, by rw [HC1.out], HX2.out⟩, by simp [intOf]; omega⟩
          · go_wp2
            exact ⟨⟨k + 1, by omega, by go_num, by rw [HL1.out]; go_num, by rw [HC1.out], HX2.out⟩, by simp [intOf]; omega⟩
          · go_wp2
            exact ⟨⟨k + 1, by omega, by go_num, by rw [HL1.out]; go_num, by rw [HC1.out], HX2.out⟩, by simp [intOf]; omega⟩
        · have HL1 : Hid (nL t (log.take (k + 1)) = x) := Lib.hid (by rw [hsL]; simp [hq])
          have HC1 : Hid (nC t (log.take (k + 1)) = z + 1) := Lib.hid (by rw [hsC]; simp [ht, hq])
          have dk : (q.k == 1) = false ∧ (q.k == 5) = false ∧ (q.k == 6) = false := by
            unfold isLk at hq
            cases h1 : (q.k == 1) <;> cases h5 : (q.k == 5) <;> cases h6 : (q.k == 6) <;> simp [h1, h5, h6] at hq ⊢
          obtain ⟨d1, d5, d6⟩ := dk
          have dt : (q.t == t) = true := by simpa using ht
          clear hsL hsC hq ht
          go_wp2
          exact ⟨⟨k + 1, by omega, by go_num, by rw [HL1.out], by rw [HC1.out]; go_num, HX2.out⟩, by simp [intOf]; omega⟩
      · have HL1 : Hid (nL t (log.take (k + 1)) = x) := Lib.hid (by rw [hsL]; simp [ht])
        have HC1 : Hid (nC t (log.take (k + 1)) = z) := Lib.hid (by rw [hsC]; simp [ht])
        have dt : (q.t == t) = false := by simpa using ht
        clear hsL hsC ht
        go_wp2
        exact ⟨⟨k + 1, by omega, by go_num, by rw [HL1.out], by rw [HC1.out], HX2.out⟩, by simp [intOf]; omega⟩
    · obtain rfl : k = N := by omega
      rw [show log.take k = log by rw [HN.out]; exact HT.out]
      have HX2 := Lib.hid hx
      clear hx
      go_wp2_with fail
      refine (CP.out _).mono ?_
      rintro e w' ⟨rfl, rfl⟩
      go_wp2
      go_ret
      exact ⟨rfl, HX2.out⟩
end Go.Proofs.YtaimmpcijdpgdabGreatDoor

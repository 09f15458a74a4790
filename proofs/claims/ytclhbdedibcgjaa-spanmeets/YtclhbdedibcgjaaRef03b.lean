/- The document's answers of layer 3: Meets. -/
import Derived.Test.YtclhbdedibcgjaaRef03
import Derived.Test.YtclhbdedibcgjaaSpanMeets
namespace Go.Proofs.Ytclhbdedibcgjaa
open Go.RowKit
set_option linter.unusedVariables false
set_option maxHeartbeats 1000000
attribute [local go_sem] later_cell later_frozen later_const
theorem meets_hit32 (f g : Int) (n m k : Nat) (hn : n ≤ 1000) (hm : m ≤ 1000) (hk : k < n) (h : 0 ≤ placeOf ((((f + (k : Int)) % 4294967296) - g) % 4294967296) m) : meetsB ((g - f) % 4294967296) ((f - g) % 4294967296) n m = true := by
  unfold placeOf at h
  unfold meetsB inN
  split at h
  · rename_i h1
    try unfold U64 at *
    simp
    omega
  · omega
theorem meets_none32 (f g : Int) (n m : Nat) (hn : n ≤ 1000) (hm : m ≤ 1000) (h : ∀ k, k < n → placeOf ((((f + (k : Int)) % 4294967296) - g) % 4294967296) m < 0) : meetsB ((g - f) % 4294967296) ((f - g) % 4294967296) n m = false := by
  have key : ∀ k, k < n → ¬ ((((f + (k : Int)) % 4294967296) - g) % 4294967296) < m := by
    intro k hk hlt
    have := h k hk
    unfold placeOf at this
    rw [if_pos hlt] at this
    try unfold U64 at *
    omega
  cases hb : meetsB ((g - f) % 4294967296) ((f - g) % 4294967296) n m with
  | false => rfl
  | true =>
    exfalso
    unfold meetsB inN at hb
    simp at hb
    obtain ⟨⟨hn0, hm0⟩, hb⟩ := hb
    rcases hb with hb | hb
    · have h0 : 0 ≤ ((g - f) % 4294967296) := by
        try unfold U64
        omega
      refine key ((g - f) % 4294967296).toNat (by omega) ?_
      rw [Int.toNat_of_nonneg h0]
      try unfold U64 at *
      omega
    · refine key 0 (by omega) ?_
      try unfold U64 at *
      omega
set_option maxRecDepth 100000 in
theorem rMeets32 (f g : Int) (n m : Nat) (w : World) (hn : n ≤ 1000) (hm : m ≤ 1000) : Calls Try.prog 26 #[.agg #[.int .i64 32, .int .u64 f, .int .i64 n], .agg #[.int .i64 32, .int .u64 g, .int .i64 m]] w fun e w' => e = .returned (.bool (meetsB ((g - f) % 4294967296) ((f - g) % 4294967296) n m)) ∧ Ext w w' := by
  have HH := Lib.hid (fun k => meets_hit32 f g n m k hn hm)
  have HN := Lib.hid (meets_none32 f g n m hn hm)
  go_enter Try.func26, Try.ntmps26
  go_wp2_with fail
  refine (rList32 _ _ _ hn).mono ?_
  rintro e w1 ⟨v, rfl, hI, hb1⟩
  have E1 : Ext w w1 := by repeat (first | with_reducible exact Ext.refl _ | with_reducible assumption | with_reducible refine Ext.alloc ?_ _ | with_reducible refine Ext.drew ?_ | with_reducible refine Ext.drewN ?_ _ | with_reducible refine Ext.setCell ?_ (by simp <;> omega) _ | with_reducible refine Ext.trans ?_ (by assumption))
  have q0 : w1.cell? ⟨w.heap.size + 1, 0, none⟩ = some (.int .i64 32) := (hb1.cells.1 _ _ (by simp)).trans (by simp [go_sem])
  have q1 : w1.cell? ⟨w.heap.size + 1, 1, none⟩ = some (.int .u64 g) := (hb1.cells.1 _ _ (by simp)).trans (by simp [go_sem])
  have q2 : w1.cell? ⟨w.heap.size + 1, 2, none⟩ = some (.int .i64 m) := (hb1.cells.1 _ _ (by simp)).trans (by simp [go_sem])
  clear hb1
  rcases hI with ⟨hv, hnil⟩ | ⟨b, off, cap, hv, hc⟩
  · rw [hv]
    have h0 : n = 0 := by have := pos32_len f n; rw [hnil] at this; simpa using this.symm
    clear hv hnil
    have H0 := Lib.hid (HN.out (fun k hk => by omega))
    clear h0
    go_wp2
    refine wp_loop_rounds 1 ?_
    rw [rounds_succ]
    go_wp2
    go_ret
    exact ⟨ret_bool H0.out.symm, E1⟩
  · rw [hv, pos32_len]
    have HC : Hid (∀ j, j < n → w1.cell? ⟨b, off + j, none⟩ = some (.int .u64 ((f + (j : Int)) % 4294967296))) := Lib.hid (fun j hj => by rw [hc j (by rw [pos32_len]; exact hj), pos32_get f n j hj])
    clear hv hc
    go_wp2
    go_loopw [6] (fun i wr => ∃ k : Nat, k ≤ n ∧ i = .int .i64 k ∧ Ext w1 wr ∧ Hid (∀ j, j < k → placeOf ((((f + (j : Int)) % 4294967296) - g) % 4294967296) m < 0)) (fun i _ => n - (intOf i).toNat)
    case atStart => exact ⟨0, Nat.zero_le _, rfl, Ext.refl _, Lib.hid (fun j hj => by omega)⟩
    case round =>
      obtain ⟨k, hk, rfl, hx, hall⟩ := hrel
      by_cases hlt : k < n
      · have ql_0 := hx.cell (HC.out k hlt)
        have qb_0 := hx.cell q0
        have qb_1 := hx.cell q1
        have qb_2 := hx.cell q2
        have hkn : (k : Int) < (n : Int) := by omega
        have hkn0 : (0 : Int) ≤ (k : Int) := by omega
        have hp0 : 0 ≤ ((f + (k : Int)) % 4294967296) := by
          first | omega | exact (U64_range _).1
        have hp1 : ((f + (k : Int)) % 4294967296) < 4294967296 := by
          first | omega | exact (U64_range _).2
        have hpc := fun w => rPlace32 g ((f + (k : Int)) % 4294967296) m w hm hp0 hp1
        have HHk := Lib.hid (HH.out k hlt)
        have HALLk : Hid (placeOf ((((f + (k : Int)) % 4294967296) - g) % 4294967296) m < 0 → ∀ j, j < k + 1 → placeOf ((((f + (j : Int)) % 4294967296) - g) % 4294967296) m < 0) := Lib.hid (fun he j hj => by
          by_cases h : j < k
          · exact hall.out j h
          · rw [show j = k by omega]; exact he)
        clear hall
        generalize placeOf ((((f + (k : Int)) % 4294967296) - g) % 4294967296) m = pl at *
        have HPC := Lib.hid hpc
        clear hpc
        by_cases he : 0 ≤ pl
        · have d : decide (0 ≤ pl) = true := by simpa using he
          go_wp2
          refine wp_region_later (by kernel_rfl) (by kernel_rfl) ?_
          have ll_0 := fun (g : Later wr) => g.ok.cell ql_0
          have lb_0 := fun (g : Later wr) => g.ok.cell qb_0
          have lb_1 := fun (g : Later wr) => g.ok.cell qb_1
          have lb_2 := fun (g : Later wr) => g.ok.cell qb_2
          repeat (go_big_quiet_step ((fail)))
          go_big_quiet_step ((go_at_call 16; exact laterC (HPC.out _)))
          repeat (go_big_quiet_step ((fail)))
          refine wpQuiet_nil ?_
          intro w1 hl1
          have hb1 := laters_ext hl1
          clear hl1 ll_0 lb_0 lb_1 lb_2
          have hx1 : Ext wr w1 := by repeat (first | with_reducible exact Ext.refl _ | with_reducible assumption | with_reducible refine Ext.alloc ?_ _ | with_reducible refine Ext.drew ?_ | with_reducible refine Ext.drewN ?_ _ | with_reducible refine Ext.setCell ?_ (by simp <;> omega) _ | with_reducible refine Ext.trans ?_ (by assumption))
          replace ql_0 := hx1.cell ql_0
          replace qb_0 := hx1.cell qb_0
          replace qb_1 := hx1.cell qb_1
          replace qb_2 := hx1.cell qb_2
          clear hx1
          go_wp2
          go_ret
          exact ⟨ret_bool (HHk.out he).symm, (E1.trans hx).trans (by repeat (first | with_reducible exact Ext.refl _ | with_reducible assumption | with_reducible refine Ext.alloc ?_ _ | with_reducible refine Ext.drew ?_ | with_reducible refine Ext.drewN ?_ _ | with_reducible refine Ext.setCell ?_ (by simp <;> omega) _ | with_reducible refine Ext.trans ?_ (by assumption)))⟩
        · have d : decide (0 ≤ pl) = false := by simpa using he
          go_wp2
          refine wp_region_later (by kernel_rfl) (by kernel_rfl) ?_
          have ll_0 := fun (g : Later wr) => g.ok.cell ql_0
          have lb_0 := fun (g : Later wr) => g.ok.cell qb_0
          have lb_1 := fun (g : Later wr) => g.ok.cell qb_1
          have lb_2 := fun (g : Later wr) => g.ok.cell qb_2
          repeat (go_big_quiet_step ((fail)))
          go_big_quiet_step ((go_at_call 16; exact laterC (HPC.out _)))
          repeat (go_big_quiet_step ((fail)))
          refine wpQuiet_nil ?_
          intro w2 hl2
          have hb2 := laters_ext hl2
          clear hl2 ll_0 lb_0 lb_1 lb_2
          have hx2 : Ext wr w2 := by repeat (first | with_reducible exact Ext.refl _ | with_reducible assumption | with_reducible refine Ext.alloc ?_ _ | with_reducible refine Ext.drew ?_ | with_reducible refine Ext.drewN ?_ _ | with_reducible refine Ext.setCell ?_ (by simp <;> omega) _ | with_reducible refine Ext.trans ?_ (by assumption))
          replace ql_0 := hx2.cell ql_0
          replace qb_0 := hx2.cell qb_0
          replace qb_1 := hx2.cell qb_1
          replace qb_2 := hx2.cell qb_2
          clear hx2
          go_wp2
          exact ⟨⟨k + 1, by omega, by go_num, hx.trans (by repeat (first | with_reducible exact Ext.refl _ | with_reducible assumption | with_reducible refine Ext.alloc ?_ _ | with_reducible refine Ext.drew ?_ | with_reducible refine Ext.drewN ?_ _ | with_reducible refine Ext.setCell ?_ (by simp <;> omega) _ | with_reducible refine Ext.trans ?_ (by assumption))), Lib.hid (HALLk.out (by omega))⟩, by simp [intOf]; omega⟩
      · obtain rfl : k = n := by omega
        have HE := Lib.hid (HN.out hall.out)
        clear hall
        go_wp2
        go_ret
        exact ⟨ret_bool HE.out.symm, E1.trans hx⟩
theorem meets_hit64 (f g : Int) (n m k : Nat) (hn : n ≤ 1000) (hm : m ≤ 1000) (hk : k < n) (h : 0 ≤ placeOf (U64 ((U64 (f + (k : Int))) - g)) m) : meetsB (U64 (g - f)) (U64 (f - g)) n m = true := by
  unfold placeOf at h
  unfold meetsB inN
  split at h
  · rename_i h1
    try unfold U64 at *
    simp
    omega
  · omega
theorem meets_none64 (f g : Int) (n m : Nat) (hn : n ≤ 1000) (hm : m ≤ 1000) (h : ∀ k, k < n → placeOf (U64 ((U64 (f + (k : Int))) - g)) m < 0) : meetsB (U64 (g - f)) (U64 (f - g)) n m = false := by
  have key : ∀ k, k < n → ¬ (U64 ((U64 (f + (k : Int))) - g)) < m := by
    intro k hk hlt
    have := h k hk
    unfold placeOf at this
    rw [if_pos hlt] at this
    try unfold U64 at *
    omega
  cases hb : meetsB (U64 (g - f)) (U64 (f - g)) n m with
  | false => rfl
  | true =>
    exfalso
    unfold meetsB inN at hb
    simp at hb
    obtain ⟨⟨hn0, hm0⟩, hb⟩ := hb
    rcases hb with hb | hb
    · have h0 : 0 ≤ (U64 (g - f)) := by
        try unfold U64
        omega
      refine key (U64 (g - f)).toNat (by omega) ?_
      rw [Int.toNat_of_nonneg h0]
      try unfold U64 at *
      omega
    · refine key 0 (by omega) ?_
      try unfold U64 at *
      omega
set_option maxRecDepth 100000 in
theorem rMeets64 (f g : Int) (n m : Nat) (w : World) (hn : n ≤ 1000) (hm : m ≤ 1000) : Calls Try.prog 26 #[.agg #[.int .i64 64, .int .u64 f, .int .i64 n], .agg #[.int .i64 64, .int .u64 g, .int .i64 m]] w fun e w' => e = .returned (.bool (meetsB (U64 (g - f)) (U64 (f - g)) n m)) ∧ Ext w w' := by
  have HH := Lib.hid (fun k => meets_hit64 f g n m k hn hm)
  have HN := Lib.hid (meets_none64 f g n m hn hm)
  go_enter Try.func26, Try.ntmps26
  go_wp2_with fail
  refine (rList64 _ _ _ hn).mono ?_
  rintro e w1 ⟨v, rfl, hI, hb1⟩
  have E1 : Ext w w1 := by repeat (first | with_reducible exact Ext.refl _ | with_reducible assumption | with_reducible refine Ext.alloc ?_ _ | with_reducible refine Ext.drew ?_ | with_reducible refine Ext.drewN ?_ _ | with_reducible refine Ext.setCell ?_ (by simp <;> omega) _ | with_reducible refine Ext.trans ?_ (by assumption))
  have q0 : w1.cell? ⟨w.heap.size + 1, 0, none⟩ = some (.int .i64 64) := (hb1.cells.1 _ _ (by simp)).trans (by simp [go_sem])
  have q1 : w1.cell? ⟨w.heap.size + 1, 1, none⟩ = some (.int .u64 g) := (hb1.cells.1 _ _ (by simp)).trans (by simp [go_sem])
  have q2 : w1.cell? ⟨w.heap.size + 1, 2, none⟩ = some (.int .i64 m) := (hb1.cells.1 _ _ (by simp)).trans (by simp [go_sem])
  clear hb1
  rcases hI with ⟨hv, hnil⟩ | ⟨b, off, cap, hv, hc⟩
  · rw [hv]
    have h0 : n = 0 := by have := pos64_len f n; rw [hnil] at this; simpa using this.symm
    clear hv hnil
    have H0 := Lib.hid (HN.out (fun k hk => by omega))
    clear h0
    go_wp2
    refine wp_loop_rounds 1 ?_
    rw [rounds_succ]
    go_wp2
    go_ret
    exact ⟨ret_bool H0.out.symm, E1⟩
  · rw [hv, pos64_len]
    have HC : Hid (∀ j, j < n → w1.cell? ⟨b, off + j, none⟩ = some (.int .u64 (U64 (f + (j : Int))))) := Lib.hid (fun j hj => by rw [hc j (by rw [pos64_len]; exact hj), pos64_get f n j hj])
    clear hv hc
    go_wp2
    go_loopw [6] (fun i wr => ∃ k : Nat, k ≤ n ∧ i = .int .i64 k ∧ Ext w1 wr ∧ Hid (∀ j, j < k → placeOf (U64 ((U64 (f + (j : Int))) - g)) m < 0)) (fun i _ => n - (intOf i).toNat)
    case atStart => exact ⟨0, Nat.zero_le _, rfl, Ext.refl _, Lib.hid (fun j hj => by omega)⟩
    case round =>
      obtain ⟨k, hk, rfl, hx, hall⟩ := hrel
      by_cases hlt : k < n
      · have ql_0 := hx.cell (HC.out k hlt)
        have qb_0 := hx.cell q0
        have qb_1 := hx.cell q1
        have qb_2 := hx.cell q2
        have hkn : (k : Int) < (n : Int) := by omega
        have hkn0 : (0 : Int) ≤ (k : Int) := by omega
        have hp0 : 0 ≤ (U64 (f + (k : Int))) := by
          first | omega | exact (U64_range _).1
        have hp1 : (U64 (f + (k : Int))) < 18446744073709551616 := by
          first | omega | exact (U64_range _).2
        have hpc := fun w => rPlace64 g (U64 (f + (k : Int))) m w hm hp0 hp1
        have HHk := Lib.hid (HH.out k hlt)
        have HALLk : Hid (placeOf (U64 ((U64 (f + (k : Int))) - g)) m < 0 → ∀ j, j < k + 1 → placeOf (U64 ((U64 (f + (j : Int))) - g)) m < 0) := Lib.hid (fun he j hj => by
          by_cases h : j < k
          · exact hall.out j h
          · rw [show j = k by omega]; exact he)
        clear hall
        generalize placeOf (U64 ((U64 (f + (k : Int))) - g)) m = pl at *
        have HPC := Lib.hid hpc
        clear hpc
        by_cases he : 0 ≤ pl
        · have d : decide (0 ≤ pl) = true := by simpa using he
          go_wp2
          refine wp_region_later (by kernel_rfl) (by kernel_rfl) ?_
          have ll_0 := fun (g : Later wr) => g.ok.cell ql_0
          have lb_0 := fun (g : Later wr) => g.ok.cell qb_0
          have lb_1 := fun (g : Later wr) => g.ok.cell qb_1
          have lb_2 := fun (g : Later wr) => g.ok.cell qb_2
          repeat (go_big_quiet_step ((fail)))
          go_big_quiet_step ((go_at_call 16; exact laterC (HPC.out _)))
          repeat (go_big_quiet_step ((fail)))
          refine wpQuiet_nil ?_
          intro w1 hl1
          have hb1 := laters_ext hl1
          clear hl1 ll_0 lb_0 lb_1 lb_2
          have hx1 : Ext wr w1 := by repeat (first | with_reducible exact Ext.refl _ | with_reducible assumption | with_reducible refine Ext.alloc ?_ _ | with_reducible refine Ext.drew ?_ | with_reducible refine Ext.drewN ?_ _ | with_reducible refine Ext.setCell ?_ (by simp <;> omega) _ | with_reducible refine Ext.trans ?_ (by assumption))
          replace ql_0 := hx1.cell ql_0
          replace qb_0 := hx1.cell qb_0
          replace qb_1 := hx1.cell qb_1
          replace qb_2 := hx1.cell qb_2
          clear hx1
          go_wp2
          go_ret
          exact ⟨ret_bool (HHk.out he).symm, (E1.trans hx).trans (by repeat (first | with_reducible exact Ext.refl _ | with_reducible assumption | with_reducible refine Ext.alloc ?_ _ | with_reducible refine Ext.drew ?_ | with_reducible refine Ext.drewN ?_ _ | with_reducible refine Ext.setCell ?_ (by simp <;> omega) _ | with_reducible refine Ext.trans ?_ (by assumption)))⟩
        · have d : decide (0 ≤ pl) = false := by simpa using he
          go_wp2
          refine wp_region_later (by kernel_rfl) (by kernel_rfl) ?_
          have ll_0 := fun (g : Later wr) => g.ok.cell ql_0
          have lb_0 := fun (g : Later wr) => g.ok.cell qb_0
          have lb_1 := fun (g : Later wr) => g.ok.cell qb_1
          have lb_2 := fun (g : Later wr) => g.ok.cell qb_2
          repeat (go_big_quiet_step ((fail)))
          go_big_quiet_step ((go_at_call 16; exact laterC (HPC.out _)))
          repeat (go_big_quiet_step ((fail)))
          refine wpQuiet_nil ?_
          intro w2 hl2
          have hb2 := laters_ext hl2
          clear hl2 ll_0 lb_0 lb_1 lb_2
          have hx2 : Ext wr w2 := by repeat (first | with_reducible exact Ext.refl _ | with_reducible assumption | with_reducible refine Ext.alloc ?_ _ | with_reducible refine Ext.drew ?_ | with_reducible refine Ext.drewN ?_ _ | with_reducible refine Ext.setCell ?_ (by simp <;> omega) _ | with_reducible refine Ext.trans ?_ (by assumption))
          replace ql_0 := hx2.cell ql_0
          replace qb_0 := hx2.cell qb_0
          replace qb_1 := hx2.cell qb_1
          replace qb_2 := hx2.cell qb_2
          clear hx2
          go_wp2
          exact ⟨⟨k + 1, by omega, by go_num, hx.trans (by repeat (first | with_reducible exact Ext.refl _ | with_reducible assumption | with_reducible refine Ext.alloc ?_ _ | with_reducible refine Ext.drew ?_ | with_reducible refine Ext.drewN ?_ _ | with_reducible refine Ext.setCell ?_ (by simp <;> omega) _ | with_reducible refine Ext.trans ?_ (by assumption))), Lib.hid (HALLk.out (by omega))⟩, by simp [intOf]; omega⟩
      · obtain rfl : k = n := by omega
        have HE := Lib.hid (HN.out hall.out)
        clear hall
        go_wp2
        go_ret
        exact ⟨ret_bool HE.out.symm, E1.trans hx⟩
end Go.Proofs.Ytclhbdedibcgjaa

/- The walk of LapTurns. -/
import Derived.Test.YtkilonccbnohnaaTurns
import Derived.Test.YtkilonccbnohnaaLaw02
import Derived.BigQuiet
import Derived.Deep.RegionWith
namespace Go.Proofs.Ytkilonccbnohnaa
open Go.RowKit
set_option linter.unusedVariables false
set_option maxHeartbeats 400000
/-- a callee that leaves the world as it was, met in a region that draws -/
theorem quietC {P : Program} {f : FuncId} {args : Array Value} {w : World} {n : Nat} {v : Value}
    (h : Calls P f args (w.drewN n) fun e w' => e = .returned v ∧ w.drewN n = w') : Calls P f args (w.drewN n) fun e w'' => e = .returned v ∧ ∃ m, w'' = w.drewN m :=
  h.mono fun _ _ ⟨he, hm⟩ => ⟨he, n, hm.symm⟩
/-- the world but for some draws -/
def Drawn (w w' : World) : Prop := ∃ q, w' = w.drewN q
theorem Drawn.refl (w : World) : Drawn w w := ⟨0, rfl⟩
theorem Drawn.more {w w' : World} (h : Drawn w w') (n : Nat) : Drawn w (w'.drewN n) := by
  obtain ⟨q, rfl⟩ := h
  exact ⟨q + n, by rw [World.drewN_drewN]⟩
theorem Drawn.cell {w w' : World} (h : Drawn w w') (a : Addr) : w'.cell? a = w.cell? a := by
  obtain ⟨q, rfl⟩ := h
  simp
theorem Drawn.below {w w' : World} (h : Drawn w w') (B : Nat) : Below B w w' := by
  obtain ⟨q, rfl⟩ := h
  exact below_drewN (Below.refl _ _) q
theorem turnsTo_mod (c p : Int) (n : Nat) (hc : rightB c = true) : turnsTo c (p % 4294967296) n n = turnsTo c p n n := by
  unfold turnsTo
  apply List.map_congr_left
  intro j _
  have e : (p % 4294967296 + (j : Int)) % c = (p + (j : Int)) % c := by
    rcases right_cases hc with rfl | rfl | rfl | rfl | rfl | rfl | rfl | rfl | rfl | rfl | rfl | rfl | rfl | rfl | rfl | rfl | rfl | rfl | rfl | rfl | rfl | rfl | rfl | rfl | rfl | rfl | rfl | rfl | rfl | rfl
    all_goals omega
  rw [e]
theorem turns_apart {c : Int} (hc : rightB c = true) (p : Int) (i k : Nat) (h : k < i) (hi : (i : Int) < c) : ((p + (k : Int)) % c == (p + (i : Int)) % c) = false := by
  rw [beq_eq_false_iff_ne]
  rcases right_cases hc with rfl | rfl | rfl | rfl | rfl | rfl | rfl | rfl | rfl | rfl | rfl | rfl | rfl | rfl | rfl | rfl | rfl | rfl | rfl | rfl | rfl | rfl | rfl | rfl | rfl | rfl | rfl | rfl | rfl | rfl
  all_goals omega
theorem lapTurns_in (c p : Int) (n : Nat) (w : World) (hc : rightB c = true) (hc2 : c ≤ 256) (hn : (n : Int) ≤ c) :
    Calls Try.prog 10 #[.int .i64 c, .int .i64 n, .int .u64 p] w fun e w' => e = .returned (.bool true) ∧ Below w.heap.size w w' := by
  have hr := right_range hc
  have d0 : decide (256 < c) = false := by simp; omega
  have d1 : decide ((n : Int) < 0) = false := by simp
  have d2 : decide (c < (n : Int)) = false := by simp; omega
  go_enter Try.func10, Try.ntmps10
  go_wp2_with fail
  refine (r2Right _ _).mono ?_
  rintro e w' ⟨rfl, rfl⟩
  go_wp2_with fail
  refine (ofU32 _ _).mono ?_
  rintro e w' ⟨rfl, rfl⟩
  go_wp2_with fail
  refine (turnsU32 _ _ _ _ hc hn).mono ?_
  rintro e w1 ⟨rfl, ho1, hb1⟩
  rw [turnsTo_mod c p n hc] at ho1
  go_wp2_with fail
  refine (turnsU64 _ _ _ _ hc hn).mono ?_
  rintro e w2 ⟨rfl, ho2, hb2⟩
  have hB : w.heap.size < w1.heap.size := by
    rcases ho1.2 with ⟨h, _⟩ | ⟨g, cap, cur, h, _, hg, _⟩
    · simp at h
    · simp at h; rw [← h.1] at hg; exact (Array.getElem?_eq_some_iff.1 hg).1
  have HL : Hid (∀ j, j < n → w2.cell? ⟨w.heap.size, j, none⟩ = some (.int .i64 ((p + (j : Int)) % c))) := Lib.hid (fun j hj => by
    have e := hb2.cell (p := ⟨w.heap.size, j, none⟩) hB
    rw [e, ho1.cellAt j (by omega), turnsTo_get c p n n j hj, if_pos hj])
  have HM : Hid (∀ j, j < n → w2.cell? ⟨w1.heap.size, j, none⟩ = some (.int .i64 ((p + (j : Int)) % c))) := Lib.hid (fun j hj => by
    rw [ho2.cellAt j (by omega), turnsTo_get c p n n j hj, if_pos hj])
  have HB := Lib.hid (hb1.trans (hb2.mono (Nat.le_of_lt hB)))
  clear ho1 ho2 hb1 hb2
  go_wp2
  go_loopw [9] (fun i wr => ∃ k : Nat, k ≤ n ∧ i = .int .i64 k ∧ Drawn w2 wr) (fun i _ => n - (intOf i).toNat)
  case atStart => exact ⟨0, Nat.zero_le _, rfl, Drawn.refl _⟩
  case round =>
    obtain ⟨k, hk, rfl, hd⟩ := hrel
    by_cases hlt : k < n
    · have c1 := (hd.cell _).trans (HL.out k hlt)
      have c2 := (hd.cell _).trans (HM.out k hlt)
      have hkn : (k : Int) < (n : Int) := by omega
      go_wp2_with fail
      refine wp_region_quiet_lit (by kernel_rfl) (by kernel_rfl) ?_
      repeat (go_big_quiet_step ((fail)))
      go_big_quiet_step ((go_at_call 21; exact quietC (rPlus_32 _ _ _)))
      repeat (go_big_quiet_step ((fail)))
      go_big_quiet_step ((go_at_call 49; exact quietC (r2Slot_m _ _ _ hc)))
      repeat (go_big_quiet_step ((fail)))
      go_big_quiet_step ((go_at_call 21; exact quietC (rPlus_64 _ _ _)))
      repeat (go_big_quiet_step ((fail)))
      go_big_quiet_step ((go_at_call 49; exact quietC (r2Slot_u _ _ _ hc)))
      repeat (go_big_quiet_step ((fail)))
      refine wpQuiet_nil ?_
      intro _ hw'
      obtain ⟨nq, hw''⟩ := hw'
      subst hw''
      have hd' := hd.more nq
      clear hd c1 c2
      generalize wr.drewN nq = wq at *
      go_wp2_with fail
      go_loopw [10] (fun i wr => ∃ j : Nat, j ≤ k ∧ i = .int .i64 j ∧ Drawn w2 wr) (fun i _ => k - (intOf i).toNat)
      case atStart => exact ⟨0, Nat.zero_le _, rfl, hd'⟩
      case round =>
        obtain ⟨j, hj, rfl, he⟩ := hrel
        by_cases hjk : j < k
        · have c1 := (he.cell _).trans (HL.out j (by omega))
          have c2 := (he.cell _).trans (HM.out j (by omega))
          have c3 := (he.cell _).trans (HL.out k (by omega))
          have c4 := (he.cell _).trans (HM.out k (by omega))
          have hjn : (j : Int) < (n : Int) := by omega
          have hne := turns_apart hc p k j hjk (by omega)
          go_wp2_with fail
          refine wp_region_quiet_lit (by kernel_rfl) (by kernel_rfl) ?_
          repeat (go_big_quiet_step ((fail)))
          refine wpQuiet_nil ?_
          intro _ hw'
          obtain ⟨nq, hw''⟩ := hw'
          subst hw''
          have he' := he.more nq
          clear he c1 c2 c3 c4
          go_wp2
          exact ⟨⟨j + 1, by omega, by go_num, he'⟩, by simp [intOf]; omega⟩
        · obtain rfl : j = k := by omega
          go_wp2
          exact ⟨⟨j + 1, by omega, by go_num, he⟩, by simp [intOf]; omega⟩
    · obtain rfl : k = n := by omega
      have HB' := Lib.hid (HB.out.trans (hd.below _))
      go_wp2_with fail
      refine (live02 _).mono ?_
      rintro e w' ⟨rfl, rfl⟩
      go_wp2
      go_ret
      exact ⟨rfl, HB'.out⟩
theorem lapTurns_out (c n p : Int) (w : World) (hc : rightB c = true) (hc2 : c ≤ 256) (hn : n < 0 ∨ c < n) :
    Calls Try.prog 10 #[.int .i64 c, .int .i64 n, .int .u64 p] w fun e w' => e = .returned (.bool true) ∧ Below w.heap.size w w' := by
  have hr := right_range hc
  have d0 : decide (256 < c) = false := by simp; omega
  go_enter Try.func10, Try.ntmps10
  go_wp2_with fail
  refine (r2Right _ _).mono ?_
  rintro e w' ⟨rfl, rfl⟩
  go_wp2_with fail
  refine (ofU32 _ _).mono ?_
  rintro e w' ⟨rfl, rfl⟩
  go_wp2_with fail
  refine (turnsU32_out _ _ _ _ hc hn).mono ?_
  rintro e w' ⟨rfl, rfl⟩
  go_wp2_with fail
  refine (turnsU64_out _ _ _ _ hc hn).mono ?_
  rintro e w' ⟨rfl, rfl⟩
  by_cases h0 : n < 0
  · have d1 : decide (n < 0) = true := by simp; omega
    go_wp2_with fail
    refine (live02 _).mono ?_
    rintro e w' ⟨rfl, rfl⟩
    go_wp2
    go_ret
    exact ⟨rfl, Below.refl _ _⟩
  · have d1 : decide (n < 0) = false := by simp; omega
    have d2 : decide (c < n) = true := by simp; omega
    go_wp2_with fail
    refine (live02 _).mono ?_
    rintro e w' ⟨rfl, rfl⟩
    go_wp2
    go_ret
    exact ⟨rfl, Below.refl _ _⟩
theorem lapTurns_walk (c n p : Int) (w : World) (w0 : (Lit.int .i64 c).wf = true) (w1 : (Lit.int .i64 n).wf = true) (w2 : (Lit.int .u64 p).wf = true) :
    Calls Try.prog 10 #[.int .i64 c, .int .i64 n, .int .u64 p] w fun e w' => e = .returned (.bool true) ∧ Below w.heap.size w w' := by
  clear w0 w1 w2
  cases hc : rightB c
  · go_enter Try.func10, Try.ntmps10
    go_wp2_with fail
    refine (r2Right _ _).mono ?_
    rintro e w' ⟨rfl, rfl⟩
    go_wp2_with fail
    refine (live02 _).mono ?_
    rintro e w' ⟨rfl, rfl⟩
    go_wp2
    go_ret
    exact ⟨rfl, Below.refl _ _⟩
  · by_cases h2 : c ≤ 256
    · by_cases hn : n < 0 ∨ c < n
      · exact lapTurns_out c n p w hc h2 hn
      · obtain ⟨m, rfl⟩ := Int.eq_ofNat_of_zero_le (show 0 ≤ n by omega)
        exact lapTurns_in c p m w hc h2 (by omega)
    · have d0 : decide (256 < c) = true := by simp; omega
      go_enter Try.func10, Try.ntmps10
      go_wp2_with fail
      refine (r2Right _ _).mono ?_
      rintro e w' ⟨rfl, rfl⟩
      go_wp2_with fail
      refine (live02 _).mono ?_
      rintro e w' ⟨rfl, rfl⟩
      go_wp2
      go_ret
      exact ⟨rfl, Below.refl _ _⟩
end Go.Proofs.Ytkilonccbnohnaa

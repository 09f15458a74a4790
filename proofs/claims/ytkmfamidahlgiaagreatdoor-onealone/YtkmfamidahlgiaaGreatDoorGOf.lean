/- group.Of. (Out of Grp3.t.) -/
import Derived.Test.YtkmfamidahlgiaaGreatDoorGrDfs
import Derived.Test.YtkmfamidahlgiaaGreatDoorGrp2
import Derived.Test.YtkmfamidahlgiaaGreatDoorInts
namespace Go.Proofs.YtkmfamidahlgiaaGreatDoor
open Go.RowKit
set_option linter.unusedVariables false
set_option maxHeartbeats 1000000
attribute [local go_sem] later_cell later_frozen later_const
theorem gRight' (i : Int) (w : World) : Calls Tryz.prog 177 #[.int .i64 i] w fun e w' => e = .returned (.bool (okI i)) ∧ w = w' := gRight i w
theorem gOf_yes (v : Value) (xs : List Int) (w : World) (h : IntsV w v xs) (hl : xs.length ≤ 1000000) (hok : ∀ i ∈ xs, okI i = true) :
    Calls Tryz.prog 170 #[v] w fun e w' => e = .returned (.tuple #[.int .u64 (gw xs : Nat), .int .i64 0]) ∧ w = w' := by
  rcases h with ⟨a, cap, rfl, rfl⟩ | ⟨b, off, cap, rfl, hc⟩
  · go_enter Tryz.func170, Tryz.ntmps170
    go_wp2
    refine wp_loop_rounds 1 ?_
    rw [rounds_succ]
    go_wp2
    go_ret2
    exact ⟨rfl, rfl⟩
  · have HC := Lib.hid hc
    have HOK := Lib.hid hok
    obtain ⟨n, hn⟩ : ∃ n, n = xs.length := ⟨_, rfl⟩
    rw [← hn]
    have HN := Lib.hid hn
    have hl2 : n ≤ 1000000 := by omega
    clear hn hl hc hok
    go_enter Tryz.func170, Tryz.ntmps170
    go_wp2
    go_loop [4, 9] (fun g i => ∃ k : Nat, k ≤ n ∧ i = .int .i64 k ∧ g = .int .u64 (gw (xs.take k) : Nat)) (fun _ i => n - (intOf i).toNat)
    case atStart => exact ⟨0, Nat.zero_le _, rfl, rfl⟩
    case round =>
      obtain ⟨k, hk, rfl, rfl⟩ := hrel
      by_cases hlt : k < n
      · have hx : k < xs.length := by have := HN.out; omega
        have hcell := HC.out k hx
        have hin := HOK.out (xs.getD k 0) (by simp [hx])
        have hg := gw_lt (xs.take k) fun i hi => HOK.out i (List.mem_of_mem_take hi)
        have S := gw_snoc xs k hx
        obtain ⟨m, hm⟩ := Int.eq_ofNat_of_zero_le ((okI_iff _).1 hin).1
        rw [hm] at hcell hin S
        have hm64 : m < 64 := by have := ((okI_iff _).1 hin).2; omega
        rw [Int.toNat_natCast] at S
        have HS := Lib.hid S
        clear S hm hx
        have hkn : (k : Int) < (n : Int) := by omega
        generalize gw (xs.take k) = g at *
        go_wp2_with fail
        refine (gRight' _ _).mono ?_
        rw [show okI (m : Int) = true from hin]
        rintro e w' ⟨rfl, rfl⟩
        go_wp2_with fail
        refine (gWith _ _ _ hg hm64).mono ?_
        rintro e w' ⟨rfl, rfl⟩
        go_wp2
        exact ⟨⟨k + 1, by omega, by go_num, by rw [HS.out]⟩, by simp [intOf]; omega⟩
      · have e : xs.take k = xs := List.take_of_length_le (by have := HN.out; omega)
        rw [e]
        clear e
        go_wp2
        go_ret2
        exact ⟨rfl, rfl⟩
theorem gOf_no (v : Value) (xs : List Int) (w : World) (h : IntsV w v xs) (hl : xs.length ≤ 1000000) (hok : ¬ ∀ i ∈ xs, okI i = true) :
    Calls Tryz.prog 170 #[v] w fun e w' => e = .returned (.tuple #[.int .u64 0, .int .i64 1]) ∧ w = w' := by
  rcases h with ⟨a, cap, rfl, rfl⟩ | ⟨b, off, cap, rfl, hc⟩
  · exact absurd (fun i hi => by cases hi) hok
  · have HC := Lib.hid hc
    have HOK := Lib.hid hok
    obtain ⟨n, hn⟩ : ∃ n, n = xs.length := ⟨_, rfl⟩
    rw [← hn]
    have HN := Lib.hid hn
    have hl2 : n ≤ 1000000 := by omega
    clear hn hl hc hok
    go_enter Tryz.func170, Tryz.ntmps170
    go_wp2
    go_loop [4, 9] (fun g i => ∃ k : Nat, k ≤ n ∧ i = .int .i64 k ∧ g = .int .u64 (gw (xs.take k) : Nat) ∧ Hid (∀ i ∈ xs.take k, okI i = true)) (fun _ i => n - (intOf i).toNat)
    case atStart => exact ⟨0, Nat.zero_le _, rfl, rfl, Lib.hid fun i hi => by simp at hi⟩
    case round =>
      obtain ⟨k, hk, rfl, rfl, HA⟩ := hrel
      by_cases hlt : k < n
      · have hx : k < xs.length := by have := HN.out; omega
        have hcell := HC.out k hx
        have hkn : (k : Int) < (n : Int) := by omega
        cases hin : okI (xs.getD k 0)
        · clear HA
          generalize xs.getD k 0 = z at *
          go_wp2_with fail
          refine (gRight' _ _).mono ?_
          rw [hin]
          rintro e w' ⟨rfl, rfl⟩
          go_wp2
          go_ret2
          exact ⟨rfl, rfl⟩
        · have hg := gw_lt (xs.take k) HA.out
          have S := gw_snoc xs k hx
          have HA2 : Hid (∀ i ∈ xs.take (k + 1), okI i = true) := Lib.hid (fun i hi => by
            rw [List.take_succ_eq_append_getElem hx] at hi
            rcases List.mem_append.1 hi with h | h
            · exact HA.out i h
            · simp at h; subst h; simpa [hx] using hin)
          obtain ⟨m, hm⟩ := Int.eq_ofNat_of_zero_le ((okI_iff _).1 hin).1
          rw [hm] at hcell hin S
          have hm64 : m < 64 := by have := ((okI_iff _).1 hin).2; omega
          rw [Int.toNat_natCast] at S
          have HS := Lib.hid S
          clear S hm hx HA
          generalize gw (xs.take k) = g at *
          go_wp2_with fail
          refine (gRight' _ _).mono ?_
          rw [show okI (m : Int) = true from hin]
          rintro e w' ⟨rfl, rfl⟩
          go_wp2_with fail
          refine (gWith _ _ _ hg hm64).mono ?_
          rintro e w' ⟨rfl, rfl⟩
          go_wp2
          exact ⟨⟨k + 1, by omega, by go_num, by rw [HS.out], HA2⟩, by simp [intOf]; omega⟩
      · exfalso
        apply HOK.out
        have e : xs.take k = xs := List.take_of_length_le (by have := HN.out; omega)
        have := HA.out
        rwa [e] at this
end Go.Proofs.YtkmfamidahlgiaaGreatDoor

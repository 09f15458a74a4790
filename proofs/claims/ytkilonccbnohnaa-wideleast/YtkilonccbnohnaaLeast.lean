/- wide.Least: the one behind which there is none. -/
import Derived.Test.YtkilonccbnohnaaWide
import Derived.Test.YtkilonccbnohnaaMem
import Derived.Lib.Hide
namespace Go.Proofs.Ytkilonccbnohnaa
open Go.RowKit
set_option linter.unusedVariables false
set_option maxHeartbeats 400000
def least32 (f : Int) (xs : List Int) : Int := xs.foldl (fun m x => if D32 (x - m) < 0 then x else m) f
def least64 (f : Int) (xs : List Int) : Int := xs.foldl (fun m x => if D64 (x - m) < 0 then x else m) f
theorem least32_snoc (f : Int) (xs : List Int) (k : Nat) (h : k < xs.length) : least32 f (xs.take (k + 1)) = if D32 (xs.getD k 0 - least32 f (xs.take k)) < 0 then xs.getD k 0 else least32 f (xs.take k) := by
  unfold least32
  rw [List.take_succ_eq_append_getElem h, List.foldl_append]
  simp [h]
theorem least64_snoc (f : Int) (xs : List Int) (k : Nat) (h : k < xs.length) : least64 f (xs.take (k + 1)) = if D64 (xs.getD k 0 - least64 f (xs.take k)) < 0 then xs.getD k 0 else least64 f (xs.take k) := by
  unfold least64
  rw [List.take_succ_eq_append_getElem h, List.foldl_append]
  simp [h]
theorem leastU32 (f : Int) (v : Value) (xs : List Int) (w : World) (h : IntsAt .u32 w v xs) (hl : xs.length ≤ 1000000) :
    Calls Try.prog 29 #[.int .u32 f, v] w fun e w' => e = .returned (.int .u32 (least32 f xs)) ∧ w = w' := by
  rcases h with ⟨rfl, rfl⟩ | ⟨b, off, cap, rfl, hc⟩
  · go_enter Try.func29, Try.ntmps29
    go_wp2
    refine wp_loop_rounds 1 ?_
    rw [rounds_succ]
    go_wp2
    go_ret
    exact ⟨rfl, rfl⟩
  · have HC := Lib.hid hc
    clear hc
    obtain ⟨n, hn⟩ : ∃ n, n = xs.length := ⟨_, rfl⟩
    rw [← hn]
    have HN := Lib.hid hn
    have hl2 : n ≤ 1000000 := by omega
    clear hn hl
    go_enter Try.func29, Try.ntmps29
    go_wp2
    go_loop [5, 11] (fun m i => ∃ k : Nat, k ≤ n ∧ i = .int .i64 k ∧ m = .int .u32 (least32 f (xs.take k))) (fun _ i => n - (intOf i).toNat)
    case atStart => exact ⟨0, Nat.zero_le _, rfl, rfl⟩
    case round =>
      obtain ⟨k, hk, rfl, rfl⟩ := hrel
      by_cases hlt : k < n
      · have hx : k < xs.length := by have := HN.out; omega
        have hcell := HC.out k hx
        have HS := Lib.hid (least32_snoc f xs k hx)
        clear hx
        have hkn : (k : Int) < (n : Int) := by omega
        generalize xs.getD k 0 = x at *
        generalize least32 f (xs.take k) = m at *
        go_wp2_with fail
        refine (lessU32 _ _ _).mono ?_
        rintro e w' ⟨rfl, rfl⟩
        by_cases hd : D32 (x - m) < 0
        · have d1 : decide (D32 (x - m) < 0) = true := by simpa using hd
          go_wp2
          exact ⟨⟨k + 1, by omega, by go_num, by rw [HS.out, if_pos hd]⟩, by simp [intOf]; omega⟩
        · have d1 : decide (D32 (x - m) < 0) = false := by simpa using hd
          go_wp2
          exact ⟨⟨k + 1, by omega, by go_num, by rw [HS.out, if_neg (by omega)]⟩, by simp [intOf]; omega⟩
      · have e : xs.take k = xs := List.take_of_length_le (by have := HN.out; omega)
        have HE := Lib.hid e
        clear e
        go_wp2
        go_ret
        exact ⟨ret_int (by rw [HE.out]), rfl⟩
theorem leastU64 (f : Int) (v : Value) (xs : List Int) (w : World) (h : IntsAt .u64 w v xs) (hl : xs.length ≤ 1000000) :
    Calls Try.prog 30 #[.int .u64 f, v] w fun e w' => e = .returned (.int .u64 (least64 f xs)) ∧ w = w' := by
  rcases h with ⟨rfl, rfl⟩ | ⟨b, off, cap, rfl, hc⟩
  · go_enter Try.func30, Try.ntmps30
    go_wp2
    refine wp_loop_rounds 1 ?_
    rw [rounds_succ]
    go_wp2
    go_ret
    exact ⟨rfl, rfl⟩
  · have HC := Lib.hid hc
    clear hc
    obtain ⟨n, hn⟩ : ∃ n, n = xs.length := ⟨_, rfl⟩
    rw [← hn]
    have HN := Lib.hid hn
    have hl2 : n ≤ 1000000 := by omega
    clear hn hl
    go_enter Try.func30, Try.ntmps30
    go_wp2
    go_loop [5, 11] (fun m i => ∃ k : Nat, k ≤ n ∧ i = .int .i64 k ∧ m = .int .u64 (least64 f (xs.take k))) (fun _ i => n - (intOf i).toNat)
    case atStart => exact ⟨0, Nat.zero_le _, rfl, rfl⟩
    case round =>
      obtain ⟨k, hk, rfl, rfl⟩ := hrel
      by_cases hlt : k < n
      · have hx : k < xs.length := by have := HN.out; omega
        have hcell := HC.out k hx
        have HS := Lib.hid (least64_snoc f xs k hx)
        clear hx
        have hkn : (k : Int) < (n : Int) := by omega
        generalize xs.getD k 0 = x at *
        generalize least64 f (xs.take k) = m at *
        go_wp2_with fail
        refine (lessU64 _ _ _).mono ?_
        rintro e w' ⟨rfl, rfl⟩
        by_cases hd : D64 (x - m) < 0
        · have d1 : decide (D64 (x - m) < 0) = true := by simpa using hd
          go_wp2
          exact ⟨⟨k + 1, by omega, by go_num, by rw [HS.out, if_pos hd]⟩, by simp [intOf]; omega⟩
        · have d1 : decide (D64 (x - m) < 0) = false := by simpa using hd
          go_wp2
          exact ⟨⟨k + 1, by omega, by go_num, by rw [HS.out, if_neg (by omega)]⟩, by simp [intOf]; omega⟩
      · have e : xs.take k = xs := List.take_of_length_le (by have := HN.out; omega)
        have HE := Lib.hid e
        clear e
        go_wp2
        go_ret
        exact ⟨ret_int (by rw [HE.out]), rfl⟩
end Go.Proofs.Ytkilonccbnohnaa

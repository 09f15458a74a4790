/- group.Of; the reference's Same; live of layer 5. -/
import Derived.Test.YthdokmhbdjajaabDoorGrpIt
namespace Go.Proofs.YthdokmhbdjajaabDoor
open Go.RowKit
set_option linter.unusedVariables false
set_option maxHeartbeats 1000000
attribute [local go_sem] later_cell later_frozen later_const
/-- a slice reads as these numbers -/
def IntsV (w : World) (v : Value) (xs : List Int) : Prop :=
  (∃ a cap, v = .slice a 0 cap ∧ xs = []) ∨ ∃ b off cap, v = .slice (some ⟨b, off, none⟩) xs.length cap ∧ ∀ j, j < xs.length → w.cell? ⟨b, off + j, none⟩ = some (.int .i64 (xs.getD j 0))
theorem IntsV.ext {w w' : World} {v : Value} {xs : List Int} (h : IntsV w v xs) (hx : Ext w w') : IntsV w' v xs := by
  rcases h with h | ⟨b, off, cap, hv, hc⟩
  · exact .inl h
  · exact .inr ⟨b, off, cap, hv, fun j hj => hx.cell (hc j hj)⟩
theorem intsV_row {w : World} {base e : Nat} {v : Value} {n : Nat} {xs : List Int} (h : w.ownsRow base e 1 v n (xs.map (Value.int .i64))) : IntsV w v xs := by
  rcases ints_of_row h with ⟨h1, h2⟩ | ⟨b, off, cap, h1, h2⟩
  · exact .inl ⟨none, 0, h1, h2⟩
  · exact .inr ⟨b, off, cap, h1, h2⟩
/-- which numbers may be -/
def okI (i : Int) : Bool := decide (0 ≤ i) && decide (i < 64)
theorem okI_iff (i : Int) : okI i = true ↔ 0 ≤ i ∧ i < 64 := by simp [okI]
/-- the word of some numbers -/
def gw (xs : List Int) : Nat := xs.foldl (fun g i => g ||| 2 ^ i.toNat) 0
theorem gw_snoc (xs : List Int) (k : Nat) (h : k < xs.length) : gw (xs.take (k + 1)) = gw (xs.take k) ||| 2 ^ (xs.getD k 0).toNat := by
  unfold gw
  rw [List.take_succ_eq_append_getElem h, List.foldl_append]
  simp [h]
theorem gw_lt : ∀ (xs : List Int), (∀ i ∈ xs, okI i = true) → gw xs < 18446744073709551616 := by
  have key : ∀ (xs : List Int) (g : Nat), g < 18446744073709551616 → (∀ i ∈ xs, okI i = true) → xs.foldl (fun g i => g ||| 2 ^ i.toNat) g < 18446744073709551616 := by
    intro xs
    induction xs with
    | nil => intro g hg _; exact hg
    | cons a l ih =>
      intro g hg h
      have ha := (okI_iff a).1 (h a List.mem_cons_self)
      exact ih _ (or_lt hg (Nat.pow_lt_pow_right (n := 64) (by decide) (by omega))) fun i hi => h i (List.mem_cons_of_mem _ hi)
  exact fun xs h => key xs 0 (by decide) h
theorem gRight' (i : Int) (w : World) : Calls Tryd.prog 28 #[.int .i64 i] w fun e w' => e = .returned (.bool (okI i)) ∧ w = w' := gRight i w
theorem gOf_yes (v : Value) (xs : List Int) (w : World) (h : IntsV w v xs) (hl : xs.length ≤ 1000000) (hok : ∀ i ∈ xs, okI i = true) :
    Calls Tryd.prog 8 #[v] w fun e w' => e = .returned (.tuple #[.int .u64 (gw xs : Nat), .int .i64 0]) ∧ w = w' := by
  rcases h with ⟨a, cap, rfl, rfl⟩ | ⟨b, off, cap, rfl, hc⟩
  · go_enter Tryd.func8, Tryd.ntmps8
    go_wp2
    refine wp_loop_rounds 1 ?_
    rw [rounds_succ]
    go_wp2
    go_ret2
    exact ⟨rfl, rfl⟩
  · have HC := Lib.hid hc
    have HOK := Lib.hid hok
    obtain ⟨n, hn⟩ : ∃ n, n = xs.length := ⟨_, rfl⟩
    rw [← hn]
    have HN := Lib.hid hn
    have hl2 : n ≤ 1000000 := by omega
    clear hn hl hc hok
    go_enter Tryd.func8, Tryd.ntmps8
    go_wp2
    go_loop [4, 9] (fun g i => ∃ k : Nat, k ≤ n ∧ i = .int .i64 k ∧ g = .int .u64 (gw (xs.take k) : Nat)) (fun _ i => n - (intOf i).toNat)
    case atStart => exact ⟨0, Nat.zero_le _, rfl, rfl⟩
    case round =>
      obtain ⟨k, hk, rfl, rfl⟩ := hrel
      by_cases hlt : k < n
      · have hx : k < xs.length := by have := HN.out; omega
        have hcell := HC.out k hx
        have hin := HOK.out (xs.getD k 0) (by simp [hx])
        have hg := gw_lt (xs.take k) fun i hi => HOK.out i (List.mem_of_mem_take hi)
        have S := gw_snoc xs k hx
        obtain ⟨m, hm⟩ := Int.eq_ofNat_of_zero_le ((okI_iff _).1 hin).1
        rw [hm] at hcell hin S
        have hm64 : m < 64 := by have := ((okI_iff _).1 hin).2; omega
        rw [Int.toNat_natCast] at S
        have HS := Lib.hid S
        clear S hm hx
        have hkn : (k : Int) < (n : Int) := by omega
        generalize gw (xs.take k) = g at *
        go_wp2_with fail
        refine (gRight' _ _).mono ?_
        rw [show okI (m : Int) = true from hin]
        rintro e w' ⟨rfl, rfl⟩
        go_wp2_with fail
        refine (gWith _ _ _ hg hm64).mono ?_
        rintro e w' ⟨rfl, rfl⟩
        go_wp2
        exact ⟨⟨k + 1, by omega, by go_num, by rw [HS.out]⟩, by simp [intOf]; omega⟩
      · have e : xs.take k = xs := List.take_of_length_le (by have := HN.out; omega)
        rw [e]
        clear e
        go_wp2
        go_ret2
        exact ⟨rfl, rfl⟩
theorem gOf_no (v : Value) (xs : List Int) (w : World) (h : IntsV w v xs) (hl : xs.length ≤ 1000000) (hok : ¬ ∀ i ∈ xs, okI i = true) :
    Calls Tryd.prog 8 #[v] w fun e w' => e = .returned (.tuple #[.int .u64 0, .int .i64 1]) ∧ w = w' := by
  rcases h with ⟨a, cap, rfl, rfl⟩ | ⟨b, off, cap, rfl, hc⟩
  · exact absurd (fun i hi => by cases hi) hok
  · have HC := Lib.hid hc
    have HOK := Lib.hid hok
    obtain ⟨n, hn⟩ : ∃ n, n = xs.length := ⟨_, rfl⟩
    rw [← hn]
    have HN := Lib.hid hn
    have hl2 : n ≤ 1000000 := by omega
    clear hn hl hc hok
    go_enter Tryd.func8, Tryd.ntmps8
    go_wp2
    go_loop [4, 9] (fun g i => ∃ k : Nat, k ≤ n ∧ i = .int .i64 k ∧ g = .int .u64 (gw (xs.take k) : Nat) ∧ Hid (∀ i ∈ xs.take k, okI i = true)) (fun _ i => n - (intOf i).toNat)
    case atStart => exact ⟨0, Nat.zero_le _, rfl, rfl, Lib.hid fun i hi => by simp at hi⟩
    case round =>
      obtain ⟨k, hk, rfl, rfl, HA⟩ := hrel
      by_cases hlt : k < n
      · have hx : k < xs.length := by have := HN.out; omega
        have hcell := HC.out k hx
        have hkn : (k : Int) < (n : Int) := by omega
        cases hin : okI (xs.getD k 0)
        · clear HA
          generalize xs.getD k 0 = z at *
          go_wp2_with fail
          refine (gRight' _ _).mono ?_
          rw [hin]
          rintro e w' ⟨rfl, rfl⟩
          go_wp2
          go_ret2
          exact ⟨rfl, rfl⟩
        · have hg := gw_lt (xs.take k) HA.out
          have S := gw_snoc xs k hx
          have HA2 : Hid (∀ i ∈ xs.take (k + 1), okI i = true) := Lib.hid (fun i hi => by
            rw [List.take_succ_eq_append_getElem hx] at hi
            rcases List.mem_append.1 hi with h | h
            · exact HA.out i h
            · simp at h; subst h; simpa [hx] using hin)
          obtain ⟨m, hm⟩ := Int.eq_ofNat_of_zero_le ((okI_iff _).1 hin).1
          rw [hm] at hcell hin S
          have hm64 : m < 64 := by have := ((okI_iff _).1 hin).2; omega
          rw [Int.toNat_natCast] at S
          have HS := Lib.hid S
          clear S hm hx HA
          generalize gw (xs.take k) = g at *
          go_wp2_with fail
          refine (gRight' _ _).mono ?_
          rw [show okI (m : Int) = true from hin]
          rintro e w' ⟨rfl, rfl⟩
          go_wp2_with fail
          refine (gWith _ _ _ hg hm64).mono ?_
          rintro e w' ⟨rfl, rfl⟩
          go_wp2
          exact ⟨⟨k + 1, by omega, by go_num, by rw [HS.out], HA2⟩, by simp [intOf]; omega⟩
      · exfalso
        apply HOK.out
        have e : xs.take k = xs := List.take_of_length_le (by have := HN.out; omega)
        have := HA.out
        rwa [e] at this
theorem same5 (a b : Value) (xs : List Int) (w : World) (h1 : IntsV w a xs) (h2 : IntsV w b xs) (hl : xs.length ≤ 1000000) : Calls Tryd.prog 22 #[a, b] w fun e w' => e = .returned (.bool true) ∧ Ext w w' := by
  by_cases h0 : xs.length = 0
  · have ea : ∃ p c, a = .slice p 0 c := by
      rcases h1 with ⟨p, c, h, _⟩ | ⟨b, off, c, h, _⟩
      · exact ⟨p, c, h⟩
      · rw [h0] at h; exact ⟨_, c, h⟩
    have eb : ∃ p c, b = .slice p 0 c := by
      rcases h2 with ⟨p, c, h, _⟩ | ⟨b, off, c, h, _⟩
      · exact ⟨p, c, h⟩
      · rw [h0] at h; exact ⟨_, c, h⟩
    obtain ⟨p1, c1, rfl⟩ := ea
    obtain ⟨p2, c2, rfl⟩ := eb
    clear h1 h2
    go_enter Tryd.func22, Tryd.ntmps22
    go_wp2
    refine wp_loop_rounds 1 ?_
    rw [rounds_succ]
    go_wp2
    go_ret
    exact ⟨rfl, Ext.refl _⟩
  · rcases h1 with ⟨p, c, h, hx⟩ | ⟨b1, o1, c1, rfl, hc1⟩
    · subst hx; exact absurd rfl h0
    rcases h2 with ⟨p, c, h, hx⟩ | ⟨b2, o2, c2, rfl, hc2⟩
    · subst hx; exact absurd rfl h0
    have H1 := Lib.hid hc1
    have H2 := Lib.hid hc2
    obtain ⟨n, hn⟩ : ∃ n, n = xs.length := ⟨_, rfl⟩
    rw [← hn]
    have HN := Lib.hid hn
    have hl2 : n ≤ 1000000 := by omega
    clear hn hl hc1 hc2 h0
    go_enter Tryd.func22, Tryd.ntmps22
    go_wp2
    go_loopw [5] (fun i wr => ∃ k : Nat, k ≤ n ∧ i = .int .i64 k ∧ Ext w wr) (fun i _ => n - (intOf i).toNat)
    case atStart => exact ⟨0, Nat.zero_le _, rfl, Ext.refl _⟩
    case round =>
      obtain ⟨k, hk, rfl, hx⟩ := hrel
      by_cases hlt : k < n
      · have hkx : k < xs.length := by have := HN.out; omega
        have d1 := hx.cell (H1.out k hkx)
        have d2 := hx.cell (H2.out k hkx)
        generalize xs.getD k 0 = z at *
        have hkn : (k : Int) < (n : Int) := by omega
        go_wp2
        refine wp_region_later (by kernel_rfl) (by kernel_rfl) ?_
        have l1 := fun (g : Later wr) => g.ok.cell d1
        have l2 := fun (g : Later wr) => g.ok.cell d2
        repeat (go_big_quiet_step ((fail)))
        refine wpQuiet_nil ?_
        intro w6 hl6
        have X6 := laters_ext hl6
        clear hl6 l1 l2
        go_wp2
        exact ⟨⟨k + 1, by omega, by go_num, hx.trans X6⟩, by simp [intOf]; omega⟩
      · go_wp2
        go_ret
        exact ⟨rfl, hx⟩
theorem bits9 : bitsOf 9 = [0, 3] := by decide
theorem live05 (w : World) (hT : Tab w) : Calls Tryd.prog 7 #[] w fun e w' => e = .returned (.bool true) ∧ Ext w w' := by
  have HT := Lib.hid hT
  clear hT
  have c1 := fun (w' : World) (h0 : w'.cell? ⟨w.heap.size, 0, none⟩ = some (.int .i64 3)) (h1 : w'.cell? ⟨w.heap.size, 1, none⟩ = some (.int .i64 0)) (h2 : w'.cell? ⟨w.heap.size, 2, none⟩ = some (.int .i64 3)) =>
    gOf_yes (.slice (some ⟨w.heap.size, 0, none⟩) 3 3) [3, 0, 3] w' (.inr ⟨w.heap.size, 0, 3, rfl, fun j hj => match j, hj with | 0, _ => h0 | 1, _ => h1 | 2, _ => h2⟩) (by decide) (by decide)
  rw [show gw [3, 0, 3] = 9 from rfl] at c1
  have C1 := Lib.hid c1
  have c2 := fun w' hT' => gNext 9 0 w' (by decide) (by decide) (by decide) hT'
  rw [show nxt 9 0 = some 3 by unfold nxt; rw [bits9]; rfl] at c2
  have C2 := Lib.hid c2
  have c3 := fun w' => gLen 9 w' (by decide)
  rw [bits9] at c3
  have C3 := Lib.hid c3
  clear c1 c2 c3
  go_enter Tryd.func7, Tryd.ntmps7
  go_wp2_with fail
  refine (C1.out _ (by simp [go_sem]) (by simp [go_sem]) (by simp [go_sem])).mono ?_
  rintro e w' ⟨rfl, rfl⟩
  go_wp2_with fail
  refine (C2.out _ (HT.out.ext (by repeat (first | with_reducible exact Ext.refl _ | with_reducible assumption | with_reducible refine Ext.alloc ?_ _ | with_reducible refine Ext.drew ?_ | with_reducible refine Ext.drewN ?_ _ | with_reducible refine Ext.setCell ?_ (by simp <;> omega) _ | with_reducible refine Ext.trans ?_ (by assumption))))).mono ?_
  rintro e w' ⟨rfl, rfl⟩
  simp only [optV]
  go_wp2_with fail
  refine (gList 9 _ (by decide) (HT.out.ext (by repeat (first | with_reducible exact Ext.refl _ | with_reducible assumption | with_reducible refine Ext.alloc ?_ _ | with_reducible refine Ext.drew ?_ | with_reducible refine Ext.drewN ?_ _ | with_reducible refine Ext.setCell ?_ (by simp <;> omega) _ | with_reducible refine Ext.trans ?_ (by assumption))))).mono ?_
  rintro e w1 ⟨v, rfl, hr, X1⟩
  rw [bits9] at hr
  have HI := Lib.hid (intsV_row (xs := [0, 3]) hr)
  have X0 : Ext w w1 := ((Ext.refl w).alloc _).trans X1
  have HX := Lib.hid X0
  clear hr X1 X0
  go_wp2_with fail
  refine (same5 _ (.slice (some ⟨w1.heap.size, 0, none⟩) 2 2) [0, 3] _ (HI.out.ext (by repeat (first | with_reducible exact Ext.refl _ | with_reducible assumption | with_reducible refine Ext.alloc ?_ _ | with_reducible refine Ext.drew ?_ | with_reducible refine Ext.drewN ?_ _ | with_reducible refine Ext.setCell ?_ (by simp <;> omega) _ | with_reducible refine Ext.trans ?_ (by assumption)))) (.inr ⟨w1.heap.size, 0, 2, rfl, fun j hj => match j, hj with | 0, _ => (by simp [go_sem]) | 1, _ => (by simp [go_sem])⟩) (by decide)).mono ?_
  rintro e w2 ⟨rfl, X2⟩
  go_wp2_with fail
  refine (C3.out _).mono ?_
  rintro e w' ⟨rfl, rfl⟩
  go_wp2
  go_ret
  exact ⟨rfl, HX.out.trans (((Ext.refl w1).alloc _).trans X2)⟩
end Go.Proofs.YthdokmhbdjajaabDoor

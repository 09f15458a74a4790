/- graph's all, Above, deep and Depth. -/
import Derived.Test.YtlalkefbcddbfaaDoorGrc
import Derived.Test.YtlalkefbcddbfaaDoorGrMath2
namespace Go.Proofs.YtlalkefbcddbfaaDoor
open Go.RowKit
set_option linter.unusedVariables false
set_option maxHeartbeats 1000000
/-- all consumers of a right graph -/
def allW (ups : List (List Int)) : Nat := if chk ups = 0 then 2 ^ ups.length - 1 else 0
theorem allW_lt (ups : List (List Int)) : allW ups < 64 := by
  unfold allW
  split
  · rename_i h
    have h6 := (chk_zero.1 h).six
    have := Nat.pow_le_pow_right (n := 2) (by decide) h6
    have e : (2 : Nat) ^ 6 = 64 := rfl
    have := Nat.two_pow_pos ups.length
    omega
  · decide
theorem g9all (v : Value) (ups : List (List Int)) (w : World) (hL : ListsV w v ups) (hll : ∀ l ∈ ups, l.length ≤ 1000000) (hn : ups.length ≤ 1000000) :
    Calls Tryd.prog 33 #[v] w fun e w' => e = .returned (.int .u64 (allW ups : Nat)) ∧ Ext w w' := by
  have CK := Lib.hid (gCheck v ups w hL hll hn)
  obtain ⟨a, cap, e, -⟩ := id hL
  subst e
  clear hL hll
  unfold allW
  by_cases hg : chk ups = 0
  · rw [if_pos hg]
    have h6 := (chk_zero.1 hg).six
    rw [hg] at CK
    clear hg
    have CF := Lib.hid (fun w => gFull (ups.length : Int) ups.length w (by omega))
    generalize ups.length = n at *
    go_enter Tryd.func33, Tryd.ntmps33
    go_wp2_with fail
    refine (CK.out).mono ?_
    rintro e w1 ⟨rfl, hb1⟩
    obtain ⟨hc1, hf1⟩ := hb1.cells
    go_wp2_with fail
    refine (CF.out _).mono ?_
    rintro e w' ⟨rfl, rfl⟩
    go_wp2
    go_ret
    refine ⟨rfl, ?_⟩
    repeat (first | with_reducible exact Ext.refl _ | with_reducible assumption | with_reducible refine Ext.alloc ?_ _ | with_reducible refine Ext.drew ?_ | with_reducible refine Ext.drewN ?_ _ | with_reducible refine Ext.setCell ?_ (by simp <;> omega) _ | with_reducible refine Ext.trans ?_ (by assumption))
  · rw [if_neg hg]
    have k : (chk ups != 0) = true := by simpa using hg
    have k2 : (chk ups == 0) = false := by simpa using hg
    generalize chk ups = g at *
    generalize ups.length = n at *
    clear hg
    go_enter Tryd.func33, Tryd.ntmps33
    go_wp2_with fail
    refine (CK.out).mono ?_
    rintro e w2 ⟨rfl, hb2⟩
    obtain ⟨hc2, hf2⟩ := hb2.cells
    go_wp2
    go_ret
    refine ⟨rfl, ?_⟩
    repeat (first | with_reducible exact Ext.refl _ | with_reducible assumption | with_reducible refine Ext.alloc ?_ _ | with_reducible refine Ext.drew ?_ | with_reducible refine Ext.drewN ?_ _ | with_reducible refine Ext.setCell ?_ (by simp <;> omega) _ | with_reducible refine Ext.trans ?_ (by assumption))
/-- is c a consumer of a right graph? -/
theorem allW_bit (ups : List (List Int)) (c : Nat) : (allW ups).testBit c = (decide (chk ups = 0) && decide (c < ups.length)) := by
  unfold allW
  by_cases h : chk ups = 0
  · rw [if_pos h, testBit_full]; simp [h]
  · rw [if_neg h, Nat.zero_testBit]; simp [h]
def inB (ups : List (List Int)) (c : Int) : Bool := decide (chk ups = 0) && decide (0 ≤ c) && decide (c < (ups.length : Int))
theorem gHasAll (ups : List (List Int)) (c : Int) (w : World) : Calls Tryd.prog 26 #[.int .u64 (allW ups : Nat), .int .i64 c] w fun e w' => e = .returned (.bool (inB ups c)) ∧ w = w' := by
  have hl := allW_lt ups
  by_cases hc : 0 ≤ c ∧ c < 64
  · obtain ⟨k, rfl⟩ := Int.eq_ofNat_of_zero_le hc.1
    have := gHas (allW ups) k w (by omega) (by omega)
    rw [allW_bit] at this
    rw [show inB ups (k : Int) = (decide (chk ups = 0) && decide (k < ups.length)) by unfold inB; rw [Bool.eq_iff_iff]; simp]
    exact this
  · have := gHas_no (allW ups) c w (by omega) hc
    rw [show inB ups c = false by
      unfold inB
      by_cases h : chk ups = 0
      · have h6 := (chk_zero.1 h).six
        simp [h]
        omega
      · simp [h]]
    exact this
theorem gAbove (v : Value) (ups : List (List Int)) (c : Int) (w : World) (hL : ListsV w v ups) (hll : ∀ l ∈ ups, l.length ≤ 1000000) (hn : ups.length ≤ 1000000) :
    Calls Tryd.prog 17 #[v, .int .i64 c] w fun e w' => e = .returned (.int .u64 ((if inB ups c then abw ups c.toNat else 0 : Nat) : Int)) ∧ Ext w w' := by
  have CA := Lib.hid (g9all v ups w hL hll hn)
  have CH := Lib.hid (fun w => gHasAll ups c w)
  cases hb : inB ups c
  · rw [if_neg (by simp)]
    rw [hb] at CH
    obtain ⟨a, cap, e, -⟩ := id hL
    subst e
    clear hL hll hb
    generalize allW ups = g at *
    generalize ups.length = n at *
    go_enter Tryd.func17, Tryd.ntmps17
    go_wp2_with fail
    refine (CA.out).mono ?_
    rintro e w1 ⟨rfl, hb1⟩
    obtain ⟨hc1, hf1⟩ := hb1.cells
    go_wp2_with fail
    refine (CH.out _).mono ?_
    rintro e w' ⟨rfl, rfl⟩
    go_wp2
    go_ret
    refine ⟨rfl, ?_⟩
    repeat (first | with_reducible exact Ext.refl _ | with_reducible assumption | with_reducible refine Ext.alloc ?_ _ | with_reducible refine Ext.drew ?_ | with_reducible refine Ext.drewN ?_ _ | with_reducible refine Ext.setCell ?_ (by simp <;> omega) _ | with_reducible refine Ext.trans ?_ (by assumption))
  · rw [if_pos rfl]
    rw [hb] at CH
    unfold inB at hb
    simp at hb
    obtain ⟨⟨h1, h2⟩, h3⟩ := hb
    have rt := chk_zero.1 h1
    obtain ⟨k, rfl⟩ := Int.eq_ofNat_of_zero_le h2
    rw [Int.toNat_natCast]
    have CR := Lib.hid (fun w' (hx : Ext w w') => reach v ups w' k rt.nms rt.six (hL.ext hx) hll (by omega))
    obtain ⟨a, cap, e, -⟩ := id hL
    subst e
    clear hL hll h1 h2 h3 rt
    generalize allW ups = g at *
    generalize abw ups k = r at *
    generalize ups.length = n at *
    go_enter Tryd.func17, Tryd.ntmps17
    go_wp2_with fail
    refine (CA.out).mono ?_
    rintro e w2 ⟨rfl, hb2⟩
    obtain ⟨hc2, hf2⟩ := hb2.cells
    go_wp2_with fail
    refine (CH.out _).mono ?_
    rintro e w' ⟨rfl, rfl⟩
    go_wp2_with fail
    refine (CR.out _ (by repeat (first | with_reducible exact Ext.refl _ | with_reducible assumption | with_reducible refine Ext.alloc ?_ _ | with_reducible refine Ext.drew ?_ | with_reducible refine Ext.drewN ?_ _ | with_reducible refine Ext.setCell ?_ (by simp <;> omega) _ | with_reducible refine Ext.trans ?_ (by assumption)))).mono ?_
    rintro e w3 ⟨rfl, hb3⟩
    obtain ⟨hc3, hf3⟩ := hb3.cells
    go_wp2
    go_ret
    refine ⟨rfl, ?_⟩
    repeat (first | with_reducible exact Ext.refl _ | with_reducible assumption | with_reducible refine Ext.alloc ?_ _ | with_reducible refine Ext.drew ?_ | with_reducible refine Ext.drewN ?_ _ | with_reducible refine Ext.setCell ?_ (by simp <;> omega) _ | with_reducible refine Ext.trans ?_ (by assumption))
theorem gDeep (ups : List (List Int)) (rt : Rt ups) (v : Value) (w : World) (hL : ListsV w v ups) (hll : ∀ l ∈ ups, l.length ≤ 1000000) :
    ∀ (m c : Nat), ht ups c < m → c < ups.length → Calls Tryd.prog 39 #[v, .int .i64 c] w fun e w' => e = .returned (.int .i64 (dep ups c : Nat)) ∧ w = w' := by
  intro m
  induction m with
  | zero => intro c h; omega
  | succ m ih =>
    intro c hm hc
    obtain ⟨a, cap, e, -⟩ := id hL
    subst e
    obtain ⟨b, off, u, cu, ha, hcell, hI⟩ := hL.at (Ext.refl w) hc
    subst ha
    obtain ⟨u', cu', eu, hform⟩ := hI.form
    cases eu
    have h6 := rt.six
    have hlen : (ups.getD c []).length ≤ 1000000 := hll _ (by rw [getD_at _ _ _ hc]; exact List.getElem_mem hc)
    have HD := Lib.hid (dep_eq rt (c := c) (by omega))
    have HF := Lib.hid hform
    have HIH := Lib.hid ih
    have HRT := Lib.hid rt
    clear ih hI hform hL hll rt
    obtain ⟨n, hn⟩ : ∃ n, n = (ups.getD c []).length := ⟨_, rfl⟩
    rw [← hn] at hcell hlen
    have HN := Lib.hid hn
    generalize hdc : dep ups c = dc at *
    clear hn hdc
    go_enter Tryd.func39, Tryd.ntmps39
    go_wp2
    go_loop [5, 13] (fun d i => ∃ k : Nat, k ≤ n ∧ i = .int .i64 k ∧ d = .int .i64 (mx (dep ups) ((ups.getD c []).take k) : Nat)) (fun _ i => n - (intOf i).toNat)
    case atStart => exact ⟨0, Nat.zero_le _, rfl, rfl⟩
    case round =>
      obtain ⟨k, hk, rfl, rfl⟩ := hrel
      by_cases hlt : k < n
      · have hkl : k < (ups.getD c []).length := by have := HN.out; omega
        obtain ⟨b1, o1, hu, q1⟩ := HF.out k hkl
        subst hu
        have hkn : (k : Int) < (n : Int) := by omega
        have hmem : (ups.getD c [])[k] ∈ ups.getD c [] := List.getElem_mem hkl
        have hr := mem_R HRT.out hmem
        have hge := ((HRT.out.nms.at c).1 _ hmem).1
        have hht := ht_lt HRT.out hr
        have hal := HRT.out.nms.lt hr
        have hS := mx_take (dep ups) (ups.getD c []) k hkl
        rw [getD_at _ _ _ hkl] at q1 hS
        obtain ⟨a1, ha1⟩ := Int.eq_ofNat_of_zero_le hge
        rw [ha1] at q1 hS hht hal
        rw [Int.toNat_natCast] at hS hht hal
        have C := Lib.hid (HIH.out a1 (by omega) hal)
        have hd5 := dep_five HRT.out (c := a1) (by omega)
        have hm5 : mx (dep ups) ((ups.getD c []).take k) ≤ 6 := mx_le fun x hx => by
          have hx' := List.mem_of_mem_take hx
          have hrx := mem_R HRT.out hx'
          have := dep_five HRT.out (c := x.toNat) (by have := HRT.out.nms.lt hrx; omega)
          omega
        have HS := Lib.hid hS
        clear hmem hr hge hht hS ha1 hkl
        generalize mx (dep ups) ((ups.getD c []).take k) = d at *
        generalize dep ups a1 = z at *
        by_cases hz : d ≤ z + 1
        · have d1 : (d : Int) ≤ (z : Int) + 1 := by omega
          go_wp2_with fail
          refine C.out.mono ?_
          rintro e w' ⟨rfl, rfl⟩
          go_wp2
          exact ⟨⟨k + 1, by omega, by go_num, by rw [HS.out]; congr 1; omega⟩, by simp [intOf]; omega⟩
        · have d1 : ¬ (d : Int) ≤ (z : Int) + 1 := by omega
          go_wp2_with fail
          refine C.out.mono ?_
          rintro e w' ⟨rfl, rfl⟩
          go_wp2
          exact ⟨⟨k + 1, by omega, by go_num, by rw [HS.out]; congr 1; omega⟩, by simp [intOf]; omega⟩
      · have e : (ups.getD c []).take k = ups.getD c [] := List.take_of_length_le (by have := HN.out; omega)
        rw [e, ← HD.out]
        clear e
        go_wp2
        go_ret
        exact ⟨rfl, rfl⟩
theorem gDepth (v : Value) (ups : List (List Int)) (c : Int) (w : World) (hL : ListsV w v ups) (hll : ∀ l ∈ ups, l.length ≤ 1000000) (hn : ups.length ≤ 1000000) :
    Calls Tryd.prog 16 #[v, .int .i64 c] w fun e w' => e = .returned (.int .i64 ((if inB ups c then dep ups c.toNat else 0 : Nat) : Int)) ∧ Ext w w' := by
  have CA := Lib.hid (g9all v ups w hL hll hn)
  have CH := Lib.hid (fun w => gHasAll ups c w)
  cases hb : inB ups c
  · rw [if_neg (by simp)]
    rw [hb] at CH
    obtain ⟨a, cap, e, -⟩ := id hL
    subst e
    clear hL hll hb
    generalize allW ups = g at *
    generalize ups.length = n at *
    go_enter Tryd.func16, Tryd.ntmps16
    go_wp2_with fail
    refine (CA.out).mono ?_
    rintro e w1 ⟨rfl, hb1⟩
    obtain ⟨hc1, hf1⟩ := hb1.cells
    go_wp2_with fail
    refine (CH.out _).mono ?_
    rintro e w' ⟨rfl, rfl⟩
    go_wp2
    go_ret
    refine ⟨rfl, ?_⟩
    repeat (first | with_reducible exact Ext.refl _ | with_reducible assumption | with_reducible refine Ext.alloc ?_ _ | with_reducible refine Ext.drew ?_ | with_reducible refine Ext.drewN ?_ _ | with_reducible refine Ext.setCell ?_ (by simp <;> omega) _ | with_reducible refine Ext.trans ?_ (by assumption))
  · rw [if_pos rfl]
    rw [hb] at CH
    unfold inB at hb
    simp at hb
    obtain ⟨⟨h1, h2⟩, h3⟩ := hb
    have rt := chk_zero.1 h1
    obtain ⟨k, rfl⟩ := Int.eq_ofNat_of_zero_le h2
    rw [Int.toNat_natCast]
    have h6 := rt.six
    have CR := Lib.hid (fun w' (hx : Ext w w') => gDeep ups rt v w' (hL.ext hx) hll 6 k (ht_six rt (by omega)) (by omega))
    obtain ⟨a, cap, e, -⟩ := id hL
    subst e
    clear hL hll h1 h2 h3 rt h6
    generalize allW ups = g at *
    generalize dep ups k = r at *
    generalize ups.length = n at *
    go_enter Tryd.func16, Tryd.ntmps16
    go_wp2_with fail
    refine (CA.out).mono ?_
    rintro e w2 ⟨rfl, hb2⟩
    obtain ⟨hc2, hf2⟩ := hb2.cells
    go_wp2_with fail
    refine (CH.out _).mono ?_
    rintro e w' ⟨rfl, rfl⟩
    go_wp2_with fail
    refine (CR.out _ (by assumption)).mono ?_
    rintro e w' ⟨rfl, rfl⟩
    go_wp2
    go_ret
    refine ⟨rfl, ?_⟩
    repeat (first | with_reducible exact Ext.refl _ | with_reducible assumption | with_reducible refine Ext.alloc ?_ _ | with_reducible refine Ext.drew ?_ | with_reducible refine Ext.drewN ?_ _ | with_reducible refine Ext.setCell ?_ (by simp <;> omega) _ | with_reducible refine Ext.trans ?_ (by assumption))
end Go.Proofs.YtlalkefbcddbfaaDoor

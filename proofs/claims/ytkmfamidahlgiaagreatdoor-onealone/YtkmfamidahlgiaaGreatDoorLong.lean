/- Long: are lists more than are gone through? -/
import Derived.Test.YtkmfamidahlgiaaGreatDoorLists
namespace Go.Proofs.YtkmfamidahlgiaaGreatDoor
open Go.RowKit
set_option linter.unusedVariables false
set_option maxHeartbeats 1000000
def longB (ups : List (List Int)) : Bool := ((ups.take 20).any fun l => decide (20 < l.length)) || decide (20 < ups.length)
theorem longB_no {ups : List (List Int)} (h : longB ups = false) : ups.length ≤ 20 ∧ ∀ l ∈ ups, l.length ≤ 20 := by
  unfold longB at h
  rw [Bool.or_eq_false_iff] at h
  have h2 : ups.length ≤ 20 := by simpa using h.2
  rw [List.take_of_length_le h2] at h
  refine ⟨h2, fun l hl => ?_⟩
  have := List.any_eq_false.1 h.1 l hl
  simpa using this
theorem long (v : Value) (ups : List (List Int)) (w : World) (hL : ListsV w v ups) (hn : ups.length ≤ maxLen) (hll : ∀ l ∈ ups, l.length ≤ maxLen) :
    Calls Tryz.prog 8 #[v] w fun e w' => e = .returned (.bool (longB ups)) ∧ w = w' := by
  obtain ⟨a, cap, e, -⟩ := id hL
  subst e
  have HL := Lib.hid hL
  have HLL := Lib.hid hll
  obtain ⟨n, hN⟩ : ∃ n, n = ups.length := ⟨_, rfl⟩
  rw [← hN]
  rw [← hN] at hn
  have HE := Lib.hid hN
  clear hL hll hN
  unfold maxLen at hn
  generalize hv : longB ups = v
  have HV := Lib.hid hv
  clear hv
  go_enter Tryz.func8, Tryz.ntmps8
  go_wp2
  go_loop [3] (fun i => ∃ k : Nat, k ≤ n ∧ k ≤ 20 ∧ i = .int .i64 k ∧ Hid (∀ j, j < k → (ups.getD j []).length ≤ 20)) (fun i => 20 - (intOf i).toNat)
  case atStart => exact ⟨0, Nat.zero_le _, Nat.zero_le _, rfl, Lib.hid fun j hj => by omega⟩
  case round =>
    obtain ⟨k, hk, hk20, rfl, HA⟩ := hrel
    by_cases hlt : k < n
    · by_cases h20 : k < 20
      · have hku : k < ups.length := by have := HE.out; omega
        obtain ⟨b, off, u, cu, ha, q, hI⟩ := HL.out.at (Ext.refl w) hku
        subst ha
        have hmem : ups.getD k [] ∈ ups := by rw [show ups.getD k [] = ups[k] by simp [hku]]; exact List.getElem_mem hku
        have hlm := HLL.out _ hmem
        unfold maxLen at hlm
        have d1 : decide ((k : Int) < (n : Int)) = true := by simp; omega
        have d2 : decide ((k : Int) < 20) = true := by simp; omega
        by_cases hl : 20 < (ups.getD k []).length
        · have HVV : Hid (true = v) := Lib.hid (by
            rw [← HV.out]
            symm
            unfold longB
            rw [Bool.or_eq_true]
            left
            rw [List.any_eq_true]
            refine ⟨ups.getD k [], ?_, by simpa using hl⟩
            rw [show ups.getD k [] = (ups.take 20)[k]'(by rw [List.length_take]; omega) by simp [hku]]
            exact List.getElem_mem _)
          clear hI hmem HA hku
          generalize (ups.getD k []).length = m at *
          have d3 : (20 : Int) < (m : Int) := by omega
          clear hl
          go_wp2
          go_ret
          exact ⟨congrArg (fun x => Ending.returned (Value.bool x)) HVV.out, rfl⟩
        · have HA2 : Hid (∀ j, j < k + 1 → (ups.getD j []).length ≤ 20) := Lib.hid (fun j hj => by
            by_cases ej : j = k
            · subst ej; omega
            · exact HA.out j (by omega))
          clear hI hmem HA hku
          generalize (ups.getD k []).length = m at *
          have d3 : decide ((20 : Int) < (m : Int)) = false := by simp; omega
          clear hl
          go_wp2
          exact ⟨⟨k + 1, by omega, by omega, by go_num, HA2⟩, by simp [intOf]; omega⟩
      · have d1 : decide ((k : Int) < (n : Int)) = true := by simp; omega
        have d2 : decide ((k : Int) < 20) = false := by simp; omega
        have HVV : Hid (true = v) := Lib.hid (by
          rw [← HV.out]
          symm
          unfold longB
          rw [Bool.or_eq_true]
          right
          have := HE.out
          simp; omega)
        have d3 : (20 : Int) < (n : Int) := by omega
        clear HA
        go_wp2
        go_ret
        exact ⟨congrArg (fun x => Ending.returned (Value.bool x)) HVV.out, rfl⟩
    · have d1 : decide ((k : Int) < (n : Int)) = false := by simp; omega
      have HVV : Hid (false = v) := Lib.hid (by
        rw [← HV.out]
        symm
        unfold longB
        rw [Bool.or_eq_false_iff]
        have he := HE.out
        refine ⟨?_, by simp; omega⟩
        rw [List.any_eq_false]
        intro l hl
        obtain ⟨j, hj, rfl⟩ := List.getElem_of_mem (List.mem_of_mem_take hl)
        have := HA.out j (by omega)
        rw [show ups.getD j [] = ups[j] by simp [hj]] at this
        simpa using this)
      have d3 : decide ((20 : Int) < (n : Int)) = false := by simp; omega
      clear HA
      go_wp2
      go_ret
      exact ⟨congrArg (fun x => Ending.returned (Value.bool x)) HVV.out, rfl⟩
end Go.Proofs.YtkmfamidahlgiaaGreatDoor

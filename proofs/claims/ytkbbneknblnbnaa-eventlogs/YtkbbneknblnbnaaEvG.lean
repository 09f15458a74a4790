/- How long events are. -/
import Derived.Test.YtkbbneknblnbnaaEv3
namespace Go.Proofs.Ytkbbneknblnbnaa
open Go.RowKit
set_option linter.unusedVariables false
set_option linter.unusedSimpArgs false
set_option maxHeartbeats 4000000
attribute [local go_sem] later_cell later_frozen later_const
def lng (L : List Ev) (m : Nat) : Bool := (L.take m).any (fun e => decide (100 < e.d.length)) || decide (m < L.length)
theorem lng_no {L : List Ev} {m : Nat} (h : lng L m = false) : L.length ≤ m ∧ ∀ e ∈ L, e.d.length ≤ 100 := by
  unfold lng at h
  rw [Bool.or_eq_false_iff] at h
  have h2 : L.length ≤ m := by simpa using h.2
  refine ⟨h2, fun e he => ?_⟩
  have h1 := h.1
  rw [List.take_of_length_le h2, List.any_eq_false] at h1
  simpa using h1 e he
theorem lng_yes {L : List Ev} {m k : Nat} (hk : k < L.length) (hm : k < m) (h : 100 < L[k].d.length) : lng L m = true := by
  unfold lng
  rw [Bool.or_eq_true]
  left
  rw [List.any_eq_true]
  refine ⟨L[k], ?_, by simpa using h⟩
  rw [List.mem_take_iff_getElem]
  exact ⟨k, by omega, rfl⟩
theorem lng_end {L : List Ev} {m k : Nat} (h : ∀ e ∈ L.take k, e.d.length ≤ 100) (hk : L.length ≤ k ∨ m ≤ k) : lng L m = decide (m < L.length) := by
  unfold lng
  rw [show (L.take m).any (fun e => decide (100 < e.d.length)) = false by
    rw [List.any_eq_false]
    intro e he
    have hm : e ∈ L.take k := by
      rcases hk with hk | hk
      · rw [List.take_of_length_le hk]; exact List.mem_of_mem_take he
      · rw [List.mem_take_iff_getElem] at he ⊢
        obtain ⟨i, hi, e1⟩ := he
        exact ⟨i, by omega, e1⟩
    have := h e hm
    simpa using this]
  rfl
set_option maxRecDepth 100000 in
theorem eLong {B : Nat} (v : Value) (L : List Ev) (m : Nat) (w : World) (h : EvsV w B v L) (hm9 : m ≤ 1000) : Calls Try.prog 7 #[v, .int .i64 m] w fun e w' => e = .returned (.bool (lng L m)) ∧ Ext w w' := by
  obtain ⟨a, cap, e, hm, f⟩ := h.get3
  subst e
  have HA := Lib.hid f
  have HY := Lib.hid (fun k (hk : k < L.length) (hm : k < m) h => lng_yes hk hm h)
  have HE := Lib.hid (fun k h hk => lng_end (L := L) (m := m) (k := k) h hk)
  generalize lng L m = V at *
  clear h f
  go_enter Try.func7, Try.ntmps7
  go_wp2
  go_loopw [5] (fun i wr => ∃ k : Nat, k ≤ L.length ∧ k ≤ m ∧ i = .int .i64 k ∧ Ext w wr ∧ Hid (∀ e ∈ L.take k, e.d.length ≤ 100)) (fun i _ => L.length - (intOf i).toNat)
  case atStart => exact ⟨0, Nat.zero_le _, Nat.zero_le _, rfl, Ext.refl _, Lib.hid (by simp)⟩
  case round =>
    obtain ⟨k, hk, hkm, rfl, hx, HI⟩ := hrel
    by_cases hlt : k < L.length
    case neg =>
      obtain rfl : k = L.length := by omega
      have e := HE.out _ HI.out (.inl (Nat.le_refl _))
      subst e
      clear HI HY HE
      go_wp2
      go_ret
      exact ⟨by simp, hx⟩
    have hlt' : (k : Int) < (L.length : Int) := by omega
    by_cases hltm : k < m
    case neg =>
      have hltm' : ¬ (k : Int) < (m : Int) := by omega
      have e := HE.out k HI.out (.inr (by omega))
      subst e
      clear HI HY HE
      go_wp2
      go_ret
      exact ⟨by simp, hx⟩
    have hltm' : (k : Int) < (m : Int) := by omega
    obtain ⟨b, off, u, ea, A⟩ := HA.out wr hx k hlt
    subst ea
    obtain ⟨ua, uc, eu⟩ := A.d.len
    have c6 := A.c6
    have hy := HY.out k hlt hltm
    have hst : ∀ e ∈ L.take (k + 1), e ∈ L.take k ∨ e = L[k] := fun e he => by
      rw [List.take_succ_eq_append_getElem hlt] at he
      exact (List.mem_append.1 he).imp id List.mem_singleton.1
    generalize L[k] = x at *
    generalize hul : x.d.length = ul at *
    subst eu
    have HST := Lib.hid hst
    have HUL := Lib.hid hul
    clear A hst hul
    by_cases hg : 100 < ul
    · have hg' : (100 : Int) < (ul : Int) := by omega
      have e := hy hg
      subst e
      clear HI hy HY HE HST
      go_wp2
      go_ret
      exact ⟨rfl, hx⟩
    · have hg' : ¬ (100 : Int) < (ul : Int) := by omega
      have HI2 : Hid (∀ e ∈ L.take (k + 1), e.d.length ≤ 100) := Lib.hid (fun e he => by
        rcases HST.out e he with h | rfl
        · exact HI.out e h
        · have := HUL.out; omega)
      clear HI hy HST
      go_wp2
      exact ⟨⟨k + 1, by omega, by omega, by go_num, hx, HI2⟩, by simp [intOf]; omega⟩
end Go.Proofs.Ytkbbneknblnbnaa

/- The words of kinds and ops. -/
import Derived.Test.YtkbbneknblnbnaaExt
import Derived.Test.YtkbbneknblnbnaaRows
import Derived.ProofKit
import Derived.Lib.SlicesS
import Derived.Deep.DeepCutAuto
namespace Go.Proofs.Ytkbbneknblnbnaa
open Go.RowKit
set_option linter.unusedVariables false
set_option linter.unusedSimpArgs false
set_option maxHeartbeats 2000000
attribute [local go_sem] later_cell later_frozen later_const
def kL : List ByteArray := [⟨#[]⟩, ⟨#[105, 110, 118, 111, 107, 101]⟩, ⟨#[114, 101, 116, 117, 114, 110]⟩, ⟨#[116, 97, 107, 101]⟩, ⟨#[103, 114, 97, 110, 116]⟩, ⟨#[112, 117, 116]⟩, ⟨#[115, 101, 101, 110]⟩, ⟨#[102, 114, 101, 101]⟩]
def oL : List ByteArray := [⟨#[]⟩, ⟨#[99, 108, 97, 105, 109]⟩, ⟨#[112, 117, 98, 108, 105, 115, 104]⟩, ⟨#[97, 118, 97, 105, 108]⟩, ⟨#[114, 101, 108, 101, 97, 115, 101]⟩, ⟨#[115, 101, 110, 100]⟩, ⟨#[114, 101, 99, 101, 105, 118, 101]⟩]
def wAt (l : List ByteArray) (n : Int) : ByteArray := if 0 ≤ n ∧ n < l.length then l.getD n.toNat ⟨#[]⟩ else ⟨#[]⟩
def ixF (s : ByteArray) : List ByteArray → Nat → Int
  | [], _ => -1
  | x :: l, k => if x = s then (k : Int) else ixF s l (k + 1)
def fnd (l : List ByteArray) (s : ByteArray) : Int := if ixF s l 0 < 0 then 0 else ixF s l 0
theorem ixF_spec (s : ByteArray) : ∀ (l : List ByteArray) (k : Nat), ixF s l k = -1 ∨ ∃ j, ∃ h : j < l.length, ixF s l k = ((k + j : Nat) : Int) ∧ l[j] = s
  | [], k => .inl rfl
  | x :: l, k => by
    by_cases h : x = s
    · exact .inr ⟨0, by simp, by simp [ixF, h], h⟩
    · have e : ixF s (x :: l) k = ixF s l (k + 1) := by simp [ixF, h]
      rcases ixF_spec s l (k + 1) with h1 | ⟨j, hj, h1, h2⟩
      · exact .inl (e.trans h1)
      · exact .inr ⟨j + 1, by simpa using hj, by rw [e, h1]; congr 1; omega, by simpa using h2⟩
theorem ixF_range (s : ByteArray) (l : List ByteArray) (k : Nat) : -1 ≤ ixF s l k ∧ ixF s l k < k + l.length ∨ ixF s l k = -1 := by
  rcases ixF_spec s l k with h | ⟨j, hj, h1, _⟩
  · exact .inr h
  · left; rw [h1]; omega
theorem fnd_word (l : List ByteArray) (s : ByteArray) (h : fnd l s ≠ 0) : wAt l (fnd l s) = s := by
  unfold fnd at *
  rcases ixF_spec s l 0 with h1 | ⟨j, hj, h1, h2⟩
  · rw [h1] at h; exact absurd rfl h
  · rw [Nat.zero_add] at h1
    rw [h1, if_neg (by omega)]
    unfold wAt
    rw [if_pos ⟨by omega, by omega⟩]
    simpa [hj] using h2
theorem fnd_range (l : List ByteArray) (s : ByteArray) : 0 ≤ fnd l s ∧ fnd l s ≤ l.length := by
  unfold fnd
  rcases ixF_spec s l 0 with h1 | ⟨j, hj, h1, h2⟩
  · rw [h1]; simp
  · rw [h1, if_neg (by omega)]; omega
theorem kback : ∀ i : Nat, i < 8 → fnd kL (wAt kL i) = i := by decide +kernel
theorem oback : ∀ i : Nat, i < 7 → fnd oL (wAt oL i) = i := by decide +kernel
theorem kindWords (w : World) : Calls Try.prog 49 #[] w fun e w' => e = .returned (.agg #[.string ⟨#[]⟩, .string ⟨#[105, 110, 118, 111, 107, 101]⟩, .string ⟨#[114, 101, 116, 117, 114, 110]⟩, .string ⟨#[116, 97, 107, 101]⟩, .string ⟨#[103, 114, 97, 110, 116]⟩, .string ⟨#[112, 117, 116]⟩, .string ⟨#[115, 101, 101, 110]⟩, .string ⟨#[102, 114, 101, 101]⟩]) ∧ Ext w w' := by
  go_enter Try.func49, Try.ntmps49
  go_wp2
  refine bodyPost_ret (v := .agg #[.string ⟨#[]⟩, .string ⟨#[105, 110, 118, 111, 107, 101]⟩, .string ⟨#[114, 101, 116, 117, 114, 110]⟩, .string ⟨#[116, 97, 107, 101]⟩, .string ⟨#[103, 114, 97, 110, 116]⟩, .string ⟨#[112, 117, 116]⟩, .string ⟨#[115, 101, 101, 110]⟩, .string ⟨#[102, 114, 101, 101]⟩]) (by simp [results, Try.results49, go_sem]) rfl ⟨rfl, ?_⟩
  repeat (first | with_reducible exact Ext.refl _ | with_reducible assumption | with_reducible refine Ext.alloc ?_ _ | with_reducible refine Ext.drew ?_ | with_reducible refine Ext.drewN ?_ _ | with_reducible refine Ext.setCell ?_ (by simp <;> omega) _ | with_reducible refine Ext.trans ?_ (by assumption))
theorem opWords (w : World) : Calls Try.prog 51 #[] w fun e w' => e = .returned (.agg #[.string ⟨#[]⟩, .string ⟨#[99, 108, 97, 105, 109]⟩, .string ⟨#[112, 117, 98, 108, 105, 115, 104]⟩, .string ⟨#[97, 118, 97, 105, 108]⟩, .string ⟨#[114, 101, 108, 101, 97, 115, 101]⟩, .string ⟨#[115, 101, 110, 100]⟩, .string ⟨#[114, 101, 99, 101, 105, 118, 101]⟩]) ∧ Ext w w' := by
  go_enter Try.func51, Try.ntmps51
  go_wp2
  refine bodyPost_ret (v := .agg #[.string ⟨#[]⟩, .string ⟨#[99, 108, 97, 105, 109]⟩, .string ⟨#[112, 117, 98, 108, 105, 115, 104]⟩, .string ⟨#[97, 118, 97, 105, 108]⟩, .string ⟨#[114, 101, 108, 101, 97, 115, 101]⟩, .string ⟨#[115, 101, 110, 100]⟩, .string ⟨#[114, 101, 99, 101, 105, 118, 101]⟩]) (by simp [results, Try.results51, go_sem]) rfl ⟨rfl, ?_⟩
  repeat (first | with_reducible exact Ext.refl _ | with_reducible assumption | with_reducible refine Ext.alloc ?_ _ | with_reducible refine Ext.drew ?_ | with_reducible refine Ext.drewN ?_ _ | with_reducible refine Ext.setCell ?_ (by simp <;> omega) _ | with_reducible refine Ext.trans ?_ (by assumption))
/-- a slice of texts in block b -/
def StrV (w : World) (b : Nat) (L : List ByteArray) : Prop := ∀ j, j < L.length → w.cell? ⟨b, j, none⟩ = some (.string (L.getD j ⟨#[]⟩))
theorem eWordAt (b N : Nat) (L : List ByteArray) (n : Int) (w : World) (h : StrV w b L) (hN : N = L.length) : Calls Try.prog 50 #[.slice (some ⟨b, 0, none⟩) N N, .int .i64 n] w fun e w' => e = .returned (.string (wAt L n)) ∧ w = w' := by
  by_cases h0 : n < 0
  · have d0 : decide (n < 0) = true := by simpa using h0
    rw [show wAt L n = ⟨#[]⟩ by unfold wAt; rw [if_neg (by omega)]]
    go_enter Try.func50, Try.ntmps50
    go_wp2
    go_ret
    exact ⟨rfl, rfl⟩
  · by_cases h1 : n < N
    · rw [show wAt L n = L.getD n.toNat ⟨#[]⟩ by unfold wAt; rw [if_pos ⟨by omega, by omega⟩]]
      obtain ⟨k, rfl⟩ : ∃ k : Nat, n = k := ⟨n.toNat, by omega⟩
      have c := h k (by omega)
      rw [Int.toNat_natCast]
      generalize L.getD k ⟨#[]⟩ = s at *
      have h2 : ¬ (N : Int) ≤ (k : Int) := by omega
      clear h
      go_enter Try.func50, Try.ntmps50
      go_wp2
      go_ret
      exact ⟨rfl, rfl⟩
    · rw [show wAt L n = ⟨#[]⟩ by unfold wAt; rw [if_neg (by omega)]]
      have h2 : (N : Int) ≤ n := by omega
      clear h
      go_enter Try.func50, Try.ntmps50
      go_wp2
      go_ret
      exact ⟨rfl, rfl⟩
theorem indexS (b N : Nat) (L : List ByteArray) (s : ByteArray) (w : World) (h : StrV w b L) (hN : N = L.length) (hN8 : N ≤ 100) : Calls Try.prog 63 #[.slice (some ⟨b, 0, none⟩) N N, .string s] w fun e w' => e = .returned (.int .i64 (ixF s L 0)) ∧ Ext w w' := by
  have H := Lib.hid h
  have HN := Lib.hid hN
  obtain ⟨V, hV⟩ : ∃ V, V = ixF s L 0 := ⟨_, rfl⟩
  rw [← hV]
  have HV := Lib.hid hV
  clear h hN hV
  go_enter Try.func63, Try.ntmps63
  go_wp2
  go_loopw [8] (fun i wr => ∃ k : Nat, k ≤ N ∧ i = .int .i64 k ∧ Ext w wr ∧ Hid (ixF s (L.drop k) k = V)) (fun i _ => N - (intOf i).toNat)
  case atStart => exact ⟨0, Nat.zero_le _, rfl, Ext.refl _, Lib.hid HV.out.symm⟩
  case round =>
    obtain ⟨k, hk, rfl, hx, HP⟩ := hrel
    by_cases hlt : k < N
    case neg =>
      obtain rfl : k = N := by omega
      have e : -1 = V := by
        have := HP.out
        rw [List.drop_of_length_le (by have := HN.out; omega)] at this
        exact this
      subst e
      clear HV HP
      go_wp2
      go_ret
      exact ⟨rfl, hx⟩
    have hkl : k < L.length := by have := HN.out; omega
    have c := hx.cell (H.out k hkl)
    have hlt' : (k : Int) < (N : Int) := by omega
    have hd : L.drop k = L.getD k ⟨#[]⟩ :: L.drop (k + 1) := by
      rw [List.drop_eq_getElem_cons hkl]
      simp [hkl]
    by_cases he : L.getD k ⟨#[]⟩ = s
    · have e : (k : Int) = V := by
        have := HP.out
        rw [hd] at this
        exact (if_pos he).symm.trans this
      subst e
      rw [he] at c
      clear HV HP hd he
      go_wp2
      go_ret
      exact ⟨rfl, hx⟩
    · have e : ixF s (L.drop (k + 1)) (k + 1) = V := by
        have := HP.out
        rw [hd] at this
        exact (if_neg he).symm.trans this
      have d : (s.toList == (L.getD k ⟨#[]⟩).toList) = false := (Lib.bytes_beq_false_iff _ _).2 (Ne.symm he)
      generalize L.getD k ⟨#[]⟩ = y at *
      have HE := Lib.hid e
      clear e HP hd he
      go_wp2
      exact ⟨⟨k + 1, by omega, by go_num, hx, HE⟩, by simp [intOf]; omega⟩
theorem eFind0 (v : Value) (s : ByteArray) (z : Int) (w : World) (C : Calls Try.prog 63 #[v, .string s] w fun e w' => e = .returned (.int .i64 z) ∧ Ext w w') (hz : z = -1 ∨ z = 0 ∨ 0 < z) : Calls Try.prog 52 #[v, .string s] w fun e w' => e = .returned (.int .i64 (if z < 0 then 0 else z)) ∧ Ext w w' := by
  rcases hz with rfl | rfl | h1
  · rw [if_pos (by decide)]
    go_enter Try.func52, Try.ntmps52
    go_wp2_with fail
    refine C.mono ?_
    rintro e w2 ⟨rfl, X2⟩
    go_wp2
    go_ret
    exact ⟨rfl, X2⟩
  · rw [if_neg (by decide)]
    go_enter Try.func52, Try.ntmps52
    go_wp2_with fail
    refine C.mono ?_
    rintro e w2 ⟨rfl, X2⟩
    go_wp2
    go_ret
    exact ⟨rfl, X2⟩
  · have h2 : ¬ z ≤ 0 := by omega
    rw [if_neg (by omega)]
    go_enter Try.func52, Try.ntmps52
    go_wp2_with fail
    refine C.mono ?_
    rintro e w2 ⟨rfl, X2⟩
    go_wp2
    go_ret
    exact ⟨rfl, X2⟩
theorem eFind (b N : Nat) (L : List ByteArray) (s : ByteArray) (w : World) (h : StrV w b L) (hN : N = L.length) (hN8 : N ≤ 100) : Calls Try.prog 52 #[.slice (some ⟨b, 0, none⟩) N N, .string s] w fun e w' => e = .returned (.int .i64 (fnd L s)) ∧ Ext w w' := by
  refine eFind0 _ s _ w (indexS b N L s w h hN hN8) ?_
  rcases ixF_spec s L 0 with h | ⟨j, hj, h, _⟩
  · exact .inl h
  · right; rw [h]; omega
theorem str8 {w : World} {b : Nat} {s0 s1 s2 s3 s4 s5 s6 s7 : ByteArray} (h0 : w.cell? ⟨b, 0, none⟩ = some (.string s0)) (h1 : w.cell? ⟨b, 1, none⟩ = some (.string s1)) (h2 : w.cell? ⟨b, 2, none⟩ = some (.string s2)) (h3 : w.cell? ⟨b, 3, none⟩ = some (.string s3)) (h4 : w.cell? ⟨b, 4, none⟩ = some (.string s4)) (h5 : w.cell? ⟨b, 5, none⟩ = some (.string s5)) (h6 : w.cell? ⟨b, 6, none⟩ = some (.string s6)) (h7 : w.cell? ⟨b, 7, none⟩ = some (.string s7)) : StrV w b [s0, s1, s2, s3, s4, s5, s6, s7] := by
  intro j hj
  match j, hj with
  | 0, _ => exact h0
  | 1, _ => exact h1
  | 2, _ => exact h2
  | 3, _ => exact h3
  | 4, _ => exact h4
  | 5, _ => exact h5
  | 6, _ => exact h6
  | 7, _ => exact h7
  | j + 8, hj => simp at hj; omega
theorem str7 {w : World} {b : Nat} {s0 s1 s2 s3 s4 s5 s6 : ByteArray} (h0 : w.cell? ⟨b, 0, none⟩ = some (.string s0)) (h1 : w.cell? ⟨b, 1, none⟩ = some (.string s1)) (h2 : w.cell? ⟨b, 2, none⟩ = some (.string s2)) (h3 : w.cell? ⟨b, 3, none⟩ = some (.string s3)) (h4 : w.cell? ⟨b, 4, none⟩ = some (.string s4)) (h5 : w.cell? ⟨b, 5, none⟩ = some (.string s5)) (h6 : w.cell? ⟨b, 6, none⟩ = some (.string s6)) : StrV w b [s0, s1, s2, s3, s4, s5, s6] := by
  intro j hj
  match j, hj with
  | 0, _ => exact h0
  | 1, _ => exact h1
  | 2, _ => exact h2
  | 3, _ => exact h3
  | 4, _ => exact h4
  | 5, _ => exact h5
  | 6, _ => exact h6
  | j + 7, hj => simp at hj; omega
set_option maxRecDepth 100000 in
theorem eWord (n : Int) (w : World) : Calls Try.prog 28 #[.int .i64 n] w fun e w' => e = .returned (.string (wAt kL n)) ∧ Ext w w' := by
  go_enter Try.func28, Try.ntmps28
  go_wp2_with fail
  refine (kindWords _).mono ?_
  rintro e w2 ⟨rfl, X2⟩
  go_upto_region 2 with (fail)
  refine settle_wp ?_
  intro w3 hb3
  have S : StrV w3 w2.heap.size kL := str8 (hb3.cell (by simp [go_sem])) (hb3.cell (by simp [go_sem])) (hb3.cell (by simp [go_sem])) (hb3.cell (by simp [go_sem])) (hb3.cell (by simp [go_sem])) (hb3.cell (by simp [go_sem])) (hb3.cell (by simp [go_sem])) (hb3.cell (by simp [go_sem]))
  have X3 : Ext w w3 := Ext.trans (Ext.alloc X2 _) hb3
  have C := Lib.hid (eWordAt w2.heap.size 8 kL n w3 S rfl)
  clear S hb3 X2
  go_wp2_with fail
  refine C.out.mono ?_
  rintro e w' ⟨rfl, rfl⟩
  go_wp2
  go_ret
  exact ⟨rfl, X3⟩
set_option maxRecDepth 100000 in
theorem eOpWord (n : Int) (w : World) : Calls Try.prog 30 #[.int .i64 n] w fun e w' => e = .returned (.string (wAt oL n)) ∧ Ext w w' := by
  go_enter Try.func30, Try.ntmps30
  go_wp2_with fail
  refine (opWords _).mono ?_
  rintro e w2 ⟨rfl, X2⟩
  go_upto_region 2 with (fail)
  refine settle_wp ?_
  intro w3 hb3
  have S : StrV w3 w2.heap.size oL := str7 (hb3.cell (by simp [go_sem])) (hb3.cell (by simp [go_sem])) (hb3.cell (by simp [go_sem])) (hb3.cell (by simp [go_sem])) (hb3.cell (by simp [go_sem])) (hb3.cell (by simp [go_sem])) (hb3.cell (by simp [go_sem]))
  have X3 : Ext w w3 := Ext.trans (Ext.alloc X2 _) hb3
  have C := Lib.hid (eWordAt w2.heap.size 7 oL n w3 S rfl)
  clear S hb3 X2
  go_wp2_with fail
  refine C.out.mono ?_
  rintro e w' ⟨rfl, rfl⟩
  go_wp2
  go_ret
  exact ⟨rfl, X3⟩
set_option maxRecDepth 100000 in
theorem eKind (s : ByteArray) (w : World) : Calls Try.prog 32 #[.string s] w fun e w' => e = .returned (.int .i64 (fnd kL s)) ∧ Ext w w' := by
  go_enter Try.func32, Try.ntmps32
  go_wp2_with fail
  refine (kindWords _).mono ?_
  rintro e w2 ⟨rfl, X2⟩
  go_upto_region 2 with (fail)
  refine settle_wp ?_
  intro w3 hb3
  have S : StrV w3 w2.heap.size kL := str8 (hb3.cell (by simp [go_sem])) (hb3.cell (by simp [go_sem])) (hb3.cell (by simp [go_sem])) (hb3.cell (by simp [go_sem])) (hb3.cell (by simp [go_sem])) (hb3.cell (by simp [go_sem])) (hb3.cell (by simp [go_sem])) (hb3.cell (by simp [go_sem]))
  have X3 : Ext w w3 := Ext.trans (Ext.alloc X2 _) hb3
  have C := Lib.hid (eFind w2.heap.size 8 kL s w3 S rfl (by decide))
  clear S hb3 X2
  go_wp2_with fail
  refine C.out.mono ?_
  rintro e w4 ⟨rfl, X4⟩
  go_wp2
  go_ret
  exact ⟨rfl, X3.trans X4⟩
set_option maxRecDepth 100000 in
theorem eOp (s : ByteArray) (w : World) : Calls Try.prog 33 #[.string s] w fun e w' => e = .returned (.int .i64 (fnd oL s)) ∧ Ext w w' := by
  go_enter Try.func33, Try.ntmps33
  go_wp2_with fail
  refine (opWords _).mono ?_
  rintro e w2 ⟨rfl, X2⟩
  go_upto_region 2 with (fail)
  refine settle_wp ?_
  intro w3 hb3
  have S : StrV w3 w2.heap.size oL := str7 (hb3.cell (by simp [go_sem])) (hb3.cell (by simp [go_sem])) (hb3.cell (by simp [go_sem])) (hb3.cell (by simp [go_sem])) (hb3.cell (by simp [go_sem])) (hb3.cell (by simp [go_sem])) (hb3.cell (by simp [go_sem]))
  have X3 : Ext w w3 := Ext.trans (Ext.alloc X2 _) hb3
  have C := Lib.hid (eFind w2.heap.size 7 oL s w3 S rfl (by decide))
  clear S hb3 X2
  go_wp2_with fail
  refine C.out.mono ?_
  rintro e w4 ⟨rfl, X4⟩
  go_wp2
  go_ret
  exact ⟨rfl, X3.trans X4⟩
set_option maxRecDepth 100000 in
theorem rWord (n : Int) (w : World) : Calls Try.prog 29 #[.int .i64 n] w fun e w' => e = .returned (.string (wAt kL n)) ∧ Ext w w' := by
  by_cases h0 : n < 1
  · rw [show wAt kL n = ⟨#[]⟩ by
      unfold wAt
      by_cases h : 0 ≤ n
      · obtain rfl : n = 0 := by omega
        rfl
      · rw [if_neg (by omega)]]
    go_enter Try.func29, Try.ntmps29
    go_wp2
    go_ret
    refine ⟨rfl, ?_⟩
    repeat (first | with_reducible exact Ext.refl _ | with_reducible assumption | with_reducible refine Ext.alloc ?_ _ | with_reducible refine Ext.drew ?_ | with_reducible refine Ext.drewN ?_ _ | with_reducible refine Ext.setCell ?_ (by simp <;> omega) _ | with_reducible refine Ext.trans ?_ (by assumption))
  by_cases h1 : 7 < n
  · rw [show wAt kL n = ⟨#[]⟩ by
      unfold wAt
      rw [if_neg (by simp [kL]; omega)]]
    go_enter Try.func29, Try.ntmps29
    go_wp2
    go_ret
    refine ⟨rfl, ?_⟩
    repeat (first | with_reducible exact Ext.refl _ | with_reducible assumption | with_reducible refine Ext.alloc ?_ _ | with_reducible refine Ext.drew ?_ | with_reducible refine Ext.drewN ?_ _ | with_reducible refine Ext.setCell ?_ (by simp <;> omega) _ | with_reducible refine Ext.trans ?_ (by assumption))
  have hn : n = 1 ∨ n = 2 ∨ n = 3 ∨ n = 4 ∨ n = 5 ∨ n = 6 ∨ n = 7 := by omega
  rcases hn with rfl | rfl | rfl | rfl | rfl | rfl | rfl
  all_goals
    go_enter Try.func29, Try.ntmps29
    go_wp2
    go_ret
    refine ⟨rfl, ?_⟩
    repeat (first | with_reducible exact Ext.refl _ | with_reducible assumption | with_reducible refine Ext.alloc ?_ _ | with_reducible refine Ext.drew ?_ | with_reducible refine Ext.drewN ?_ _ | with_reducible refine Ext.setCell ?_ (by simp <;> omega) _ | with_reducible refine Ext.trans ?_ (by assumption))
set_option maxRecDepth 100000 in
theorem rOpWord (n : Int) (w : World) : Calls Try.prog 31 #[.int .i64 n] w fun e w' => e = .returned (.string (wAt oL n)) ∧ Ext w w' := by
  by_cases h0 : n < 1
  · rw [show wAt oL n = ⟨#[]⟩ by
      unfold wAt
      by_cases h : 0 ≤ n
      · obtain rfl : n = 0 := by omega
        rfl
      · rw [if_neg (by omega)]]
    go_enter Try.func31, Try.ntmps31
    go_wp2
    go_ret
    refine ⟨rfl, ?_⟩
    repeat (first | with_reducible exact Ext.refl _ | with_reducible assumption | with_reducible refine Ext.alloc ?_ _ | with_reducible refine Ext.drew ?_ | with_reducible refine Ext.drewN ?_ _ | with_reducible refine Ext.setCell ?_ (by simp <;> omega) _ | with_reducible refine Ext.trans ?_ (by assumption))
  by_cases h1 : 6 < n
  · rw [show wAt oL n = ⟨#[]⟩ by
      unfold wAt
      rw [if_neg (by simp [oL]; omega)]]
    go_enter Try.func31, Try.ntmps31
    go_wp2
    go_ret
    refine ⟨rfl, ?_⟩
    repeat (first | with_reducible exact Ext.refl _ | with_reducible assumption | with_reducible refine Ext.alloc ?_ _ | with_reducible refine Ext.drew ?_ | with_reducible refine Ext.drewN ?_ _ | with_reducible refine Ext.setCell ?_ (by simp <;> omega) _ | with_reducible refine Ext.trans ?_ (by assumption))
  have hn : n = 1 ∨ n = 2 ∨ n = 3 ∨ n = 4 ∨ n = 5 ∨ n = 6 := by omega
  rcases hn with rfl | rfl | rfl | rfl | rfl | rfl
  all_goals
    go_enter Try.func31, Try.ntmps31
    go_wp2
    go_ret
    refine ⟨rfl, ?_⟩
    repeat (first | with_reducible exact Ext.refl _ | with_reducible assumption | with_reducible refine Ext.alloc ?_ _ | with_reducible refine Ext.drew ?_ | with_reducible refine Ext.drewN ?_ _ | with_reducible refine Ext.setCell ?_ (by simp <;> omega) _ | with_reducible refine Ext.trans ?_ (by assumption))
end Go.Proofs.Ytkbbneknblnbnaa

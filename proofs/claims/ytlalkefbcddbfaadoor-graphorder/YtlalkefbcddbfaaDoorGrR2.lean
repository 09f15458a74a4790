/- The document's Above, Below and Ends of layer 9. -/
import Derived.Test.YtlalkefbcddbfaaDoorGrR
namespace Go.Proofs.YtlalkefbcddbfaaDoor
open Go.RowKit
set_option linter.unusedVariables false
set_option maxHeartbeats 1000000
def rAboveP (ups : List (List Int)) (c k : Nat) : Bool := tab ups (c * 6 + k)
set_option maxRecDepth 100000 in
theorem rAbove (v : Value) (ups : List (List Int)) (c : Nat) (w : World) (rt : Rt ups) (hL : ListsV w v ups) (hll : ∀ l ∈ ups, l.length ≤ 1000000) (hc : c < ups.length) :
    Calls Tryd.prog 23 #[v, .int .i64 c] w (GivesI w (sel ups.length (rAboveP ups c))) := by
  have CO := Lib.hid (rOf9 v ups w rt.nms rt.six hL hll)
  have h6 := rt.six
  obtain ⟨a, cap, e, -⟩ := id hL
  subst e
  clear hL hll
  obtain ⟨n, hN⟩ : ∃ n, n = ups.length := ⟨_, rfl⟩
  rw [← hN] at hc h6 CO ⊢
  clear hN rt
  generalize hG : GivesI w (sel n (rAboveP ups c)) = G
  have HG := Lib.hid hG
  clear hG
  go_enter Tryd.func23, Tryd.ntmps23
  go_wp2_with fail
  refine CO.out.mono ?_
  rintro e w3 ⟨rfl, hx3⟩
  go_wp2_with (with_reducible refine wpList_store_mid rfl _ (.tmp 5) (.tmp 9) rfl w3.heap.size 0 (vl 36 (vb (tab ups))).toArray rfl rfl ?ht ?hi ?h1 ?_)
  case ht =>
    rw [show (vl 36 (vb (tab ups))).toArray.size = 36 by simp [vl_len]]
    exact (va_new (n := 36) w3 44 #[.bool false, .bool false, .bool false, .bool false, .bool false, .bool false, .bool false, .bool false, .bool false, .bool false, .bool false, .bool false, .bool false, .bool false, .bool false, .bool false, .bool false, .bool false, .bool false, .bool false, .bool false, .bool false, .bool false, .bool false, .bool false, .bool false, .bool false, .bool false, .bool false, .bool false, .bool false, .bool false, .bool false, .bool false, .bool false, .bool false] (vb fun _ => false) rfl).there
  case hi => rw [show (vl 36 (vb (tab ups))).toArray.size = 36 by simp [vl_len]]; exact T_size
  case h1 => exact vb_one _
  have b3 := va_setCells (va_new (n := 36) w3 44 #[.bool false, .bool false, .bool false, .bool false, .bool false, .bool false, .bool false, .bool false, .bool false, .bool false, .bool false, .bool false, .bool false, .bool false, .bool false, .bool false, .bool false, .bool false, .bool false, .bool false, .bool false, .bool false, .bool false, .bool false, .bool false, .bool false, .bool false, .bool false, .bool false, .bool false, .bool false, .bool false, .bool false, .bool false, .bool false, .bool false] (vb fun _ => false) rfl) (vb (tab ups)) (vl 36 (vb (tab ups))).toArray.toList rfl
  have X1 := ext_setCells (a := w) w3.heap.size hx3.size (vl 36 (vb (tab ups))).toArray.toList 0 _ (hx3.alloc (.cells #[.bool false, .bool false, .bool false, .bool false, .bool false, .bool false, .bool false, .bool false, .bool false, .bool false, .bool false, .bool false, .bool false, .bool false, .bool false, .bool false, .bool false, .bool false, .bool false, .bool false, .bool false, .bool false, .bool false, .bool false, .bool false, .bool false, .bool false, .bool false, .bool false, .bool false, .bool false, .bool false, .bool false, .bool false, .bool false, .bool false] 44))
  simp only [] at b3 X1
  generalize (w3.alloc (.cells #[.bool false, .bool false, .bool false, .bool false, .bool false, .bool false, .bool false, .bool false, .bool false, .bool false, .bool false, .bool false, .bool false, .bool false, .bool false, .bool false, .bool false, .bool false, .bool false, .bool false, .bool false, .bool false, .bool false, .bool false, .bool false, .bool false, .bool false, .bool false, .bool false, .bool false, .bool false, .bool false, .bool false, .bool false, .bool false, .bool false] 44)).setCells w3.heap.size 0 _ = w4 at *
  have HX1 := Lib.hid X1
  have HB3 := Lib.hid b3
  clear X1 b3
  go_wp2
  go_loopw [6, 7] (fun v i wr => ∃ k : Nat, k ≤ n ∧ i = .int .i64 k ∧ RI wr w4.heap.size v (sel k (rAboveP ups c)) ∧ Ext w4 wr) (fun _ i _ => n - (intOf i).toNat)
  case atStart => exact ⟨0, Nat.zero_le _, rfl, RI.nil _ _, Ext.refl _⟩
  case round =>
    obtain ⟨k, hk, rfl, hR, hx⟩ := hrel
    by_cases hlt : k < n
    · have hkn : (k : Int) < (n : Int) := by omega
      have hk6 : (k : Int) < 6 := by omega
      have hc6 : (c : Int) < 6 := by omega
      have q0 := HB3.out.c (c * 6 + k) (by omega)
      simp only [vb] at q0
      have q := hx.cell q0
      have hsl := sel_len k (rAboveP ups c)
      have hP : tab ups (c * 6 + k) = rAboveP ups c k := rfl
      rw [hP] at q
      cases hb : rAboveP ups c k
      · have HS := Lib.hid (sel_snoc_no (n := k) (p := rAboveP ups c) hb)
        rw [hb] at q
        have HR := Lib.hid hR
        have HX := Lib.hid hx
        clear hR hx q0 hb hP
        go_wp2
        exact ⟨⟨k + 1, by omega, by go_num, by rw [HS.out]; exact HR.out, HX.out⟩, by simp [intOf]; omega⟩
      · have HS := Lib.hid (sel_snoc_yes (n := k) (p := rAboveP ups c) hb)
        rw [hb] at q
        have HR := Lib.hid hR
        have HX := Lib.hid hx
        clear hR hx q0 hb hP
        generalize sel k (rAboveP ups c) = s1 at *
        go_wp2_with (at_builtin; refine app9 _ rfl _ _ rfl w4 _ s1 rfl (HR.out.ext ((Ext.refl wr).alloc _)) (HX.out.alloc _) wr.heap.size (k : Int) rfl (by simp [go_sem]) (by omega) ?_)
        intro v' w' hR' hX' _
        have HR2 := Lib.hid hR'
        have HX2 := Lib.hid hX'
        clear hR' hX'
        go_wp2
        exact ⟨⟨k + 1, by omega, by go_num, by rw [HS.out]; exact HR2.out, HX2.out⟩, by simp [intOf]; omega⟩
    · obtain rfl : k = n := by omega
      have HG2 : Hid (G (.returned _) wr) := Lib.hid (by rw [← HG.out]; exact ⟨_, rfl, hR.lower HX1.out.size, HX1.out.trans hx⟩)
      clear hR hx
      go_wp2
      exact HG2.out
def rBelowP (ups : List (List Int)) (c k : Nat) : Bool := tab ups (k * 6 + c)
set_option maxRecDepth 100000 in
theorem rBelow (v : Value) (ups : List (List Int)) (c : Nat) (w : World) (rt : Rt ups) (hL : ListsV w v ups) (hll : ∀ l ∈ ups, l.length ≤ 1000000) (hc : c < ups.length) :
    Calls Tryd.prog 24 #[v, .int .i64 c] w (GivesI w (sel ups.length (rBelowP ups c))) := by
  have CO := Lib.hid (rOf9 v ups w rt.nms rt.six hL hll)
  have h6 := rt.six
  obtain ⟨a, cap, e, -⟩ := id hL
  subst e
  clear hL hll
  obtain ⟨n, hN⟩ : ∃ n, n = ups.length := ⟨_, rfl⟩
  rw [← hN] at hc h6 CO ⊢
  clear hN rt
  generalize hG : GivesI w (sel n (rBelowP ups c)) = G
  have HG := Lib.hid hG
  clear hG
  go_enter Tryd.func24, Tryd.ntmps24
  go_wp2_with fail
  refine CO.out.mono ?_
  rintro e w3 ⟨rfl, hx3⟩
  go_wp2_with (with_reducible refine wpList_store_mid rfl _ (.tmp 5) (.tmp 9) rfl w3.heap.size 0 (vl 36 (vb (tab ups))).toArray rfl rfl ?ht ?hi ?h1 ?_)
  case ht =>
    rw [show (vl 36 (vb (tab ups))).toArray.size = 36 by simp [vl_len]]
    exact (va_new (n := 36) w3 44 #[.bool false, .bool false, .bool false, .bool false, .bool false, .bool false, .bool false, .bool false, .bool false, .bool false, .bool false, .bool false, .bool false, .bool false, .bool false, .bool false, .bool false, .bool false, .bool false, .bool false, .bool false, .bool false, .bool false, .bool false, .bool false, .bool false, .bool false, .bool false, .bool false, .bool false, .bool false, .bool false, .bool false, .bool false, .bool false, .bool false] (vb fun _ => false) rfl).there
  case hi => rw [show (vl 36 (vb (tab ups))).toArray.size = 36 by simp [vl_len]]; exact T_size
  case h1 => exact vb_one _
  have b3 := va_setCells (va_new (n := 36) w3 44 #[.bool false, .bool false, .bool false, .bool false, .bool false, .bool false, .bool false, .bool false, .bool false, .bool false, .bool false, .bool false, .bool false, .bool false, .bool false, .bool false, .bool false, .bool false, .bool false, .bool false, .bool false, .bool false, .bool false, .bool false, .bool false, .bool false, .bool false, .bool false, .bool false, .bool false, .bool false, .bool false, .bool false, .bool false, .bool false, .bool false] (vb fun _ => false) rfl) (vb (tab ups)) (vl 36 (vb (tab ups))).toArray.toList rfl
  have X1 := ext_setCells (a := w) w3.heap.size hx3.size (vl 36 (vb (tab ups))).toArray.toList 0 _ (hx3.alloc (.cells #[.bool false, .bool false, .bool false, .bool false, .bool false, .bool false, .bool false, .bool false, .bool false, .bool false, .bool false, .bool false, .bool false, .bool false, .bool false, .bool false, .bool false, .bool false, .bool false, .bool false, .bool false, .bool false, .bool false, .bool false, .bool false, .bool false, .bool false, .bool false, .bool false, .bool false, .bool false, .bool false, .bool false, .bool false, .bool false, .bool false] 44))
  simp only [] at b3 X1
  generalize (w3.alloc (.cells #[.bool false, .bool false, .bool false, .bool false, .bool false, .bool false, .bool false, .bool false, .bool false, .bool false, .bool false, .bool false, .bool false, .bool false, .bool false, .bool false, .bool false, .bool false, .bool false, .bool false, .bool false, .bool false, .bool false, .bool false, .bool false, .bool false, .bool false, .bool false, .bool false, .bool false, .bool false, .bool false, .bool false, .bool false, .bool false, .bool false] 44)).setCells w3.heap.size 0 _ = w4 at *
  have HX1 := Lib.hid X1
  have HB3 := Lib.hid b3
  clear X1 b3
  go_wp2
  go_loopw [6, 7] (fun v i wr => ∃ k : Nat, k ≤ n ∧ i = .int .i64 k ∧ RI wr w4.heap.size v (sel k (rBelowP ups c)) ∧ Ext w4 wr) (fun _ i _ => n - (intOf i).toNat)
  case atStart => exact ⟨0, Nat.zero_le _, rfl, RI.nil _ _, Ext.refl _⟩
  case round =>
    obtain ⟨k, hk, rfl, hR, hx⟩ := hrel
    by_cases hlt : k < n
    · have hkn : (k : Int) < (n : Int) := by omega
      have hk6 : (k : Int) < 6 := by omega
      have hc6 : (c : Int) < 6 := by omega
      have q0 := HB3.out.c (k * 6 + c) (by omega)
      simp only [vb] at q0
      have q := hx.cell q0
      have hsl := sel_len k (rBelowP ups c)
      have hP : tab ups (k * 6 + c) = rBelowP ups c k := rfl
      rw [hP] at q
      cases hb : rBelowP ups c k
      · have HS := Lib.hid (sel_snoc_no (n := k) (p := rBelowP ups c) hb)
        rw [hb] at q
        have HR := Lib.hid hR
        have HX := Lib.hid hx
        clear hR hx q0 hb hP
        go_wp2
        exact ⟨⟨k + 1, by omega, by go_num, by rw [HS.out]; exact HR.out, HX.out⟩, by simp [intOf]; omega⟩
      · have HS := Lib.hid (sel_snoc_yes (n := k) (p := rBelowP ups c) hb)
        rw [hb] at q
        have HR := Lib.hid hR
        have HX := Lib.hid hx
        clear hR hx q0 hb hP
        generalize sel k (rBelowP ups c) = s1 at *
        go_wp2_with (at_builtin; refine app9 _ rfl _ _ rfl w4 _ s1 rfl (HR.out.ext ((Ext.refl wr).alloc _)) (HX.out.alloc _) wr.heap.size (k : Int) rfl (by simp [go_sem]) (by omega) ?_)
        intro v' w' hR' hX' _
        have HR2 := Lib.hid hR'
        have HX2 := Lib.hid hX'
        clear hR' hX'
        go_wp2
        exact ⟨⟨k + 1, by omega, by go_num, by rw [HS.out]; exact HR2.out, HX2.out⟩, by simp [intOf]; omega⟩
    · obtain rfl : k = n := by omega
      have HG2 : Hid (G (.returned _) wr) := Lib.hid (by rw [← HG.out]; exact ⟨_, rfl, hR.lower HX1.out.size, HX1.out.trans hx⟩)
      clear hR hx
      go_wp2
      exact HG2.out
theorem rEnds (v : Value) (ups : List (List Int)) (w : World) (rt : Rt ups) (hL : ListsV w v ups) (hll : ∀ l ∈ ups, l.length ≤ 1000000) :
    Calls Tryd.prog 20 #[v] w (GivesI w (sel ups.length (fun c => !aheadB ups c))) := by
  have CB := Lib.hid (fun (c : Nat) (hc : c < ups.length) w' (hx : Ext w w') => rBelow v ups c w' rt (hL.ext hx) hll hc)
  have HEQ : Hid (∀ c, c < ups.length → ((sel ups.length (rBelowP ups c)).length = 0 ↔ aheadB ups c = false)) := Lib.hid (fun c hc => ends_eq rt (by have := rt.six; omega))
  have h6 := rt.six
  obtain ⟨a, cap, e, -⟩ := id hL
  subst e
  clear hL hll
  obtain ⟨n, hN⟩ : ∃ n, n = ups.length := ⟨_, rfl⟩
  rw [← hN] at h6 CB HEQ ⊢
  clear hN rt
  generalize hG : GivesI w (sel n (fun c => !aheadB ups c)) = G
  have HG := Lib.hid hG
  clear hG
  go_enter Tryd.func20, Tryd.ntmps20
  go_wp2
  go_loopw [3, 4] (fun v i wr => ∃ k : Nat, k ≤ n ∧ i = .int .i64 k ∧ RI wr w.heap.size v (sel k (fun c => !aheadB ups c)) ∧ Ext w wr) (fun _ i _ => n - (intOf i).toNat)
  case atStart => exact ⟨0, Nat.zero_le _, rfl, RI.nil _ _, Ext.refl _⟩
  case round =>
    obtain ⟨k, hk, rfl, hR, hx⟩ := hrel
    by_cases hlt : k < n
    · have hkn : (k : Int) < (n : Int) := by omega
      have C := Lib.hid (CB.out k hlt wr hx)
      have hsl := sel_len k (fun c => !aheadB ups c)
      have heq := HEQ.out k hlt
      have HR := Lib.hid hR
      have HX := Lib.hid hx
      clear hR hx
      go_wp2_with fail
      refine C.out.mono ?_
      rintro e w2 ⟨v2, rfl, R2, X2⟩
      obtain ⟨a2, cp2, e2, -⟩ := R2.ints.form
      subst e2
      have HR2 := Lib.hid (HR.out.ext X2)
      have HX2 := Lib.hid (HX.out.trans X2)
      have hbl := sel_len n (rBelowP ups k)
      clear R2 X2 HR HX
      generalize (sel n (rBelowP ups k)).length = m at *
      by_cases h0 : m = 0
      · have HS := Lib.hid (sel_snoc_yes (n := k) (p := fun c => !aheadB ups c) (by rw [heq.1 h0]; rfl))
        have d : ((m : Int) == 0) = true := by simpa using h0
        clear heq h0
        generalize sel k (fun c => !aheadB ups c) = s1 at *
        go_wp2_with (at_builtin; refine app9 _ rfl _ _ rfl w _ s1 rfl (HR2.out.ext ((Ext.refl w2).alloc _)) (HX2.out.alloc _) w2.heap.size (k : Int) rfl (by simp [go_sem]) (by omega) ?_)
        intro v' w' hR' hX' _
        have HR3 := Lib.hid hR'
        have HX3 := Lib.hid hX'
        clear hR' hX'
        go_wp2
        exact ⟨⟨k + 1, by omega, by go_num, by rw [HS.out]; exact HR3.out, HX3.out⟩, by simp [intOf]; omega⟩
      · have hah : aheadB ups k = true := by
          cases e : aheadB ups k with
          | true => rfl
          | false => exact absurd (heq.2 e) h0
        have HS := Lib.hid (sel_snoc_no (n := k) (p := fun c => !aheadB ups c) (by rw [hah]; rfl))
        have d : ((m : Int) == 0) = false := by simpa using h0
        clear heq h0 hah
        go_wp2
        exact ⟨⟨k + 1, by omega, by go_num, by rw [HS.out]; exact HR2.out, HX2.out⟩, by simp [intOf]; omega⟩
    · obtain rfl : k = n := by omega
      have HG2 : Hid (G (.returned _) wr) := Lib.hid (by rw [← HG.out]; exact ⟨_, rfl, hR, hx⟩)
      clear hR hx
      go_wp2
      exact HG2.out
end Go.Proofs.YtlalkefbcddbfaaDoor

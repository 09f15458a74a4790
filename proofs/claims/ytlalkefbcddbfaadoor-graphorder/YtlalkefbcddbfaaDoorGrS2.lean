/- The library's stable sort of a few numbers; graph's Order. -/
import Derived.Test.YtlalkefbcddbfaaDoorGrS
namespace Go.Proofs.YtlalkefbcddbfaaDoor
open Go.RowKit
set_option linter.unusedVariables false
set_option maxHeartbeats 1000000
/-- it comes back, and then -/
def Comes (R : World → Prop) (e : Ending) (W' : World) : Prop := (∃ v, e = .returned v) ∧ R W'
theorem insSort0 (a : Option Addr) (cap : Nat) (f c : Value) (W : World) (R : World → Prop) (h : R W) : Calls Tryd.prog 57 #[.slice a 0 cap, .int .i64 0, .int .i64 0, .func (.func 37) #[] #[c]] W (Comes R) := by
  have H := Lib.hid h
  clear h
  go_enter Tryd.func57, Tryd.ntmps57
  go_wp2
  refine wp_loop_rounds 1 ?_
  rw [rounds_succ]
  go_wp2
  go_end0
  exact ⟨⟨_, rfl⟩, H.out⟩
theorem stabSort (a : Option Addr) (n cap : Nat) (c : Value) (W : World) (R : World → Prop) (hn : n ≤ 6) (h : Calls Tryd.prog 57 #[.slice a n cap, .int .i64 0, .int .i64 n, .func (.func 37) #[] #[c]] W (Comes R)) :
    Calls Tryd.prog 51 #[.slice a n cap, .int .i64 n, .func (.func 37) #[] #[c]] W (Comes R) := by
  have H := Lib.hid h
  clear h
  have d1 : ¬ (20 : Int) ≤ (n : Int) := by omega
  have d2 : ¬ (20 : Int) < (n : Int) := by omega
  go_enter Tryd.func51, Tryd.ntmps51
  go_wp2
  refine wp_loop_rounds 1 ?_
  rw [rounds_succ]
  go_wp2_with fail
  refine H.out.mono ?_
  rintro e W1 ⟨⟨v, rfl⟩, hR⟩
  have HR := Lib.hid hR
  clear hR
  go_wp2
  refine wp_loop_rounds 1 ?_
  rw [rounds_succ]
  go_wp2
  go_end0
  exact ⟨⟨_, rfl⟩, HR.out⟩
theorem sortF (a : Option Addr) (n cap : Nat) (c : Value) (W : World) (R : World → Prop) (hn : n ≤ 6) (h : Calls Tryd.prog 57 #[.slice a n cap, .int .i64 0, .int .i64 n, .func (.func 37) #[] #[c]] W (Comes R)) :
    Calls Tryd.prog 36 #[.slice a n cap, .func (.func 37) #[] #[c]] W (Comes R) := by
  have H := Lib.hid (stabSort a n cap c W R hn h)
  clear h
  go_enter Tryd.func36, Tryd.ntmps36
  go_wp2_with fail
  refine H.out.mono ?_
  rintro e W1 ⟨⟨v, rfl⟩, hR⟩
  have HR := Lib.hid hR
  clear hR
  go_wp2
  go_end0
  exact ⟨⟨_, rfl⟩, HR.out⟩
theorem gOrder (v : Value) (ups : List (List Int)) (w : World) (hL : ListsV w v ups) (hll : ∀ l ∈ ups, l.length ≤ 1000000) (hn : ups.length ≤ 1000000) (hT : Tab w) :
    Calls Tryd.prog 15 #[v] w (GivesI w (if chk ups = 0 then listI (ordN (dep ups) ups.length) else [])) := by
  have CA := Lib.hid (fun w' (hx : Ext w w') => g9all v ups w' (hL.ext hx) hll hn)
  have hx := allW_lt ups
  have HT := Lib.hid hT
  have CLs := Lib.hid (fun w' (hx' : Ext w w') => gListI (allW ups) w' (by omega) (HT.out.ext hx'))
  have HL := Lib.hid hL
  have HLL := Lib.hid hll
  obtain ⟨a, cap, e, -⟩ := id hL
  subst e
  clear hT hL hll
  by_cases hc : chk ups = 0
  · rw [if_pos hc]
    have rt := chk_zero.1 hc
    have h6 := rt.six
    have e1 : (bitsOf (allW ups)).map (fun (i : Nat) => (i : Int)) = listI (List.range ups.length) := by
      unfold allW
      rw [if_pos hc, bits_full h6]
      rfl
    rw [e1] at CLs
    have HI := Lib.hid (fun w0 (hL : ListsV w0 (.slice a ups.length cap) ups) ub hub g cap' W hE hR => insSort ups rt (.slice a ups.length cap) w0 hL HLL.out ub hub ups.length rfl g cap' W hE hR)
    have hpos := rt.pos
    clear e1 hc rt hx
    generalize allW ups = x at *
    generalize hG : GivesI w (listI (ordN (dep ups) ups.length)) = G
    have HG := Lib.hid hG
    clear hG
    go_enter Tryd.func15, Tryd.ntmps15
    go_wp2_with fail
    refine (CA.out _ ((Ext.refl w).alloc _)).mono ?_
    rintro e w1 ⟨rfl, X1⟩
    have q1 : w1.cell? ⟨w.heap.size, 0, none⟩ = some (.slice a ups.length cap) := X1.cell (by simp [go_sem])
    have E1 : Ext w w1 := ((Ext.refl w).alloc _).trans X1
    clear X1
    go_wp2_with fail
    refine (CLs.out _ E1).mono ?_
    rintro e w2 ⟨v2, rfl, R2, X2⟩
    rcases R2.2 with ⟨e2, e3⟩ | ⟨g, cp2, cur, e2, -⟩
    · exfalso
      rw [listI_len, List.length_range] at e3
      omega
    subst e2
    have HR2 := Lib.hid R2
    have q2 := X2.cell q1
    have HX2 := Lib.hid X2
    have hln : (listI (List.range ups.length)).length = ups.length := by rw [listI_len, List.length_range]
    rw [hln]
    rw [hln] at HR2
    clear R2 X2 hln
    go_wp2_with fail
    refine (sortF (some ⟨g, 0, none⟩) ups.length cp2 (.pointer (some ⟨w.heap.size, 0, none⟩)) w2 (fun W' => RI W' w1.heap.size (.slice (some ⟨g, 0, none⟩) ups.length cp2) (listI (ordN (dep ups) ups.length)) ∧ Ext w1 W') h6 ?_).mono ?_
    · exact HI.out w1 (HL.out.ext E1) w.heap.size q1 g cp2 w2 HX2.out HR2.out
    rintro e W3 ⟨⟨v3, rfl⟩, R3, X3⟩
    have HG2 : Hid (G (.returned (.slice (some ⟨g, 0, none⟩) ups.length cp2)) W3) := Lib.hid (by rw [← HG.out]; exact ⟨_, rfl, R3.lower E1.size, E1.trans X3⟩)
    clear R3 X3
    go_wp2
    exact HG2.out
  · rw [if_neg hc]
    have e1 : (bitsOf (allW ups)).map (fun (i : Nat) => (i : Int)) = [] := by
      unfold allW
      rw [if_neg hc, bits_zero]
      rfl
    rw [e1] at CLs
    clear e1 hc hx
    generalize allW ups = x at *
    generalize hG : GivesI w [] = G
    have HG := Lib.hid hG
    clear hG
    go_enter Tryd.func15, Tryd.ntmps15
    go_wp2_with fail
    refine (CA.out _ ((Ext.refl w).alloc _)).mono ?_
    rintro e w1 ⟨rfl, X1⟩
    have q1 : w1.cell? ⟨w.heap.size, 0, none⟩ = some (.slice a ups.length cap) := X1.cell (by simp [go_sem])
    have E1 : Ext w w1 := ((Ext.refl w).alloc _).trans X1
    clear X1
    go_wp2_with fail
    refine (CLs.out _ E1).mono ?_
    rintro e w2 ⟨v2, rfl, R2, X2⟩
    obtain ⟨a2, cp2, e2, -⟩ := R2.ints.form
    subst e2
    have HR2 := Lib.hid R2
    have HX2 := Lib.hid X2
    clear R2 X2
    rw [show ([] : List Int).length = 0 from rfl] at HR2 ⊢
    go_wp2_with fail
    refine (sortF a2 0 cp2 (.pointer (some ⟨w.heap.size, 0, none⟩)) w2 (fun W' => RI W' w1.heap.size (.slice a2 0 cp2) [] ∧ Ext w1 W') (by omega) ?_).mono ?_
    · exact insSort0 a2 cp2 .nilFunc _ w2 _ ⟨HR2.out, HX2.out⟩
    rintro e W3 ⟨⟨v3, rfl⟩, R3, X3⟩
    have HG2 : Hid (G (.returned (.slice a2 0 cp2)) W3) := Lib.hid (by rw [← HG.out]; exact ⟨_, rfl, R3.lower E1.size, E1.trans X3⟩)
    clear R3 X3
    go_wp2
    exact HG2.out
end Go.Proofs.YtlalkefbcddbfaaDoor

/- The document's Roots, Above, Below and Ends of layer 9. -/
import Derived.Test.YtlalkefbcddbfaaDoorGr9
import Derived.Test.YtlalkefbcddbfaaDoorGrCopy
import Derived.Test.YtlalkefbcddbfaaDoorGrF2
namespace Go.Proofs.YtlalkefbcddbfaaDoor
open Go.RowKit
set_option linter.unusedVariables false
set_option maxHeartbeats 1000000
/-- 'out = append(out, z)' of a row of numbers of the call's own -/
theorem app9 {ops : Array Oper} {rest : List Oper} {o : Oper} {a : Act} {Q : Exit → Act → World → Prop} (w : World) (hgd : o.guard = none) (s x : Operand)
    (ho : o.op = .call { callee := .builtin .append, args := #[s, x], argTypes := #[27, 27] })
    (W : World) (v : Value) (xs : List Int) (hs : a.eval s = v) (hown : RI w W.heap.size v xs) (hW : Ext W w) (g : Nat) (z : Int) (hx : a.eval x = .slice (some ⟨g, 0, none⟩) 1 1) (hcell : w.cell? ⟨g, 0, none⟩ = some (.int .i64 z)) (hl : xs.length ≤ 1000000)
    (h : ∀ v' w', RI w' W.heap.size v' (xs ++ [z]) → Ext W w' → But (fun k => v.ownBlock = some k) w w' → wpList Tryd.prog ops Q rest (a.put o.dst v') w') : wpList Tryd.prog ops Q (o :: rest) a w := by
  obtain ⟨i0, hi, hz0, hz1, hz2⟩ := info_parts info_int9
  refine wpList_append_own w hgd s x 27 ho W.heap.size 3 i0 (.int .i64 0) 1 8 Tryd.underlying27 hi hz0 hz1 hz2 rfl (by decide) v xs.length (xs.map (Value.int .i64)) hs hown ⟨g, 0, none⟩ 1 1 [.int .i64 z] hx rfl ?_ ?_ ?_ ?_ ?_ ?_
  · intro j u hu
    match j, hu with
    | 0, hu =>
      simp at hu
      subst hu
      simpa [Addr.add] using hcell
  · intro u hu; simp at hu; subst hu; rfl
  · unfold maxLen; omega
  · omega
  · exact hW.size
  · intro v' w' h1 h2 _
    refine h v' w' ?_ (hW.grown h2 fun j hj => (World.ownsRow.lt hown j hj).1) (but_grown h2)
    unfold RI
    rw [List.length_append, List.map_append]
    exact h1
theorem sel_snoc_yes {n : Nat} {p : Nat → Bool} (h : p n = true) : sel (n + 1) p = sel n p ++ [(n : Int)] := by
  unfold sel
  rw [List.range_succ, List.filter_append, List.map_append]
  simp [h]
theorem sel_snoc_no {n : Nat} {p : Nat → Bool} (h : p n = false) : sel (n + 1) p = sel n p := by
  unfold sel
  rw [List.range_succ, List.filter_append, List.map_append]
  simp [h]
theorem RI.nil (w : World) (base : Nat) : RI w base (.slice none 0 0) [] := World.ownsRow_nil _ _ _ _
theorem rRoots (v : Value) (ups : List (List Int)) (w : World) (hL : ListsV w v ups) (hll : ∀ l ∈ ups, l.length ≤ 1000000) (hn : ups.length ≤ 1000000) :
    Calls Tryd.prog 19 #[v] w (GivesI w (sel ups.length (isE ups))) := by
  have HL := Lib.hid hL
  have hll5 : ∀ k, k < ups.length → (ups.getD k []).length ≤ 1000000 := fun k hk => hll _ (by rw [show ups.getD k [] = ups[k] by simp [hk]]; exact List.getElem_mem hk)
  have HLL := Lib.hid hll5
  obtain ⟨a, cap, e, -⟩ := id hL
  subst e
  clear hL hll hll5
  obtain ⟨n, hN⟩ : ∃ n, n = ups.length := ⟨_, rfl⟩
  rw [← hN] at hn ⊢
  have HE := Lib.hid hN
  generalize hG : GivesI w (sel n (isE ups)) = G
  have HG := Lib.hid hG
  clear hN hG
  go_enter Tryd.func19, Tryd.ntmps19
  go_wp2
  go_loopw [3, 4] (fun v i wr => ∃ k : Nat, k ≤ n ∧ i = .int .i64 k ∧ RI wr w.heap.size v (sel k (isE ups)) ∧ Ext w wr) (fun _ i _ => n - (intOf i).toNat)
  case atStart => exact ⟨0, Nat.zero_le _, rfl, RI.nil _ _, Ext.refl _⟩
  case round =>
    obtain ⟨k, hk, rfl, hR, hx⟩ := hrel
    by_cases hlt : k < n
    · have hku : k < ups.length := by have := HE.out; omega
      have hkn : (k : Int) < (n : Int) := by omega
      obtain ⟨b, off, u, cu, ha, q, hI⟩ := HL.out.at hx hku
      subst ha
      have hlen := HLL.out k hku
      have hsl := sel_len k (isE ups)
      obtain ⟨m, hm⟩ : ∃ m, m = (ups.getD k []).length := ⟨_, rfl⟩
      rw [← hm] at q hlen
      by_cases h0 : m = 0
      · have HS := Lib.hid (sel_snoc_yes (n := k) (p := isE ups) (by unfold isE; rw [← hm]; simpa using h0))
        have d : ((m : Int) == 0) = true := by simpa using h0
        have HR := Lib.hid hR
        have HX := Lib.hid hx
        clear hI hm h0 hR hx hku
        generalize sel k (isE ups) = s1 at *
        go_wp2_with (at_builtin; refine app9 _ rfl _ _ rfl w _ s1 rfl (HR.out.ext ((Ext.refl wr).alloc _)) (HX.out.alloc _) wr.heap.size (k : Int) rfl (by simp [go_sem]) (by omega) ?_)
        intro v' w' hR' hX' _
        have HR2 := Lib.hid hR'
        have HX2 := Lib.hid hX'
        clear hR' hX'
        go_wp2
        exact ⟨⟨k + 1, by omega, by go_num, by rw [HS.out]; exact HR2.out, HX2.out⟩, by simp [intOf]; omega⟩
      · have HS := Lib.hid (sel_snoc_no (n := k) (p := isE ups) (by unfold isE; rw [← hm]; simpa using h0))
        have d : ((m : Int) == 0) = false := by simpa using h0
        have HR := Lib.hid hR
        have HX := Lib.hid hx
        clear hI hm h0 hR hx hku
        go_wp2
        exact ⟨⟨k + 1, by omega, by go_num, by rw [HS.out]; exact HR.out, HX.out⟩, by simp [intOf]; omega⟩
    · obtain rfl : k = n := by omega
      have HG2 : Hid (G (.returned _) wr) := Lib.hid (by rw [← HG.out]; exact ⟨_, rfl, hR, hx⟩)
      clear hR hx
      go_wp2
      exact HG2.out
end Go.Proofs.YtlalkefbcddbfaaDoor

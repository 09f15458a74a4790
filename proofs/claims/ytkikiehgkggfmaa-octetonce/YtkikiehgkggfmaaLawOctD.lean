/- Layer 7: OctetOnce. -/
import Derived.Test.YtkikiehgkggfmaaLawOctC
import Derived.Deep.RegionHeld
namespace Go.Proofs.Ytkikiehgkggfmaa
open Go.RowKit
set_option linter.unusedVariables false
set_option maxHeartbeats 4000000
attribute [local go_sem] later_cell later_frozen later_const
theorem octetOnce_walk (a : Option Addr) (len cap : Nat) (zs : List Int) (w : World) (h : IsRow .u8 w a len cap zs) :
    Calls Try.prog 6 #[.slice a len cap] w fun e w' => e = .returned (.bool true) ∧ Below w.heap.size w w' := by
  by_cases hl : 2000 < len
  · have d1 : decide (2000 < (len : Int)) = true := by simp; omega
    clear h hl
    go_enter Try.func6, Try.ntmps6
    go_wp2_with fail
    refine (live7 _).mono ?_
    rintro e w1 ⟨rfl, X1⟩
    go_wp2
    go_ret
    exact ⟨rfl, X1.below⟩
  · obtain ⟨l, hv, hlen⟩ := bytesV_of_row h
    have hcap := row_cap h
    have hnc : len ≤ cap := by
      rcases h with ⟨_, rfl, rfl, _⟩ | ⟨x, _, hl2, _⟩
      · exact Nat.le_refl _
      · exact hl2
    have hc2 : ∀ (w' : World) a' n c, Value.slice a len cap = .slice a' n c → c ≤ maxLen := fun _ a' n c e => by injection e with _ _ e; omega
    suffices HS : Calls Try.prog 6 #[.slice a len cap] w fun e w' => e = .returned (.bool true) ∧ Ext w w' from HS.mono fun e w' ⟨h1, h2⟩ => ⟨h1, h2.below⟩
    have G := fun w' (X : Ext w w') => oGet _ l w' (hv.ext X) (by omega)
    have GL := fun w' (X : Ext w w') => oGetList _ l 2000 w' (hv.ext X) (by omega) (hc2 w') (by omega) (by omega)
    unfold GetDoes at G
    unfold ListDoes at GL
    have glb : ∀ n ∈ glL l 2000, okI64 n := gl_ok l 2000
    have hA : (getX l = 0 ∧ getN l = 0 ∧ getE l = 20) ∨ (getE l = 0 ∧ 1 ≤ getN l ∧ getN l ≤ l.length ∧ l.take (getN l) = enc (getX l) ∧ getX l < 18446744073709551616) := by
      cases hd : dec l with
      | none => exact .inl (get_none hd)
      | some p =>
        obtain ⟨x, n⟩ := p
        obtain ⟨g1, g2, g3⟩ := get_some hd
        obtain ⟨d1, d2, d3, d4, d5, d6⟩ := dec_is _ _ _ hd
        rw [g1, g2, g3]
        exact .inr ⟨rfl, d5, d3, d1, d4⟩
    have hB : ((glE l 2000 = 20 ∨ glE l 2000 = 21) ∧ glN l 2000 = 0 ∧ (glL l 2000).length = 0) ∨ (glE l 2000 = 0 ∧ 1 ≤ glN l 2000 ∧ glN l 2000 ≤ l.length ∧ l.take (glN l 2000) = encL (glL l 2000) ∧ (glL l 2000).length ≤ l.length) := by
      unfold glE glN glL
      cases hd : decL l 2000 with
      | mk o E =>
        cases o with
        | none =>
          refine .inl ⟨?_, rfl, rfl⟩
          unfold decL at hd
          split at hd
          · injection hd with _ e; left; exact e.symm
          · split at hd
            · injection hd with _ e; right; exact e.symm
            · split at hd
              · injection hd with _ e; left; exact e.symm
              · cases hd
        | some q =>
          obtain ⟨zs, m⟩ := q
          obtain ⟨e1, e2, e3, e4, e5, e6⟩ := decL_facts hd
          exact .inr ⟨e1, e5, e4, e2, e6⟩
    rcases hA with ⟨a1, a2, a3⟩ | ⟨a1, a2, a3, a4, a5⟩
    · rw [a1, a2, a3] at G
      rcases hB with ⟨b1, b2, b3⟩ | ⟨b1, b2, b3, b4, b5⟩
      · rw [b2] at GL
        exact once_no_no a len cap 0 0 20 0 (glE l 2000) (glL l 2000) [] [] w (by omega) hnc hcap b1 b3 G GL
      · rw [b1] at GL
        exact once_no_yes a len cap 0 0 20 (glN l 2000) 0 (glL l 2000) [] (encL (glL l 2000)) w (by omega) hnc hcap b2 (by omega) (fun w' X => by rw [← b4]; exact bytes_pre (hv.ext X) hlen.symm (by omega))
          (fun w' v X hI => by have := oPutList (.slice none 0 0) v [] (glL l 2000) w' (nilB w') hI (by simp) (by omega) glb; rwa [List.nil_append] at this) G GL
    · rw [a1] at G
      have P := fun w' (X : Ext w w') => oPut (.slice none 0 0) [] (getX l) w' (nilB w') (by simp) a5
      simp only [List.nil_append] at P
      rcases hB with ⟨b1, b2, b3⟩ | ⟨b1, b2, b3, b4, b5⟩
      · rw [b2] at GL
        exact once_yes_no a len cap (getX l) (getN l) 0 0 (glE l 2000) (glL l 2000) (enc (getX l)) [] w (by omega) hnc hcap a2 (by omega) (fun w' X => by rw [← a4]; exact bytes_pre (hv.ext X) hlen.symm (by omega)) P b1 b3 G GL
      · rw [b1] at GL
        exact once_yes_yes a len cap (getX l) (getN l) 0 (glN l 2000) 0 (glL l 2000) (enc (getX l)) (encL (glL l 2000)) w (by omega) hnc hcap a2 (by omega) (fun w' X => by rw [← a4]; exact bytes_pre (hv.ext X) hlen.symm (by omega)) P
          b2 (by omega) (fun w' X => by rw [← b4]; exact bytes_pre (hv.ext X) hlen.symm (by omega))
          (fun w' v X hI => by have := oPutList (.slice none 0 0) v [] (glL l 2000) w' (nilB w') hI (by simp) (by omega) glb; rwa [List.nil_append] at this) G GL
end Go.Proofs.Ytkikiehgkggfmaa

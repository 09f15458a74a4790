/- Regions that draw their order, where one move may come behind the operation that makes memory, in the plain calculus: 'out = append(out, T..)' in a loop. No program in sight. -/
import Derived.Test.YtkmfamidahlgiaaGreatDoorExtE
namespace Go.Proofs.YtkmfamidahlgiaaGreatDoor
open Go.RowKit
set_option linter.unusedVariables false
section
variable {P : Program} {ops : Array Oper} {md : Region.Mode}
theorem off_normal {K : Act → World → Prop} {a : Act} {w : World} (h : K a w) : Off K .normal a w := h
theorem op_off {i : Nat} {a : Act} {w : World} {K1 K2 E1 : Act → World → Prop} {Q : Exit → Act → World → Prop} (h : ∀ a w, K1 a w → K2 a w) (hh : wpOp P ops (Off E1) i K1 a w) : wpOp P ops Q i K2 a w := by
  unfold wpOp at *
  split
  · rename_i ho; simp only [ho] at hh; exact h _ _ hh
  · rename_i o ho
    simp only [ho] at hh
    split
    · rename_i hw
      simp only [hw, if_true] at hh
      rcases hh with hh | ⟨_, hh⟩
      · refine .inl ?_
        unfold Oper.wp at *
        generalize (execOp a.eval o).run P w = r at *
        cases r with
        | ok x w' =>
          cases x <;> simp only [Oper.upon] at hh ⊢
          case value v => exact h _ _ hh
          case skip => exact h _ _ hh
          case defer d => exact h _ _ hh
          case enter f args =>
            refine hh.mono fun e w'' he => ?_
            cases e with
            | returned v => exact h _ _ he
            | panicked c => exact he.elim
            | outgrown => exact (off_letsOut he).elim
          case row row args => exact hh.mono fun v w'' he => h _ _ he
        | halt x w' =>
          cases x <;> simp only [Oper.upon] at hh ⊢
          exact hh.elim
      · exact (off_letsOut hh).elim
    · rename_i hw; simp only [hw] at hh; exact h _ _ hh
theorem any_off {Q : Exit → Act → World → Prop} : ∀ (f : Nat) (listed : Array Bool) (a : Act) (w : World), wpAny P md ops (Off (Q .normal)) f listed a w → wpAny P md ops Q f listed a w
  | 0, _, _, _, h => h
  | f + 1, _, _, _, h => ⟨h.1, fun i hi => op_off (fun a' w' h' => any_off f _ a' w' h') (h.2 i hi)⟩
theorem wp_region_late {id : Nat} {l : List Oper} {o0 on : Oper} {Q : Exit → Act → World → Prop} {a : Act} {w : World} (n : Nat) (v0 : Value) (hm : P.follows .mixedOrders = true) (hB : lateB .any l.toArray (l.take n).toArray n = true)
    (h0 : l[0]? = some o0) (hn0 : l[n]? = some on) (hg0 : o0.guard = none) (hy : ∀ w', laters w w' → (execOp a.eval o0).run P w' = .ok (.value v0) w')
    (h : wpQuiet P (l.take n).toArray (fun w' => ∃ g : Later w, w' = g.world) (fun a' => ∀ w', laters w w' → wpList P l.toArray (Off fun a2 w2 => laters w w2 ∧ wpList P l.toArray (Off (Q .normal)) (l.drop (n + 1)) a2 w2) [on] a' w') ((l.take n).drop 1) (a.put o0.dst v0)) :
    (Code.region id l.toArray true).wp P Q a w :=
  wp_region_any hm (any_off _ _ _ _ (any_late n v0 hB h0 hn0 hg0 hy h))
end
end Go.Proofs.YtkmfamidahlgiaaGreatDoor

/- 'out = append(out, z)' of a row of numbers of the call's own. -/
import Derived.Test.YtkikiehgkggfmabTickB
namespace Go.Proofs.Ytkikiehgkggfmab
open Go.RowKit
set_option linter.unusedVariables false
theorem app1 {ops : Array Oper} {rest : List Oper} {o : Oper} {a : Act} {Q : Exit → Act → World → Prop} (w : World) (hgd : o.guard = none) (s x : Operand)
    (ho : o.op = .call { callee := .builtin .append, args := #[s, x], argTypes := #[22, 22] })
    (W : World) (v : Value) (xs : List Int) (hs : a.eval s = v) (hown : RI w W.heap.size v xs) (hW : Ext W w) (g : Nat) (z : Int) (hx : a.eval x = .slice (some ⟨g, 0, none⟩) 1 1) (hcell : w.cell? ⟨g, 0, none⟩ = some (.int .i64 z)) (hl : xs.length ≤ 1000000)
    (h : ∀ v' w', RI w' W.heap.size v' (xs ++ [z]) → Ext W w' → wpList Try.prog ops Q rest (a.put o.dst v') w') : wpList Try.prog ops Q (o :: rest) a w := by
  obtain ⟨i0, hi, hz0, hz1, hz2⟩ := info_parts info_int
  refine wpList_append_own w hgd s x 22 ho W.heap.size 3 i0 (.int .i64 0) 1 8 Try.underlying22 hi hz0 hz1 hz2 rfl (by decide) v xs.length (xs.map (Value.int .i64)) hs hown ⟨g, 0, none⟩ 1 1 [.int .i64 z] hx rfl ?_ ?_ ?_ ?_ ?_ ?_
  · intro j u hu
    match j, hu with
    | 0, hu =>
      simp at hu
      subst hu
      simpa [Addr.add] using hcell
  · intro u hu; simp at hu; subst hu; rfl
  · unfold maxLen; omega
  · omega
  · exact hW.size
  · intro v' w' h1 h2 _
    refine h v' w' ?_ (hW.grown h2 fun j hj => (World.ownsRow.lt hown j hj).1)
    unfold RI
    rw [List.length_append, List.map_append]
    exact h1
end Go.Proofs.Ytkikiehgkggfmab

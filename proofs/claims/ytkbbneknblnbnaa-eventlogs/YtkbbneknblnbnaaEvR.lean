/- EvT, one law more: the last operations, whatever they do, in their forced order. No program in sight. -/
import Derived.Test.YtkbbneknblnbnaaEvS
namespace Go.Proofs.Ytkbbneknblnbnaa
open Go.RowKit
set_option linter.unusedVariables false
section
variable {P : Program} {ops : Array Oper} {md : Region.Mode} {K : Act → World → Prop} {C : World → Prop} {D : Nat → Bool}
theorem rest_D {l2 : List Oper} {n fuel : Nat} {listed : Array Bool} {a : Act} {w : World} (hi0 : ops.toList.drop n = l2) (hf : fuel = l2.length) (hD : ∀ j, n ≤ j → D j = false) (hq : Region.seqB md ops l2.length n listed = true)
    (h : wpList P ops (Off K) l2 a w) : anyD P md ops K C D fuel listed a w := by
  subst hf
  have := seq_D (P := P) (md := md) (ops := ops) (K := K) (C := C) (D := D) l2 n 0 listed a w hD (fun j => by
    rw [← hi0, List.getElem?_drop]
    simp) hq h
  rwa [Nat.zero_add] at this
end
end Go.Proofs.Ytkbbneknblnbnaa

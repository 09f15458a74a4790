/- Accesses of one's own; the laws' handed and live. -/
import Derived.Test.YtoaifbengichbaaOr9
namespace Go.Proofs.Ytoaifbengichbaa
open Go.RowKit
set_option linter.unusedVariables false
set_option linter.unusedSimpArgs false
set_option maxHeartbeats 4000000
attribute [local go_sem] later_cell later_frozen later_const
def rowA (l : List Acc) : List Value := l.flatMap acV
theorem rowA_app (a b : List Acc) : rowA (a ++ b) = rowA a ++ rowA b := List.flatMap_append
theorem rowA_len (l : List Acc) : (rowA l).length = l.length * 5 := by
  induction l with
  | nil => rfl
  | cons d l ih => show (acV d ++ rowA l).length = _; rw [List.length_append, ih]; simp [acV]; omega
theorem rowA_at (l : List Acc) (i j : Nat) (hi : i < l.length) (hj : j < 5) : (rowA l)[i * 5 + j]? = (acV l[i])[j]? := by
  induction l generalizing i with
  | nil => simp at hi
  | cons d l ih =>
    show (acV d ++ rowA l)[i * 5 + j]? = _
    have hd : (acV d).length = 5 := rfl
    cases i with
    | zero => rw [List.getElem?_append_left (by omega)]; simp
    | succ i =>
      rw [List.getElem?_append_right (by omega), hd, show (i + 1) * 5 + j - 5 = i * 5 + j by omega, ih i (by simpa using hi)]
      rfl
theorem info_acc : (Try.prog.info? 31).map (fun i => (i.zero, i.size, i.bytes)) = some (some (.agg #[.int .i64 0, .int .i64 0, .int .i64 0, .int .u64 0, .int .u64 0]), 5, 40) := by kernel_rfl
theorem cellH {w : World} {b T : Nat} {cs : Array Value} {j : Nat} {v : Value} (h : w.heap[b]? = some (.cells cs T)) (hv : cs[j]? = some v) : w.cell? ⟨b, j, none⟩ = some v ∧ w.frozen? ⟨b, j, none⟩ = false := by
  constructor
  · simp [World.cell?, h, hv]
  · simp [World.frozen?, h]
theorem new_block (w : World) (o : Obj) : (w.alloc o).heap[w.heap.size]? = some o := heap_alloc_new w o
/-- accesses in memory of one's own -/
def RA (w : World) (B : Nat) (v : Value) (ls : List Acc) : Prop := w.ownsRow B 31 5 v ls.length (rowA ls)
theorem RA.ext {w w' : World} {B : Nat} {v : Value} {ls : List Acc} (h : RA w B v ls) (hx : Ext w w') : RA w' B v ls := hx.row h
theorem RA.accv {w : World} {B : Nat} {v : Value} {ls : List Acc} (h : RA w B v ls) : AccV w v ls := by
  rcases h.2 with ⟨rfl, h0⟩ | ⟨g, cap, cur, rfl, hb, hg, hn, hm, hs, ht⟩
  · exact ⟨none, 0, by rw [h0], by omega, by unfold maxLen; omega, fun i hi => by omega⟩
  · refine ⟨_, cap, rfl, hn, hm, fun i hi => ⟨g, 0, rfl, fun j u hu => ?_⟩⟩
    have hj : j < 5 := (List.getElem?_eq_some_iff.1 hu).1
    have h1 := rowA_at ls i j hi hj
    rw [hu, ← ht, List.getElem?_take, if_pos (by omega)] at h1
    rw [Nat.zero_add]
    exact (cellH (j := i * 5 + j) (v := u) hg (by simpa using h1)).1
theorem appA {ops : Array Oper} {rest : List Oper} {o : Oper} {a : Act} {Q : Exit → Act → World → Prop} (w : World) (hgd : o.guard = none) (s x : Operand)
    (ho : o.op = .call { callee := .builtin .append, args := #[s, x], argTypes := #[22, 22] })
    (W : World) (v : Value) (xs : List Acc) (hs : a.eval s = v) (hown : RA w W.heap.size v xs) (hW : Ext W w) (g : Nat) (z : Acc) (hx : a.eval x = .slice (some ⟨g, 0, none⟩) 1 1) (hcell : ∀ j u, (acV z)[j]? = some u → w.cell? ⟨g, j, none⟩ = some u) (hl : xs.length ≤ 1000000)
    (h : ∀ v' w', RA w' W.heap.size v' (xs ++ [z]) → Ext W w' → wpList Try.prog ops Q rest (a.put o.dst v') w') : wpList Try.prog ops Q (o :: rest) a w := by
  obtain ⟨i0, hi, hz0, hz1, hz2⟩ := info_parts info_acc
  refine wpList_append_own w hgd s x 22 ho W.heap.size 31 i0 (.agg #[.int .i64 0, .int .i64 0, .int .i64 0, .int .u64 0, .int .u64 0]) 5 40 Try.underlying22 hi hz0 hz1 hz2 rfl (by decide) v xs.length (rowA xs) hs hown ⟨g, 0, none⟩ 1 1 (acV z) hx rfl ?_ ?_ ?_ ?_ ?_ ?_
  · intro j u hu
    have := hcell j u hu
    simp only [Addr.add]
    split
    · rename_i e; subst e; exact this
    · simpa using this
  · intro u hu; simp [acV] at hu; rcases hu with rfl | rfl | rfl | rfl | rfl <;> rfl
  · unfold maxLen; omega
  · omega
  · exact hW.size
  · intro v' w' h1 h2 _
    refine h v' w' ?_ (hW.grown h2 fun j hj => (World.ownsRow.lt hown j hj).1)
    unfold RA
    rw [List.length_append, rowA_app]
    simpa [rowA] using h1
def hdL (load : Bool) : List Acc := if load then [⟨0, 7, 5, 0, 0⟩, ⟨0, 2, 0, 0, 0⟩, ⟨1, 1, 0, 0, 0⟩, ⟨1, 6, 5, 0, 0⟩] else [⟨0, 7, 5, 0, 0⟩, ⟨0, 2, 0, 0, 0⟩, ⟨1, 6, 5, 0, 0⟩]
def HDoes (w : World) (load : Bool) (e : Ending) (w' : World) : Prop := ∃ v, e = .returned v ∧ AccV w' v (hdL load) ∧ Ext w w'
theorem first_row (w : World) : RA (w.alloc (.cells #[.int .i64 0, .int .i64 7, .int .i64 5, .int .u64 0, .int .u64 0, .int .i64 0, .int .i64 2, .int .i64 0, .int .u64 0, .int .u64 0] 31)) w.heap.size (.slice (some ⟨w.heap.size, 0, none⟩) 2 2) [⟨0, 7, 5, 0, 0⟩, ⟨0, 2, 0, 0, 0⟩] :=
  ⟨rfl, .inr ⟨w.heap.size, 2, #[.int .i64 0, .int .i64 7, .int .i64 5, .int .u64 0, .int .u64 0, .int .i64 0, .int .i64 2, .int .i64 0, .int .u64 0, .int .u64 0], rfl, Nat.le_refl _, new_block w _, Nat.le_refl _, by unfold maxLen; omega, rfl, rfl⟩⟩
theorem new_acc (w : World) (g : Nat) (hg : g = w.heap.size) (z : Acc) : ∀ j u, (acV z)[j]? = some u → (w.alloc (.cells #[.int .i64 z.t, .int .i64 z.k, .int .i64 z.c, .int .u64 z.o, .int .u64 z.n] 31)).cell? ⟨g, j, none⟩ = some u := by
  intro j u hu
  subst hg
  exact (cellH (j := j) (v := u) (new_block w _) (by simpa [acV] using hu)).1
theorem handed_all (load : Bool) (w : World) : Calls Try.prog 29 #[.bool load] w (HDoes w load) := by
  have F := first_row w
  have F1 := fun w g hg => new_acc w g hg ⟨1, 1, 0, 0, 0⟩
  have F2 := fun w g hg => new_acc w g hg ⟨1, 6, 5, 0, 0⟩
  have X0 := (Ext.refl w).alloc (.cells #[.int .i64 0, .int .i64 7, .int .i64 5, .int .u64 0, .int .u64 0, .int .i64 0, .int .i64 2, .int .i64 0, .int .u64 0, .int .u64 0] 31)
  have HF := Lib.hid F
  have HX := Lib.hid X0
  have HF1 := Lib.hid F1
  have HF2 := Lib.hid F2
  clear F F1 F2 X0
  cases load
  · go_enter Try.func29, Try.ntmps29
    go_wp2_with (at_builtin; go_loud (refine appA _ rfl _ _ rfl w _ _ rfl (HF.out.ext ((Ext.refl _).alloc _)) (HX.out.alloc _) _ ⟨1, 6, 5, 0, 0⟩ rfl (HF2.out _ _ (by simp)) (by decide) ?_); intro v2 w2 R2 X2)
    refine bodyPost_ret (v := v2) (by simp [results, Try.results29, go_sem]) rfl ⟨_, rfl, R2.accv, X2⟩
  · go_enter Try.func29, Try.ntmps29
    go_wp2_with (first
      | (at_builtin; refine appA _ rfl _ _ rfl w _ _ rfl (HF.out.ext ((Ext.refl _).alloc _)) (HX.out.alloc _) _ ⟨1, 1, 0, 0, 0⟩ rfl (HF1.out _ _ (by simp)) (by decide) ?_; intro v1 w1 R1 X1; have HR1 := Lib.hid R1; have HX1 := Lib.hid X1; clear R1 X1)
      | (at_builtin; refine appA _ rfl _ _ rfl w _ _ rfl (HR1.out.ext ((Ext.refl _).alloc _)) (HX1.out.alloc _) _ ⟨1, 6, 5, 0, 0⟩ rfl (HF2.out _ _ (by simp)) (by decide) ?_; intro v2 w2 R2 X2))
    refine bodyPost_ret (v := v2) (by simp [results, Try.results29, go_sem]) rfl ⟨_, rfl, R2.accv, X2⟩
theorem rl_hd (load : Bool) : RL 2 (hdL load) := by
  refine ⟨by decide, by decide, by cases load <;> decide, ?_⟩
  cases load <;> decide
theorem wf_hd (load : Bool) : WfL (hdL load) := by
  cases load <;> (unfold WfL; decide)
theorem race_yes : raceV 2 (hdL true) = .tuple #[.int .i64 0, .int .i64 0, .bool false] := by
  have h : jj 2 (hdL true) = 4 := by decide +kernel
  unfold raceV
  rw [h, if_neg (by decide)]
theorem race_no : raceV 2 (hdL false) = .tuple #[.int .i64 0, .int .i64 2, .bool true] := by
  have h : jj 2 (hdL false) = 2 := by decide +kernel
  have h2 : rv 2 (hdL false) 2 = 0 := by decide +kernel
  unfold raceV
  rw [h, h2, if_pos (by decide)]
  rfl
theorem live13 (w : World) : Calls Try.prog 7 #[] w fun e w' => e = .returned (.bool true) ∧ Ext w w' := by
  have C1 := Lib.hid (fun v w (h : AccV w v (hdL true)) => oRace_yes 2 v (hdL true) w h (rl_hd true) (wf_hd true))
  rw [race_yes] at C1
  have C2 := Lib.hid (fun v w (h : AccV w v (hdL false)) => oRace_yes 2 v (hdL false) w h (rl_hd false) (wf_hd false))
  rw [race_no] at C2
  go_enter Try.func7, Try.ntmps7
  go_wp2_with fail
  refine (handed_all true _).mono ?_
  rintro e w1 ⟨v1, rfl, A1, X1⟩
  go_wp2_with fail
  refine (C1.out _ _ A1).mono ?_
  rintro e w2 ⟨rfl, X2⟩
  go_wp2_with fail
  refine (handed_all false _).mono ?_
  rintro e w3 ⟨v3, rfl, A3, X3⟩
  go_wp2_with fail
  refine (C2.out _ _ A3).mono ?_
  rintro e w4 ⟨rfl, X4⟩
  go_wp2
  go_ret
  exact ⟨rfl, ((X1.trans X2).trans X3).trans X4⟩
end Go.Proofs.Ytoaifbengichbaa

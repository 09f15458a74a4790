/- order.Cells: a map of cells, its keys, sorted. -/
import Derived.Test.YtoaifbengichbaaShelf
import Derived.Test.YtoaifbengichbaaOr18
import Derived.Test.YtoaifbengichbaaOr10
namespace Go.Proofs.Ytoaifbengichbaa
open Go.RowKit Go.Maps Go.Sort Go.Shelf
set_option linter.unusedVariables false
set_option linter.unusedSimpArgs false
set_option maxHeartbeats 4000000
attribute [local go_sem] later_cell later_frozen later_const
theorem sortsA (m : Nat) : AnyZI.SortsIn Try.prog Try.sortedA_ren Fence.wide m :=
  ⟨fun blk off cap ss W hH hblk hsz => callsIn_wide.2 (AnyM.slices_Sort_int Try.sortA blk off cap ss W hH hblk hsz),
   fun p cap W => callsIn_wide.2 (AnyM.slices_Sort_int_none Try.sortA p cap W)⟩
theorem keysC (mb : Option Nat) (W : World) : Calls Try.prog 34 #[.map mb] W fun e w' => e = .returned (.func (.func 48) #[] #[.pointer (some ⟨W.heap.size, 0, none⟩)]) ∧ w' = W.alloc (.cells #[.map mb] 52) :=
  (callsIn_wide (n := 5)).1 (AnyZI.keys_in Try.keysA Fence.wide 5 trivial rfl mb W)
theorem sortedC {H : Type} (b nn : Nat) (D0 : DataW H) (R : Value → Option (DataW H × List MemPlace)) (w : World) (hown : w.ownsMap Try.prog 3 R b nn D0) (hmax : Maps.size D0 ≤ maxLen) (hbytes : Maps.size D0 * 8 ≤ 140737488355328) :
    Calls Try.prog 33 #[.func (.func 48) #[] #[.pointer (some ⟨w.heap.size, 0, none⟩)]] (w.alloc (.cells #[.map (some b)] 52)) fun e w' => ∃ (v : Value) (ss : List Int), e = .returned v ∧ ss.Perm (intKeys D0) ∧
      w'.ownsRow (w.alloc (.cells #[.map (some b)] 52)).heap.size 3 1 v ss.length ((ss.mergeSort (fun x y => decide (x ≤ y))).map encZ) ∧ (v = .slice none 0 0 ↔ ss = []) ∧ Below (w.alloc (.cells #[.map (some b)] 52)).heap.size (w.alloc (.cells #[.map (some b)] 52)) w' := by
  have hbl := hown.lt
  have hseq : SeqGives Fence.wide 2 Try.prog 48 #[.pointer (some ⟨w.heap.size, 0, none⟩)] encZ (fun ss => ss.Perm (intKeys D0)) (Maps.size D0) (w.alloc (.cells #[.map (some b)] 52)) :=
    AnyZI.keys_gives (ρ := Try.keysA_ren) { Try.keysA with } Fence.wide _ trivial rfl (by omega) w.heap.size b nn D0 _ (by simp) (by simp) (by
      obtain ⟨es, clock, hb, Ft, hs, hD⟩ := hown
      exact ⟨es, clock, (Below.heap_alloc _ _ b hbl).trans hb, Ft, hs, hD⟩)
  exact (callsIn_wide (n := 5)).1 (AnyZI.sorted_in Try.sortedA Fence.wide 5 trivial trivial trivial trivial rfl (by omega) (sortsA _) (enters_of Try.func47 (by kernel_rfl) rfl) 48 #[.pointer (some ⟨w.heap.size, 0, none⟩)] trivial (enters_of Try.func48 (by kernel_rfl) rfl) _ _ hmax hbytes _ hseq)
/-- a map of the cells of the first m -/
def CM (w : World) (bm : Nat) (ls : List Acc) (m : Nat) : Prop :=
  ∃ D : DataW Unit, w.ownsMap Try.prog 3 (plainElem Try.prog 4) bm m D ∧ ∀ c : Int, Maps.has D (.int .i64 c) = decide (c ∈ cellsL ls m)
theorem CM.but {S : Nat → Prop} {w w' : World} {bm : Nat} {ls : List Acc} {m : Nat} (h : CM w bm ls m) (hb : But S w w') (hs : ¬ S bm) : CM w' bm ls m := by
  obtain ⟨D, ⟨es, ck, h1, h2⟩, h3⟩ := h
  exact ⟨D, ⟨es, ck, hb.heap h1 hs, h2⟩, h3⟩
theorem CM.ext {w w' : World} {bm : Nat} {ls : List Acc} {m : Nat} (h : CM w bm ls m) (hx : Ext w w') : CM w' bm ls m := h.but (hx.but (fun _ => False)) (fun h => h)
theorem CM.made (w : World) (ls : List Acc) : CM (w.alloc (.map #[] 0)) w.heap.size ls 0 :=
  ⟨.map [], World.ownsMap_made _ _ _ _, fun c => by simp [cellsL]; rfl⟩
theorem CM.put {w : World} {bm : Nat} {ls : List Acc} {m : Nat} (h : CM w bm ls m) (hc : (Lit.int .i64 (A ls m).c).wf = true) (hm : m ≤ 1000) :
    ∃ w', (Instr.mapUpdate 52 (.map (some bm)) (.int .i64 (A ls m).c) (.bool true)).run Try.prog w = .ok () w' ∧ CM w' bm ls (m + 1) ∧ w.grownBy w' (some bm) := by
  obtain ⟨D, h1, h2⟩ := h
  have hk : keyOf Try.prog 3 (.int .i64 (A ls m).c) = some (.int .i64 (A ls m).c) := Maps.keyOf_int_mk Try.underlying3 hc
  obtain ⟨w', hrun, h3, hg⟩ := h1.update law_int Try.underlying52 (by unfold maxLen; omega) hk (plainElem_bool (H := Unit) Try.underlying4 true)
  refine ⟨w', hrun, ⟨_, h3, fun c => ?_⟩, hg⟩
  have hmem : c ∈ cellsL ls (m + 1) ↔ c ∈ cellsL ls m ∨ c = (A ls m).c := by
    rw [cellsL_mem, cellsL_mem]
    constructor
    · rintro ⟨k, hk, e⟩
      by_cases hkm : k = m
      · subst hkm; exact .inr e.symm
      · exact .inl ⟨k, by omega, e⟩
    · rintro (⟨k, hk, e⟩ | e)
      · exact ⟨k, by omega, e⟩
      · exact ⟨m, by omega, e.symm⟩
  by_cases e : (A ls m).c = c
  · subst e
    rw [Maps.has_put_same h1.isMap (law_int.key hk)]
    simp [hmem]
  · have hne : (Lit.int .i64 c) ≠ (Lit.int .i64 (A ls m).c) := fun h => e (by cases h; rfl)
    rw [Maps.has_put_other hne, h2 c]
    have : c ≠ (A ls m).c := fun h => e h.symm
    simp [hmem, this]
theorem CM.perm {w : World} {bm : Nat} {ls : List Acc} {m : Nat} {D : DataW Unit} (h1 : w.ownsMap Try.prog 3 (plainElem Try.prog 4) bm m D) (h2 : ∀ c : Int, Maps.has D (.int .i64 c) = decide (c ∈ cellsL ls m)) {ss : List Int} (h : ss.Perm (intKeys D)) : ss.mergeSort leI = (cellsL ls m).mergeSort leI := by
  have h3 : (cellsL ls m).Perm (intKeys D) := CollectedI.perm (left := fun _ => false) ⟨cellsL_nodup ls m, fun x => by rw [h2 x]; simp⟩ h1 law_int Try.underlying3 (fun _ => rfl)
  exact mergeSort_of_perm_i (h.trans h3.symm)
theorem CM.size_le {w : World} {bm : Nat} {ls : List Acc} {m : Nat} {D : DataW Unit} (h1 : w.ownsMap Try.prog 3 (plainElem Try.prog 4) bm m D) (h2 : ∀ c : Int, Maps.has D (.int .i64 c) = decide (c ∈ cellsL ls m)) : Maps.size D ≤ m := by
  have h3 : (cellsL ls m).Perm (intKeys D) := CollectedI.perm (left := fun _ => false) ⟨cellsL_nodup ls m, fun x => by rw [h2 x]; simp⟩ h1 law_int Try.underlying3 (fun _ => rfl)
  obtain ⟨es, rfl, _⟩ := h1.keysOf
  have h4 := h3.length_eq
  have h5 := cellsL_len ls m
  have h6 : (intKeys (.map es)).length = es.length := by simp [intKeys]
  show es.length ≤ m
  omega
def CDone (w : World) (ls : List Acc) (e : Ending) (w' : World) : Prop := ∃ v, e = .returned v ∧ IntsV w' v (cellsS ls) ∧ Ext w w'
theorem below_ext {w w' : World} (h : Below w.heap.size w w') : Ext w w' := h
set_option maxRecDepth 100000 in
theorem oCells (v : Value) (ls : List Acc) (w : World) (hA : AccV w v ls) (hl : ls.length ≤ 1000) (hwf : WfL ls) : Calls Try.prog 16 #[v] w (CDone w ls) := by
  obtain ⟨a, cap, rfl, hcap, hmax⟩ := hA.form
  have HA := Lib.hid hA
  have HWF := Lib.hid hwf
  have hmm := @run_makeMap Try.prog
  have HCM := Lib.hid (CM.made w ls)
  have HX1 : Hid (Ext w (w.alloc (.map #[] 0))) := Lib.hid ((Ext.refl w).alloc _)
  have hG : ∀ (W W' : World) (v : Value) (ss : List Int) (D : DataW Unit), Ext w W → W.ownsMap Try.prog 3 (plainElem Try.prog 4) w.heap.size ls.length D → (∀ c : Int, Maps.has D (.int .i64 c) = decide (c ∈ cellsL ls ls.length)) → ss.Perm (intKeys D) →
      W'.ownsRow (W.alloc (.cells #[.map (some w.heap.size)] 52)).heap.size 3 1 v ss.length ((ss.mergeSort (fun x y => decide (x ≤ y))).map encZ) → Below (W.alloc (.cells #[.map (some w.heap.size)] 52)).heap.size (W.alloc (.cells #[.map (some w.heap.size)] 52)) W' → CDone w ls (.returned v) W' := fun W W' v ss D hX h1 h2 hp hr hb => by
    have e := CM.perm h1 h2 hp
    refine ⟨v, rfl, ?_, (hX.alloc _).trans hb⟩
    have hs : (ss.mergeSort (fun x y => decide (x ≤ y))) = cellsS ls := e
    rw [hs] at hr
    exact intsV_row hr
  have HG := Lib.hid hG
  generalize CDone w ls = G at *
  generalize hbm : w.heap.size = bm at *
  clear hA hwf hG
  go_enter Try.func16, Try.ntmps16
  go_wp2
  generalize w.alloc (.map #[] 0) = w2 at *
  clear hmm
  go_loopw [9] (fun x wr => ∃ k : Nat, k ≤ ls.length ∧ x = .int .i64 k ∧ CM wr bm ls k ∧ Ext w wr) (fun x _ => ls.length - (intOf x).toNat)
  case atStart => exact ⟨0, Nat.zero_le _, rfl, HCM.out, HX1.out⟩
  case round =>
    obtain ⟨k, hk, rfl, hC, hx⟩ := hrel
    by_cases hlt : k < ls.length
    case neg =>
      obtain rfl : k = ls.length := by omega
      obtain ⟨D, h1, h2⟩ := hC
      have hsz := CM.size_le h1 h2
      have CS := Lib.hid (sortedC bm ls.length D (plainElem Try.prog 4) wr h1 (by unfold maxLen; omega) (by omega))
      have HF := Lib.hid (fun W' v ss => HG.out wr W' v ss D hx h1 h2)
      clear h1 h2 hx hsz
      go_wp2_with fail
      refine (keysC _ _).mono ?_
      rintro e w' ⟨rfl, rfl⟩
      go_wp2_with fail
      refine CS.out.mono ?_
      rintro e w3 ⟨v3, ss, rfl, hp, hr, _, hb⟩
      have HF2 := Lib.hid (HF.out _ _ _ hp hr hb)
      clear hp hr hb HF
      go_wp2
      first
        | exact HF2.out
        | (go_ret; exact HF2.out)
        | (go_ret2; exact HF2.out)
    have hkl : (k : Int) < (ls.length : Int) := by omega
    obtain ⟨b, off, ea, c0, c1, c2, c3, c4⟩ := HA.out.at hx hlt
    subst ea
    rw [A_at hlt] at c0 c1 c2 c3 c4
    have hwk := HWF.out k hlt
    have PUT := Lib.hid (fun W (hW : CM W bm ls k) => hW.put hwk (by omega))
    have HCC := Lib.hid hC
    have HX := Lib.hid hx
    clear hC hx hwk
    generalize A ls k = xa at *
    go_upto_region 5 with (fail)
    refine settle_wp ?_
    intro wA hbA
    have XA : Ext wr wA := Ext.trans (by repeat (first | with_reducible exact Ext.refl _ | with_reducible assumption | with_reducible refine Ext.alloc ?_ _ | with_reducible refine Ext.drew ?_ | with_reducible refine Ext.drewN ?_ _ | with_reducible refine Ext.setCell ?_ (by simp <;> omega) _ | with_reducible refine Ext.trans ?_ (by assumption))) hbA
    have qa_2 : wA.cell? ⟨wr.heap.size, 2, none⟩ = some (.int .i64 xa.c) := hbA.cell (by simp [go_sem])
    obtain ⟨w4, hput, hC4, hg4⟩ := PUT.out wA (HCC.out.ext XA)
    have HC4 := Lib.hid hC4
    have HX4 := Lib.hid ((HX.out.trans XA).grown hg4 (fun j hj => by cases hj; rw [hbm]; exact Nat.le_refl _))
    clear hbA XA hC4 hg4 c0 c1 c2 c3 c4
    go_wp2_with (first | (at_mapUpdate; refine wpList_update_run rfl _ _ _ 52 rfl rfl rfl rfl hput ?_; go_frame) | go_in)
    exact ⟨⟨k + 1, by omega, by go_num, HC4.out, HX4.out⟩, by simp [intOf]; omega⟩
end Go.Proofs.Ytoaifbengichbaa

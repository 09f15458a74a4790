/- span.Pieces: the runs of slots, in a slice of the call's own. -/
import Derived.Test.YtclhbdedibcgjaaSpanIt
import Derived.Test.YtclhbdedibcgjaaExtE
import Derived.Deep.AppendLies
import Derived.OwnWalk
import Derived.RangeFuncBound
import Derived.Shelf.Abstract
namespace Go.Proofs.Ytclhbdedibcgjaa
open Go.RowKit Go.Shelf
set_option linter.unusedVariables false
set_option maxHeartbeats 1000000
attribute [local go_sem] later_cell later_frozen later_const
theorem info_arr : (Try.prog.info? 67).map (fun i => (i.zero, i.size, i.bytes)) = some (some (.agg #[.int .i64 0, .int .i64 0]), 2, 16) := by kernel_rfl
theorem World.ownsRow.lower {w : World} {base base' e sz : Nat} {v : Value} {n : Nat} {xs : List Value} (h : w.ownsRow base e sz v n xs) (hb : base' ≤ base) : w.ownsRow base' e sz v n xs := by
  refine ⟨h.1, ?_⟩
  rcases h.2 with hn | ⟨g, cap, cur, hv, hg, rest⟩
  · exact .inl hn
  · exact .inr ⟨g, cap, cur, hv, Nat.le_trans hb hg, rest⟩
def PiecesDoes (w : World) (cs : List Value) (e : Ending) (w' : World) : Prop := ∃ v k, e = .returned v ∧ w'.ownsRow w.heap.size 67 2 v k cs ∧ Ext w w'
theorem sPieces32_no (f n c : Int) (w : World) (h : okN n = false ∨ rightB c = false ∨ c < n) : Calls Try.prog 32 #[.agg #[.int .u32 f, .int .i64 n], .int .i64 c] w fun e w' => e = .returned (.slice none 0 0) ∧ Ext w w' := by
  cases hk : okN n
  · clear h
    go_enter Try.func32, Try.ntmps32
    go_wp2_with fail
    refine (sRight32_no _ _ _ hk).mono ?_
    rintro e w1 ⟨rfl, hb1⟩
    obtain ⟨hc1, hf1⟩ := hb1.cells
    clear hc1 hf1
    have qa_0 : w1.cell? ⟨w.heap.size, 0, none⟩ = some (.int .u32 f) := (hb1.cells.1 _ _ (by simp <;> omega)).trans (by simp [go_sem])
    have qa_1 : w1.cell? ⟨w.heap.size, 1, none⟩ = some (.int .i64 n) := (hb1.cells.1 _ _ (by simp <;> omega)).trans (by simp [go_sem])
    have pa := World.block_lt_of_cell? _ ⟨w.heap.size, 0, none⟩ qa_0
    have ra := Nat.lt_succ_of_lt pa
    have qb_0 : w1.cell? ⟨w.heap.size + 1, 0, none⟩ = some (.int .i64 c) := (hb1.cells.1 _ _ (by simp <;> omega)).trans (by simp [go_sem])
    have pb := World.block_lt_of_cell? _ ⟨w.heap.size + 1, 0, none⟩ qb_0
    have rb := Nat.lt_succ_of_lt pb
    go_wp2
    go_ret
    refine ⟨rfl, ?_⟩
    repeat (first | with_reducible exact Ext.refl _ | with_reducible assumption | with_reducible refine Ext.alloc ?_ _ | with_reducible refine Ext.drew ?_ | with_reducible refine Ext.drewN ?_ _ | with_reducible refine Ext.setCell ?_ (by simp <;> omega) _ | with_reducible refine Ext.trans ?_ (by assumption))
  · cases hc : rightB c
    · clear h
      go_enter Try.func32, Try.ntmps32
      go_wp2_with fail
      refine (sRight32_yes _ _ _ hk).mono ?_
      rintro e w2 ⟨rfl, hb2⟩
      obtain ⟨hc2, hf2⟩ := hb2.cells
      clear hc2 hf2
      have qa_0 : w2.cell? ⟨w.heap.size, 0, none⟩ = some (.int .u32 f) := (hb2.cells.1 _ _ (by simp <;> omega)).trans (by simp [go_sem])
      have qa_1 : w2.cell? ⟨w.heap.size, 1, none⟩ = some (.int .i64 n) := (hb2.cells.1 _ _ (by simp <;> omega)).trans (by simp [go_sem])
      have pa := World.block_lt_of_cell? _ ⟨w.heap.size, 0, none⟩ qa_0
      have ra := Nat.lt_succ_of_lt pa
      have qb_0 : w2.cell? ⟨w.heap.size + 1, 0, none⟩ = some (.int .i64 c) := (hb2.cells.1 _ _ (by simp <;> omega)).trans (by simp [go_sem])
      have pb := World.block_lt_of_cell? _ ⟨w.heap.size + 1, 0, none⟩ qb_0
      have rb := Nat.lt_succ_of_lt pb
      go_wp2_with fail
      refine (lRight _ _).mono ?_
      rintro e w' ⟨rfl, rfl⟩
      go_wp2
      go_ret
      refine ⟨rfl, ?_⟩
      repeat (first | with_reducible exact Ext.refl _ | with_reducible assumption | with_reducible refine Ext.alloc ?_ _ | with_reducible refine Ext.drew ?_ | with_reducible refine Ext.drewN ?_ _ | with_reducible refine Ext.setCell ?_ (by simp <;> omega) _ | with_reducible refine Ext.trans ?_ (by assumption))
    · have d : decide (c < n) = true := by
        rcases h with h | h | h
        · rw [hk] at h; cases h
        · rw [hc] at h; cases h
        · simpa using h
      clear h
      go_enter Try.func32, Try.ntmps32
      go_wp2_with fail
      refine (sRight32_yes _ _ _ hk).mono ?_
      rintro e w3 ⟨rfl, hb3⟩
      obtain ⟨hc3, hf3⟩ := hb3.cells
      clear hc3 hf3
      have qa_0 : w3.cell? ⟨w.heap.size, 0, none⟩ = some (.int .u32 f) := (hb3.cells.1 _ _ (by simp <;> omega)).trans (by simp [go_sem])
      have qa_1 : w3.cell? ⟨w.heap.size, 1, none⟩ = some (.int .i64 n) := (hb3.cells.1 _ _ (by simp <;> omega)).trans (by simp [go_sem])
      have pa := World.block_lt_of_cell? _ ⟨w.heap.size, 0, none⟩ qa_0
      have ra := Nat.lt_succ_of_lt pa
      have qb_0 : w3.cell? ⟨w.heap.size + 1, 0, none⟩ = some (.int .i64 c) := (hb3.cells.1 _ _ (by simp <;> omega)).trans (by simp [go_sem])
      have pb := World.block_lt_of_cell? _ ⟨w.heap.size + 1, 0, none⟩ qb_0
      have rb := Nat.lt_succ_of_lt pb
      go_wp2_with fail
      refine (lRight _ _).mono ?_
      rintro e w' ⟨rfl, rfl⟩
      go_wp2
      go_ret
      refine ⟨rfl, ?_⟩
      repeat (first | with_reducible exact Ext.refl _ | with_reducible assumption | with_reducible refine Ext.alloc ?_ _ | with_reducible refine Ext.drew ?_ | with_reducible refine Ext.drewN ?_ _ | with_reducible refine Ext.setCell ?_ (by simp <;> omega) _ | with_reducible refine Ext.trans ?_ (by assumption))
set_option maxRecDepth 100000 in
theorem sPieces32 (f n c : Int) (w : World) (hk : okN n = true) (hc : rightB c = true) (hnc : n ≤ c) (hf0 : 0 ≤ f) (hf1 : f < 4294967296) :
    Calls Try.prog 32 #[.agg #[.int .u32 f, .int .i64 n], .int .i64 c] w (PiecesDoes w (flat (pcs c (f % c) n))) := by
  obtain ⟨i0, hi, hz0, hz1, hz2⟩ := info_parts info_arr
  have hr := okN_true hk
  have d : decide (c < n) = false := by simp; omega
  have HF := Lib.hid (And.intro hf0 hf1)
  clear hf0 hf1
  refine callsIn_wide.1 (callsIn_of_wp_marks (n := 3) Try.func32 rfl trivial ?_ rfl)
  simp only [Try.ntmps32, List.size_toArray, List.length_cons, List.length_nil, Nat.reduceAdd, Nat.reduceSub, Array.replicate_succ, Array.replicate_zero, List.push_toArray, List.append_toArray, List.nil_append, List.cons_append]
  refine wpIn_wide.2 ?_
  go_wp2_with fail
  refine (sRight32_yes _ _ _ hk).mono ?_
  rintro e w1 ⟨rfl, hb1⟩
  obtain ⟨hc1, hf1⟩ := hb1.cells
  clear hc1 hf1
  have qa_0 : w1.cell? ⟨w.heap.size, 0, none⟩ = some (.int .u32 f) := (hb1.cells.1 _ _ (by simp <;> omega)).trans (by simp [go_sem])
  have qa_1 : w1.cell? ⟨w.heap.size, 1, none⟩ = some (.int .i64 n) := (hb1.cells.1 _ _ (by simp <;> omega)).trans (by simp [go_sem])
  have pa := World.block_lt_of_cell? _ ⟨w.heap.size, 0, none⟩ qa_0
  have ra := Nat.lt_succ_of_lt pa
  have qb_0 : w1.cell? ⟨w.heap.size + 1, 0, none⟩ = some (.int .i64 c) := (hb1.cells.1 _ _ (by simp <;> omega)).trans (by simp [go_sem])
  have pb := World.block_lt_of_cell? _ ⟨w.heap.size + 1, 0, none⟩ qb_0
  have rb := Nat.lt_succ_of_lt pb
  go_wp2_with fail
  refine (lRight _ _).mono ?_
  rintro e w' ⟨rfl, rfl⟩
  rw [hc]
  go_wp2_with fail
  refine (sRuns32 _ _ _ _).mono ?_
  rintro e w2 ⟨rfl, ⟨s0, s1, c0⟩, hz, hb2⟩
  have qp := hb2.cell (b := w1.heap.size) (o := 0) (v := .slice none 0 0) (by simp [go_sem])
  have zp := hb2.frozen (b := w1.heap.size) (o := 0) (v := .slice none 0 0) (by simp [go_sem]) (by simp [go_sem])
  go_wp2
  have hsz2 : w2.heap.size = w1.heap.size + 3 := by rw [hz]; simp
  have hle2 : w1.heap.size + 3 ≤ w2.heap.size := by omega
  have hge2 : w2.heap.size ≤ w1.heap.size + 3 := by omega
  clear hz hsz2
  have E1 : Ext w w1 := by repeat (first | with_reducible exact Ext.refl _ | with_reducible assumption | with_reducible refine Ext.alloc ?_ _ | with_reducible refine Ext.drew ?_ | with_reducible refine Ext.drewN ?_ _ | with_reducible refine Ext.setCell ?_ (by simp <;> omega) _ | with_reducible refine Ext.trans ?_ (by assumption))
  have E2 : Ext w1 w2 := by repeat (first | with_reducible exact Ext.refl _ | with_reducible assumption | with_reducible refine Ext.alloc ?_ _ | with_reducible refine Ext.drew ?_ | with_reducible refine Ext.drewN ?_ _ | with_reducible refine Ext.setCell ?_ (by simp <;> omega) _ | with_reducible refine Ext.trans ?_ (by assumption))
  refine wp_range (gf := 54) rfl (enters_of Try.func54 (by kernel_rfl) rfl) ?_
  intro fn rec hrec
  simp only [List.append_toArray, List.nil_append, List.cons_append]
  have hdef : rec.defers = w2.heap.size := by rw [hrec]; rfl
  obtain ⟨W0, hW0⟩ : ∃ W0, (w2.alloc (.deferred (some []))).alloc (.loop rec) = W0 := ⟨_, rfl⟩
  rw [hW0]
  have X0 : Ext w2 W0 := by rw [← hW0]; exact ((Ext.refl _).alloc _).alloc _
  have hs0 : W0.heap.size = w2.heap.size + 2 := by rw [← hW0]; simp
  have M0 : Mid w1 (w2.heap.size + 2) 67 2 (w2.heap.size + 1) w1.heap.size rec (.slice none 0 0) 0 [] W0 := by
    refine ⟨?_, ?_, X0.cell qp, X0.frozen qp zp, World.ownsRow_nil _ _ _ _, E2.trans X0⟩
    · rw [← hW0]; have := World.alloc_heap_new (w2.alloc (.deferred (some []))) (.loop rec); rwa [World.size_alloc] at this
    · rw [hdef, ← hW0]; exact (Below.heap_alloc _ _ _ (by simp)).trans (World.alloc_heap_new w2 _)
  have s0' := X0.cell (b := w1.heap.size + 1) (o := 0) (v := .int .u32 f) (by simpa using s0)
  have s1' := X0.cell (b := w1.heap.size + 1) (o := 1) (v := .int .i64 n) (by simpa using s1)
  have c0' := X0.cell (b := w1.heap.size + 1 + 1) (o := 0) (v := .int .i64 c) (by simpa using c0)
  refine (sRunsIt32 f n c w1 (w2.heap.size + 2) 67 (w2.heap.size + 1) w1.heap.size (w1.heap.size + 1) (w1.heap.size + 1 + 1) rec W0 hc HF.out ⟨hr.1, hnc⟩ s0' s1' c0' (by omega) (by omega) (by omega) (by omega) (by omega) (by omega) (by omega) (by omega) M0 ?hY).mono ?_
  case hY =>
    intro v k cs f1 m W hM hcb hk1 hf10 hf11 hbs
    have hy := run_yield (P := Try.prog) (args := #[.agg #[.int .u32 f1, .int .i64 m]]) hM.L (by rw [hrec]; rfl)
    simp [hrec, recOf] at hy
    refine ⟨_, _, _, _, hy, ?_⟩
    refine roundIn_of_wpIn trivial ?_
    refine region_round_list (by kernel_rfl) ?_
    have HM := Lib.hid hM
    clear hM
    have qW := HM.out.c
    have zW := HM.out.f
    have qbW := HM.out.b.cell qb_0
    have hbW : w1.heap.size < W.heap.size := World.block_lt_of_cell? _ ⟨w1.heap.size, 0, none⟩ qW
    go_wp2
    have XW : Ext W (W.alloc (.cells #[.int .u32 f1, .int .i64 m] 29)) := (Ext.refl _).alloc _
    have MW := HM.out.grow XW
    obtain ⟨W5, hW5⟩ : ∃ W5, (W.alloc (.cells #[.int .u32 f1, .int .i64 m] 29)).putObj (w2.heap.size + 1) (.loop { rec with state := .busy }) = W5 := ⟨_, rfl⟩
    have B5 : But (· = w2.heap.size + 1) (W.alloc (.cells #[.int .u32 f1, .int .i64 m] 29)) W5 := by rw [← hW5]; exact but_putObj _ _ _
    have hbegin := run_beginRound (P := Try.prog) MW.L (by rw [hrec]; rfl)
    rw [hW5] at hbegin
    have L5 : W5.heap[w2.heap.size + 1]? = some (.loop { rec with state := .busy }) := by
      rw [← hW5]; exact World.putObj_heap_same (by simp; omega)
    have K5 := B5.heap MW.K (by omega)
    have q5 := B5.cell MW.c (by omega)
    have z5 := B5.frozen MW.c MW.f (by omega)
    have c5 := B5.cell (XW.cell qbW) (by omega)
    have u5 := B5.cell (k := W.heap.size) (o := 0) (v := .int .u32 f1) (by simp [go_sem]) (by omega)
    have m5 := B5.cell (k := W.heap.size) (o := 1) (v := .int .i64 m) (by simp [go_sem]) (by omega)
    have R5 := B5.row MW.row (fun g hg e => by have := (MW.row.lt g hg).1; omega)
    have T5 : But (fun b => b = w2.heap.size + 1 ∨ b = w1.heap.size ∨ v.ownBlock = some b) W W5 := (XW.but _).trans (B5.mono fun k _ e => .inl e)
    have S5 : W.heap.size < W5.heap.size := World.block_lt_of_cell? _ ⟨W.heap.size, 0, none⟩ u5
    have X5 := B5.ext MW.b (fun i e => by omega)
    have HB5 := Lib.hid B5
    have HT5 := Lib.hid T5
    have HR5 := Lib.hid R5
    have HK5 := Lib.hid K5
    have HL5 := Lib.hid L5
    have HREC := Lib.hid hrec
    have HX5 := Lib.hid X5
    have HMW := Lib.hid MW
    have HHDEF := Lib.hid hdef
    clear B5 T5 R5 K5 L5 hW5 XW hW0 M0 X0 s0 s1 c0 s0' s1' c0' qp zp qa_0 qa_1 qW zW qbW hy hrec X5 MW hdef
    show ∃ w₂, (Instr.beginRound _).run Try.prog _ = .ok () w₂ ∧ _
    refine ⟨W5, hbegin, ?_⟩
    clear hbegin
    refine wpIn_block ?_
    refine region_round_late 8 v (by kernel_rfl) (by kernel_rfl) (by kernel_rfl) rfl rfl rfl ?hy2 ?_
    case hy2 =>
      intro w' hl
      have := (laters_ext hl).cell q5
      simp [go_sem, this]
    simp only [List.take_succ_cons, List.take_zero, List.drop_succ_cons, List.drop_zero, Act.put, List.setIfInBounds_toArray, List.set_cons_succ, List.set_cons_zero]
    have l1 := fun (g : Later W5) => g.ok.cell c5
    have l2 := fun (g : Later W5) => g.ok.cell u5
    have l3 := fun (g : Later W5) => g.ok.cell m5
    repeat (go_big_quiet_step ((fail)))
    go_big_quiet_step ((go_at_call 46; exact laterS (slotU32 _ _ _ hc hf10 hf11)))
    repeat (go_big_quiet_step ((fail)))
    refine wpQuiet_nil ?_
    intro w6 hl6
    have X6 := laters_ext hl6
    clear hl6 l1 l2 l3
    have s6 := X6.size
    go_wp2
    show laters W5 _ ∧ _
    refine ⟨⟨⟨_, X6.alloc _⟩, rfl⟩, ?_⟩
    have X7 : Ext W5 (w6.alloc (.cells #[.int .i64 (f1 % c), .int .i64 m] 67)) := X6.alloc _
    have q7 := X7.cell q5
    have z7 := X7.frozen q5 z5
    have R7 := (X7.but (fun _ => False)).row HR5.out (fun _ _ => id)
    have S7 := X7.size
    have C7 : ∀ j u, ([.int .i64 (f1 % c), .int .i64 m] : List Value)[j]? = some u → (w6.alloc (.cells #[.int .i64 (f1 % c), .int .i64 m] 67)).cell? ((⟨w6.heap.size, 0, none⟩ : Addr).add j) = some u := World.news_of_block (World.alloc_heap_new w6 _)
    have HC7 := Lib.hid C7
    have HX7 := Lib.hid X7
    have HR7 := Lib.hid R7
    clear C7 X7 R7
    generalize hg7 : w6.alloc (.cells #[.int .i64 (f1 % c), .int .i64 m] 67) = W7 at *
    have HG7 := Lib.hid hg7
    clear hg7
    go_wp2_with (at_builtin; refine wpList_append_lies _ rfl _ _ 64 rfl (w2.heap.size + 2) 67 i0 (.agg #[.int .i64 0, .int .i64 0]) 2 16 Try.underlying64 hi hz0 hz1 hz2 rfl (by decide) _ _ _ rfl HR7.out ⟨w6.heap.size, 0, none⟩ 1 1 [.int .i64 (f1 % c), .int .i64 m] rfl rfl HC7.out ?c2 (by decide) ?c3 ?c4 ?c5 W7.heap.size rfl ?_)
    case c2 => intro u hu; simp at hu; rcases hu with rfl | rfl <;> rfl
    case c3 => unfold maxLen; omega
    case c4 => omega
    case c5 => omega
    intro g cap w8 hown8 hgrow8 hat8 hlt8
    have hvp : ∀ b, b < w2.heap.size + 2 → ¬ v.ownBlock = some b := fun b hb e => by have := (HR5.out.lt b e).1; omega
    have B8 := but_grown hgrow8
    have q8 := B8.cell q7 (hvp _ (by omega))
    have z8 := B8.frozen q7 z7 (hvp _ (by omega))
    have hgb : w2.heap.size + 2 ≤ g := (hown8.lt g rfl).1
    have HO8 := Lib.hid hown8
    have HB8 := Lib.hid B8
    have HA8 := Lib.hid hat8
    have HVP := Lib.hid hvp
    clear hown8 B8 hat8 hgrow8 hvp
    go_wp2
    show ∃ v w', (Instr.endRound _ none).run Try.prog _ = .ok v w' ∧ _
    have X7 := HX7.out
    have B9 := but_setCell w8 ⟨w1.heap.size, 0, none⟩ (.slice (some ⟨g, 0, none⟩) (k + 1) cap)
    have c9 : (w8.setCell ⟨w1.heap.size, 0, none⟩ (.slice (some ⟨g, 0, none⟩) (k + 1) cap)).cell? ⟨w1.heap.size, 0, none⟩ = some (.slice (some ⟨g, 0, none⟩) (k + 1) cap) := World.cell?_setCell_same' _ _ _ (by rw [q8]; rfl)
    have z9 : (w8.setCell ⟨w1.heap.size, 0, none⟩ (.slice (some ⟨g, 0, none⟩) (k + 1) cap)).frozen? ⟨w1.heap.size, 0, none⟩ = false := by rw [World.frozen?_setCell]; exact z8
    generalize w8.setCell ⟨w1.heap.size, 0, none⟩ (.slice (some ⟨g, 0, none⟩) (k + 1) cap) = W9 at *
    have hdef := HHDEF.out
    have L9 := B9.heap (HB8.out.heap ((X7.but (fun _ => False)).heap HL5.out id) (HVP.out _ (by omega))) (by simp; omega)
    have K9 := B9.heap (HB8.out.heap ((X7.but (fun _ => False)).heap HK5.out id) (HVP.out _ (by omega))) (by simp; omega)
    have R9 := B9.row HO8.out (fun g' hg' e => by simp [Value.ownBlock] at hg' e; omega)
    refine ⟨_, _, run_endRound none L9, rfl, .slice (some ⟨g, 0, none⟩) (k + 1) cap, ?_, ?_, ?_⟩
    · have erec : ({ ({ rec with state := .busy } : Loop) with state := if (none : Option Code).isNone = true then LoopState.ready else LoopState.done, pending := none } : Loop) = rec := by rw [HREC.out]; rfl
      rw [erec]
      have BL := but_putObj W9 (w2.heap.size + 1) (.loop rec)
      exact ⟨World.putObj_heap_same (Array.getElem?_eq_some_iff.1 L9).1, BL.heap K9 (by omega), BL.cell c9 (by omega), BL.frozen c9 z9 (by omega), BL.row R9 (fun g' hg' e => by simp [Value.ownBlock] at hg' e; omega),
        BL.ext (B9.ext (HB8.out.ext (HX5.out.trans X7) (fun i e => by have := (HR5.out.lt i e).1; omega)) (fun i e => by simp at e; omega)) (fun i e => by omega)⟩
    · exact HT5.out.trans ((X7.but _).trans ((HB8.out.mono fun b _ e => .inr (.inr e)).trans ((B9.mono fun b _ e => .inr (.inl e)).trans ((but_putObj W9 (w2.heap.size + 1) _).mono fun b _ e => .inl e))))
    · rcases HA8.out with e | e
      · exact .inl e.symm
      · exact .inr ⟨g, rfl, by have := X7.size; omega⟩
  rintro e W3 ⟨hv, v, k, hM⟩
  refine ⟨hv, hM.L, fun W4 o4 hW4 => ?_⟩
  have B4 : But (· = w2.heap.size + 1) W3 W4 := by rw [hW4]; exact but_putObj _ _ _
  clear hW4
  have q4 := B4.cell hM.c (by omega)
  have K4 := B4.heap hM.K (by omega)
  have R4 := B4.row hM.row (fun g hg e => by have := (hM.row.lt g hg).1; omega)
  have X4 := B4.ext hM.b (fun i e => by omega)
  rw [hdef] at K4
  clear s0 s1 c0 s0' s1' c0' qp zp qa_0 qa_1 qb_0
  go_wp2
  refine ⟨by simp, .inl ⟨_, _, rfl, run_takeDeferred K4, ?_⟩⟩
  have BD := but_putObj W4 w2.heap.size (.deferred none)
  refine ⟨_, results_tmp rfl _ _ _, ?_⟩
  have RD := BD.row R4 (fun g hg e => by have := (R4.lt g hg).1; omega)
  exact ⟨v, k, rfl, World.ownsRow.lower RD (by have := E1.size; omega), E1.trans (BD.ext X4 (fun i e => by omega))⟩
theorem sPieces64_no (f n c : Int) (w : World) (h : okN n = false ∨ rightB c = false ∨ c < n) : Calls Try.prog 33 #[.agg #[.int .u64 f, .int .i64 n], .int .i64 c] w fun e w' => e = .returned (.slice none 0 0) ∧ Ext w w' := by
  cases hk : okN n
  · clear h
    go_enter Try.func33, Try.ntmps33
    go_wp2_with fail
    refine (sRight64_no _ _ _ hk).mono ?_
    rintro e w1 ⟨rfl, hb1⟩
    obtain ⟨hc1, hf1⟩ := hb1.cells
    clear hc1 hf1
    have qa_0 : w1.cell? ⟨w.heap.size, 0, none⟩ = some (.int .u64 f) := (hb1.cells.1 _ _ (by simp <;> omega)).trans (by simp [go_sem])
    have qa_1 : w1.cell? ⟨w.heap.size, 1, none⟩ = some (.int .i64 n) := (hb1.cells.1 _ _ (by simp <;> omega)).trans (by simp [go_sem])
    have pa := World.block_lt_of_cell? _ ⟨w.heap.size, 0, none⟩ qa_0
    have ra := Nat.lt_succ_of_lt pa
    have qb_0 : w1.cell? ⟨w.heap.size + 1, 0, none⟩ = some (.int .i64 c) := (hb1.cells.1 _ _ (by simp <;> omega)).trans (by simp [go_sem])
    have pb := World.block_lt_of_cell? _ ⟨w.heap.size + 1, 0, none⟩ qb_0
    have rb := Nat.lt_succ_of_lt pb
    go_wp2
    go_ret
    refine ⟨rfl, ?_⟩
    repeat (first | with_reducible exact Ext.refl _ | with_reducible assumption | with_reducible refine Ext.alloc ?_ _ | with_reducible refine Ext.drew ?_ | with_reducible refine Ext.drewN ?_ _ | with_reducible refine Ext.setCell ?_ (by simp <;> omega) _ | with_reducible refine Ext.trans ?_ (by assumption))
  · cases hc : rightB c
    · clear h
      go_enter Try.func33, Try.ntmps33
      go_wp2_with fail
      refine (sRight64_yes _ _ _ hk).mono ?_
      rintro e w2 ⟨rfl, hb2⟩
      obtain ⟨hc2, hf2⟩ := hb2.cells
      clear hc2 hf2
      have qa_0 : w2.cell? ⟨w.heap.size, 0, none⟩ = some (.int .u64 f) := (hb2.cells.1 _ _ (by simp <;> omega)).trans (by simp [go_sem])
      have qa_1 : w2.cell? ⟨w.heap.size, 1, none⟩ = some (.int .i64 n) := (hb2.cells.1 _ _ (by simp <;> omega)).trans (by simp [go_sem])
      have pa := World.block_lt_of_cell? _ ⟨w.heap.size, 0, none⟩ qa_0
      have ra := Nat.lt_succ_of_lt pa
      have qb_0 : w2.cell? ⟨w.heap.size + 1, 0, none⟩ = some (.int .i64 c) := (hb2.cells.1 _ _ (by simp <;> omega)).trans (by simp [go_sem])
      have pb := World.block_lt_of_cell? _ ⟨w.heap.size + 1, 0, none⟩ qb_0
      have rb := Nat.lt_succ_of_lt pb
      go_wp2_with fail
      refine (lRight _ _).mono ?_
      rintro e w' ⟨rfl, rfl⟩
      go_wp2
      go_ret
      refine ⟨rfl, ?_⟩
      repeat (first | with_reducible exact Ext.refl _ | with_reducible assumption | with_reducible refine Ext.alloc ?_ _ | with_reducible refine Ext.drew ?_ | with_reducible refine Ext.drewN ?_ _ | with_reducible refine Ext.setCell ?_ (by simp <;> omega) _ | with_reducible refine Ext.trans ?_ (by assumption))
    · have d : decide (c < n) = true := by
        rcases h with h | h | h
        · rw [hk] at h; cases h
        · rw [hc] at h; cases h
        · simpa using h
      clear h
      go_enter Try.func33, Try.ntmps33
      go_wp2_with fail
      refine (sRight64_yes _ _ _ hk).mono ?_
      rintro e w3 ⟨rfl, hb3⟩
      obtain ⟨hc3, hf3⟩ := hb3.cells
      clear hc3 hf3
      have qa_0 : w3.cell? ⟨w.heap.size, 0, none⟩ = some (.int .u64 f) := (hb3.cells.1 _ _ (by simp <;> omega)).trans (by simp [go_sem])
      have qa_1 : w3.cell? ⟨w.heap.size, 1, none⟩ = some (.int .i64 n) := (hb3.cells.1 _ _ (by simp <;> omega)).trans (by simp [go_sem])
      have pa := World.block_lt_of_cell? _ ⟨w.heap.size, 0, none⟩ qa_0
      have ra := Nat.lt_succ_of_lt pa
      have qb_0 : w3.cell? ⟨w.heap.size + 1, 0, none⟩ = some (.int .i64 c) := (hb3.cells.1 _ _ (by simp <;> omega)).trans (by simp [go_sem])
      have pb := World.block_lt_of_cell? _ ⟨w.heap.size + 1, 0, none⟩ qb_0
      have rb := Nat.lt_succ_of_lt pb
      go_wp2_with fail
      refine (lRight _ _).mono ?_
      rintro e w' ⟨rfl, rfl⟩
      go_wp2
      go_ret
      refine ⟨rfl, ?_⟩
      repeat (first | with_reducible exact Ext.refl _ | with_reducible assumption | with_reducible refine Ext.alloc ?_ _ | with_reducible refine Ext.drew ?_ | with_reducible refine Ext.drewN ?_ _ | with_reducible refine Ext.setCell ?_ (by simp <;> omega) _ | with_reducible refine Ext.trans ?_ (by assumption))
set_option maxRecDepth 100000 in
theorem sPieces64 (f n c : Int) (w : World) (hk : okN n = true) (hc : rightB c = true) (hnc : n ≤ c) (hf0 : 0 ≤ f) (hf1 : f < 18446744073709551616) :
    Calls Try.prog 33 #[.agg #[.int .u64 f, .int .i64 n], .int .i64 c] w (PiecesDoes w (flat (pcs c (f % c) n))) := by
  obtain ⟨i0, hi, hz0, hz1, hz2⟩ := info_parts info_arr
  have hr := okN_true hk
  have d : decide (c < n) = false := by simp; omega
  have HF := Lib.hid (And.intro hf0 hf1)
  clear hf0 hf1
  refine callsIn_wide.1 (callsIn_of_wp_marks (n := 3) Try.func33 rfl trivial ?_ rfl)
  simp only [Try.ntmps33, List.size_toArray, List.length_cons, List.length_nil, Nat.reduceAdd, Nat.reduceSub, Array.replicate_succ, Array.replicate_zero, List.push_toArray, List.append_toArray, List.nil_append, List.cons_append]
  refine wpIn_wide.2 ?_
  go_wp2_with fail
  refine (sRight64_yes _ _ _ hk).mono ?_
  rintro e w1 ⟨rfl, hb1⟩
  obtain ⟨hc1, hf1⟩ := hb1.cells
  clear hc1 hf1
  have qa_0 : w1.cell? ⟨w.heap.size, 0, none⟩ = some (.int .u64 f) := (hb1.cells.1 _ _ (by simp <;> omega)).trans (by simp [go_sem])
  have qa_1 : w1.cell? ⟨w.heap.size, 1, none⟩ = some (.int .i64 n) := (hb1.cells.1 _ _ (by simp <;> omega)).trans (by simp [go_sem])
  have pa := World.block_lt_of_cell? _ ⟨w.heap.size, 0, none⟩ qa_0
  have ra := Nat.lt_succ_of_lt pa
  have qb_0 : w1.cell? ⟨w.heap.size + 1, 0, none⟩ = some (.int .i64 c) := (hb1.cells.1 _ _ (by simp <;> omega)).trans (by simp [go_sem])
  have pb := World.block_lt_of_cell? _ ⟨w.heap.size + 1, 0, none⟩ qb_0
  have rb := Nat.lt_succ_of_lt pb
  go_wp2_with fail
  refine (lRight _ _).mono ?_
  rintro e w' ⟨rfl, rfl⟩
  rw [hc]
  go_wp2_with fail
  refine (sRuns64 _ _ _ _).mono ?_
  rintro e w2 ⟨rfl, ⟨s0, s1, c0⟩, hz, hb2⟩
  have qp := hb2.cell (b := w1.heap.size) (o := 0) (v := .slice none 0 0) (by simp [go_sem])
  have zp := hb2.frozen (b := w1.heap.size) (o := 0) (v := .slice none 0 0) (by simp [go_sem]) (by simp [go_sem])
  go_wp2
  have hsz2 : w2.heap.size = w1.heap.size + 3 := by rw [hz]; simp
  have hle2 : w1.heap.size + 3 ≤ w2.heap.size := by omega
  have hge2 : w2.heap.size ≤ w1.heap.size + 3 := by omega
  clear hz hsz2
  have E1 : Ext w w1 := by repeat (first | with_reducible exact Ext.refl _ | with_reducible assumption | with_reducible refine Ext.alloc ?_ _ | with_reducible refine Ext.drew ?_ | with_reducible refine Ext.drewN ?_ _ | with_reducible refine Ext.setCell ?_ (by simp <;> omega) _ | with_reducible refine Ext.trans ?_ (by assumption))
  have E2 : Ext w1 w2 := by repeat (first | with_reducible exact Ext.refl _ | with_reducible assumption | with_reducible refine Ext.alloc ?_ _ | with_reducible refine Ext.drew ?_ | with_reducible refine Ext.drewN ?_ _ | with_reducible refine Ext.setCell ?_ (by simp <;> omega) _ | with_reducible refine Ext.trans ?_ (by assumption))
  refine wp_range (gf := 55) rfl (enters_of Try.func55 (by kernel_rfl) rfl) ?_
  intro fn rec hrec
  simp only [List.append_toArray, List.nil_append, List.cons_append]
  have hdef : rec.defers = w2.heap.size := by rw [hrec]; rfl
  obtain ⟨W0, hW0⟩ : ∃ W0, (w2.alloc (.deferred (some []))).alloc (.loop rec) = W0 := ⟨_, rfl⟩
  rw [hW0]
  have X0 : Ext w2 W0 := by rw [← hW0]; exact ((Ext.refl _).alloc _).alloc _
  have hs0 : W0.heap.size = w2.heap.size + 2 := by rw [← hW0]; simp
  have M0 : Mid w1 (w2.heap.size + 2) 67 2 (w2.heap.size + 1) w1.heap.size rec (.slice none 0 0) 0 [] W0 := by
    refine ⟨?_, ?_, X0.cell qp, X0.frozen qp zp, World.ownsRow_nil _ _ _ _, E2.trans X0⟩
    · rw [← hW0]; have := World.alloc_heap_new (w2.alloc (.deferred (some []))) (.loop rec); rwa [World.size_alloc] at this
    · rw [hdef, ← hW0]; exact (Below.heap_alloc _ _ _ (by simp)).trans (World.alloc_heap_new w2 _)
  have s0' := X0.cell (b := w1.heap.size + 1) (o := 0) (v := .int .u64 f) (by simpa using s0)
  have s1' := X0.cell (b := w1.heap.size + 1) (o := 1) (v := .int .i64 n) (by simpa using s1)
  have c0' := X0.cell (b := w1.heap.size + 1 + 1) (o := 0) (v := .int .i64 c) (by simpa using c0)
  refine (sRunsIt64 f n c w1 (w2.heap.size + 2) 67 (w2.heap.size + 1) w1.heap.size (w1.heap.size + 1) (w1.heap.size + 1 + 1) rec W0 hc HF.out ⟨hr.1, hnc⟩ s0' s1' c0' (by omega) (by omega) (by omega) (by omega) (by omega) (by omega) (by omega) (by omega) M0 ?hY).mono ?_
  case hY =>
    intro v k cs f1 m W hM hcb hk1 hf10 hf11 hbs
    have hy := run_yield (P := Try.prog) (args := #[.agg #[.int .u64 f1, .int .i64 m]]) hM.L (by rw [hrec]; rfl)
    simp [hrec, recOf] at hy
    refine ⟨_, _, _, _, hy, ?_⟩
    refine roundIn_of_wpIn trivial ?_
    refine region_round_list (by kernel_rfl) ?_
    have HM := Lib.hid hM
    clear hM
    have qW := HM.out.c
    have zW := HM.out.f
    have qbW := HM.out.b.cell qb_0
    have hbW : w1.heap.size < W.heap.size := World.block_lt_of_cell? _ ⟨w1.heap.size, 0, none⟩ qW
    go_wp2
    have XW : Ext W (W.alloc (.cells #[.int .u64 f1, .int .i64 m] 32)) := (Ext.refl _).alloc _
    have MW := HM.out.grow XW
    obtain ⟨W5, hW5⟩ : ∃ W5, (W.alloc (.cells #[.int .u64 f1, .int .i64 m] 32)).putObj (w2.heap.size + 1) (.loop { rec with state := .busy }) = W5 := ⟨_, rfl⟩
    have B5 : But (· = w2.heap.size + 1) (W.alloc (.cells #[.int .u64 f1, .int .i64 m] 32)) W5 := by rw [← hW5]; exact but_putObj _ _ _
    have hbegin := run_beginRound (P := Try.prog) MW.L (by rw [hrec]; rfl)
    rw [hW5] at hbegin
    have L5 : W5.heap[w2.heap.size + 1]? = some (.loop { rec with state := .busy }) := by
      rw [← hW5]; exact World.putObj_heap_same (by simp; omega)
    have K5 := B5.heap MW.K (by omega)
    have q5 := B5.cell MW.c (by omega)
    have z5 := B5.frozen MW.c MW.f (by omega)
    have c5 := B5.cell (XW.cell qbW) (by omega)
    have u5 := B5.cell (k := W.heap.size) (o := 0) (v := .int .u64 f1) (by simp [go_sem]) (by omega)
    have m5 := B5.cell (k := W.heap.size) (o := 1) (v := .int .i64 m) (by simp [go_sem]) (by omega)
    have R5 := B5.row MW.row (fun g hg e => by have := (MW.row.lt g hg).1; omega)
    have T5 : But (fun b => b = w2.heap.size + 1 ∨ b = w1.heap.size ∨ v.ownBlock = some b) W W5 := (XW.but _).trans (B5.mono fun k _ e => .inl e)
    have S5 : W.heap.size < W5.heap.size := World.block_lt_of_cell? _ ⟨W.heap.size, 0, none⟩ u5
    have X5 := B5.ext MW.b (fun i e => by omega)
    have HB5 := Lib.hid B5
    have HT5 := Lib.hid T5
    have HR5 := Lib.hid R5
    have HK5 := Lib.hid K5
    have HL5 := Lib.hid L5
    have HREC := Lib.hid hrec
    have HX5 := Lib.hid X5
    have HMW := Lib.hid MW
    have HHDEF := Lib.hid hdef
    clear B5 T5 R5 K5 L5 hW5 XW hW0 M0 X0 s0 s1 c0 s0' s1' c0' qp zp qa_0 qa_1 qW zW qbW hy hrec X5 MW hdef
    show ∃ w₂, (Instr.beginRound _).run Try.prog _ = .ok () w₂ ∧ _
    refine ⟨W5, hbegin, ?_⟩
    clear hbegin
    refine wpIn_block ?_
    refine region_round_late 8 v (by kernel_rfl) (by kernel_rfl) (by kernel_rfl) rfl rfl rfl ?hy2 ?_
    case hy2 =>
      intro w' hl
      have := (laters_ext hl).cell q5
      simp [go_sem, this]
    simp only [List.take_succ_cons, List.take_zero, List.drop_succ_cons, List.drop_zero, Act.put, List.setIfInBounds_toArray, List.set_cons_succ, List.set_cons_zero]
    have l1 := fun (g : Later W5) => g.ok.cell c5
    have l2 := fun (g : Later W5) => g.ok.cell u5
    have l3 := fun (g : Later W5) => g.ok.cell m5
    repeat (go_big_quiet_step ((fail)))
    go_big_quiet_step ((go_at_call 48; exact laterS (slotU64 _ _ _ hc hf10 hf11)))
    repeat (go_big_quiet_step ((fail)))
    refine wpQuiet_nil ?_
    intro w6 hl6
    have X6 := laters_ext hl6
    clear hl6 l1 l2 l3
    have s6 := X6.size
    go_wp2
    show laters W5 _ ∧ _
    refine ⟨⟨⟨_, X6.alloc _⟩, rfl⟩, ?_⟩
    have X7 : Ext W5 (w6.alloc (.cells #[.int .i64 (f1 % c), .int .i64 m] 67)) := X6.alloc _
    have q7 := X7.cell q5
    have z7 := X7.frozen q5 z5
    have R7 := (X7.but (fun _ => False)).row HR5.out (fun _ _ => id)
    have S7 := X7.size
    have C7 : ∀ j u, ([.int .i64 (f1 % c), .int .i64 m] : List Value)[j]? = some u → (w6.alloc (.cells #[.int .i64 (f1 % c), .int .i64 m] 67)).cell? ((⟨w6.heap.size, 0, none⟩ : Addr).add j) = some u := World.news_of_block (World.alloc_heap_new w6 _)
    have HC7 := Lib.hid C7
    have HX7 := Lib.hid X7
    have HR7 := Lib.hid R7
    clear C7 X7 R7
    generalize hg7 : w6.alloc (.cells #[.int .i64 (f1 % c), .int .i64 m] 67) = W7 at *
    have HG7 := Lib.hid hg7
    clear hg7
    go_wp2_with (at_builtin; refine wpList_append_lies _ rfl _ _ 64 rfl (w2.heap.size + 2) 67 i0 (.agg #[.int .i64 0, .int .i64 0]) 2 16 Try.underlying64 hi hz0 hz1 hz2 rfl (by decide) _ _ _ rfl HR7.out ⟨w6.heap.size, 0, none⟩ 1 1 [.int .i64 (f1 % c), .int .i64 m] rfl rfl HC7.out ?c2 (by decide) ?c3 ?c4 ?c5 W7.heap.size rfl ?_)
    case c2 => intro u hu; simp at hu; rcases hu with rfl | rfl <;> rfl
    case c3 => unfold maxLen; omega
    case c4 => omega
    case c5 => omega
    intro g cap w8 hown8 hgrow8 hat8 hlt8
    have hvp : ∀ b, b < w2.heap.size + 2 → ¬ v.ownBlock = some b := fun b hb e => by have := (HR5.out.lt b e).1; omega
    have B8 := but_grown hgrow8
    have q8 := B8.cell q7 (hvp _ (by omega))
    have z8 := B8.frozen q7 z7 (hvp _ (by omega))
    have hgb : w2.heap.size + 2 ≤ g := (hown8.lt g rfl).1
    have HO8 := Lib.hid hown8
    have HB8 := Lib.hid B8
    have HA8 := Lib.hid hat8
    have HVP := Lib.hid hvp
    clear hown8 B8 hat8 hgrow8 hvp
    go_wp2
    show ∃ v w', (Instr.endRound _ none).run Try.prog _ = .ok v w' ∧ _
    have X7 := HX7.out
    have B9 := but_setCell w8 ⟨w1.heap.size, 0, none⟩ (.slice (some ⟨g, 0, none⟩) (k + 1) cap)
    have c9 : (w8.setCell ⟨w1.heap.size, 0, none⟩ (.slice (some ⟨g, 0, none⟩) (k + 1) cap)).cell? ⟨w1.heap.size, 0, none⟩ = some (.slice (some ⟨g, 0, none⟩) (k + 1) cap) := World.cell?_setCell_same' _ _ _ (by rw [q8]; rfl)
    have z9 : (w8.setCell ⟨w1.heap.size, 0, none⟩ (.slice (some ⟨g, 0, none⟩) (k + 1) cap)).frozen? ⟨w1.heap.size, 0, none⟩ = false := by rw [World.frozen?_setCell]; exact z8
    generalize w8.setCell ⟨w1.heap.size, 0, none⟩ (.slice (some ⟨g, 0, none⟩) (k + 1) cap) = W9 at *
    have hdef := HHDEF.out
    have L9 := B9.heap (HB8.out.heap ((X7.but (fun _ => False)).heap HL5.out id) (HVP.out _ (by omega))) (by simp; omega)
    have K9 := B9.heap (HB8.out.heap ((X7.but (fun _ => False)).heap HK5.out id) (HVP.out _ (by omega))) (by simp; omega)
    have R9 := B9.row HO8.out (fun g' hg' e => by simp [Value.ownBlock] at hg' e; omega)
    refine ⟨_, _, run_endRound none L9, rfl, .slice (some ⟨g, 0, none⟩) (k + 1) cap, ?_, ?_, ?_⟩
    · have erec : ({ ({ rec with state := .busy } : Loop) with state := if (none : Option Code).isNone = true then LoopState.ready else LoopState.done, pending := none } : Loop) = rec := by rw [HREC.out]; rfl
      rw [erec]
      have BL := but_putObj W9 (w2.heap.size + 1) (.loop rec)
      exact ⟨World.putObj_heap_same (Array.getElem?_eq_some_iff.1 L9).1, BL.heap K9 (by omega), BL.cell c9 (by omega), BL.frozen c9 z9 (by omega), BL.row R9 (fun g' hg' e => by simp [Value.ownBlock] at hg' e; omega),
        BL.ext (B9.ext (HB8.out.ext (HX5.out.trans X7) (fun i e => by have := (HR5.out.lt i e).1; omega)) (fun i e => by simp at e; omega)) (fun i e => by omega)⟩
    · exact HT5.out.trans ((X7.but _).trans ((HB8.out.mono fun b _ e => .inr (.inr e)).trans ((B9.mono fun b _ e => .inr (.inl e)).trans ((but_putObj W9 (w2.heap.size + 1) _).mono fun b _ e => .inl e))))
    · rcases HA8.out with e | e
      · exact .inl e.symm
      · exact .inr ⟨g, rfl, by have := X7.size; omega⟩
  rintro e W3 ⟨hv, v, k, hM⟩
  refine ⟨hv, hM.L, fun W4 o4 hW4 => ?_⟩
  have B4 : But (· = w2.heap.size + 1) W3 W4 := by rw [hW4]; exact but_putObj _ _ _
  clear hW4
  have q4 := B4.cell hM.c (by omega)
  have K4 := B4.heap hM.K (by omega)
  have R4 := B4.row hM.row (fun g hg e => by have := (hM.row.lt g hg).1; omega)
  have X4 := B4.ext hM.b (fun i e => by omega)
  rw [hdef] at K4
  clear s0 s1 c0 s0' s1' c0' qp zp qa_0 qa_1 qb_0
  go_wp2
  refine ⟨by simp, .inl ⟨_, _, rfl, run_takeDeferred K4, ?_⟩⟩
  have BD := but_putObj W4 w2.heap.size (.deferred none)
  refine ⟨_, results_tmp rfl _ _ _, ?_⟩
  have RD := BD.row R4 (fun g hg e => by have := (R4.lt g hg).1; omega)
  exact ⟨v, k, rfl, World.ownsRow.lower RD (by have := E1.size; omega), E1.trans (BD.ext X4 (fun i e => by omega))⟩
end Go.Proofs.Ytclhbdedibcgjaa

/- A map from uses of cells to the places of these. -/
import Derived.Test.YtoaifbengichbaaOr4
import Derived.Maps.OwnRows
import Derived.DeepKeys4
import Derived.WideKeyEntry
namespace Go.Proofs.Ytoaifbengichbaa
open Go.RowKit Go.ChangeShapes
set_option linter.unusedVariables false
set_option linter.unusedSimpArgs false
set_option maxHeartbeats 1000000
theorem laid : laidOutB Try.prog = true := by kernel_rfl
theorem law_k : WideMaps.KeyLaw Try.prog 71 := deep_law_laid laid (m := 3) (by omega) (of_decide_eq_true (by kernel_rfl)) (by kernel_rfl) (by kernel_rfl)
theorem law_t : Maps.Keyed Try.prog 71 := Maps.Keyed.of_law law_k
theorem zero_ints (w : World) : (zeroValue 27).run Try.prog w = .ok (.slice none 0 0) w := by kernel_rfl
def tkV (c t k : Int) : Value := .agg #[.int .i64 c, .int .i64 t, .int .i64 k]
theorem cells_t : Try.prog.cellsOf 71 = 3 := by kernel_rfl
theorem cells_i : Try.prog.cellsOf 3 = 1 := by kernel_rfl
theorem keyT : Try.prog.keyType 71 = true := by kernel_rfl
theorem sizeT : ∃ m, Try.prog.types.size = m + 1 := ⟨Try.prog.types.size - 1, of_decide_eq_true (by kernel_rfl)⟩
theorem key_t (c t k : Int) (wc : (Lit.int .i64 c).wf = true) (wt : (Lit.int .i64 t).wf = true) (wk : (Lit.int .i64 k).wf = true) : ∃ kl, keyOf Try.prog 71 (tkV c t k) = some kl := by
  obtain ⟨m, hm⟩ := sizeT
  refine ⟨.string (keyBytes [.int .i64 c, .int .i64 t, .int .i64 k]), ?_⟩
  unfold keyOf tkV
  simp only [Try.underlying71]
  rw [if_pos (by simp [keyT, Value.formed, Try.underlying71, cells_t]), hm]
  unfold Program.keyLits
  simp only [Try.underlying71, Value.cells]
  rw [if_pos (by rw [cells_t]; exact ⟨rfl, by simp⟩)]
  simp [Program.keyLits, Try.underlying3, cells_i, wc, wt, wk, List.mapM_cons, List.mapM_nil]
theorem key_inj {c t k c' t' k' : Int} {kl : Lit} (h : keyOf Try.prog 71 (tkV c t k) = some kl) (h' : keyOf Try.prog 71 (tkV c' t' k') = some kl) : c = c' ∧ t = t' ∧ k = k' := by
  have := law_t.inj h h'
  simp [tkV] at this
  exact this
/-- which of the first m accesses are such a use -/
def pls (ls : List Acc) (c t k : Int) : Nat → List Int
  | 0 => []
  | m + 1 => pls ls c t k m ++ (if (A ls m).c = c ∧ (A ls m).t = t ∧ (A ls m).k = k then [(m : Int)] else [])
theorem pls_len (ls : List Acc) (c t k : Int) : ∀ m, (pls ls c t k m).length ≤ m
  | 0 => Nat.le_refl _
  | m + 1 => by
    have := pls_len ls c t k m
    unfold pls
    split <;> simp <;> omega
def ItemsAre (d : DataW Unit) (zs : List Int) : Prop := (d = .nil ∧ zs = []) ∨ d = .slice (lits .i64 zs) []
theorem lits_inj {a b : List Int} (h : (lits .i64 a : List (DataW Unit)) = lits .i64 b) : a = b := by
  unfold lits at h
  induction a generalizing b with
  | nil =>
    cases b with
    | nil => rfl
    | cons y b => simp at h
  | cons x a ih =>
    cases b with
    | nil => simp at h
    | cons y b =>
      simp only [List.map_cons, List.cons.injEq, DataW.lit.injEq, Lit.int.injEq, true_and] at h
      rw [h.1, ih h.2]
theorem items_same {d : DataW Unit} {a b : List Int} (h1 : ItemsAre d a) (h2 : ItemsAre d b) : a = b := by
  rcases h1 with ⟨e1, z1⟩ | e1 <;> rcases h2 with ⟨e2, z2⟩ | e2
  · rw [z1, z2]
  · rw [e1] at e2; cases e2
  · rw [e1] at e2; cases e2
  · rw [e1] at e2
    simp only [DataW.slice.injEq, and_true] at e2
    exact lits_inj e2
/-- block bm is a map from uses to their places among the first m, in rows from B on -/
def TM (w : World) (bm B : Nat) (ls : List Acc) (m : Nat) : Prop :=
  ∃ D : DataW Unit, w.ownsGroups Try.prog 71 B 3 .i64 bm m D ∧ ∀ c t k kl, keyOf Try.prog 71 (tkV c t k) = some kl → k = 6 ∨ k = 7 → ItemsAre (D.atKey kl .nil) (pls ls c t k m)
theorem TM.heap {w : World} {bm B : Nat} {ls : List Acc} {m : Nat} (h : TM w bm B ls m) : ∃ es ck, w.heap[bm]? = some (.map es ck) := by
  obtain ⟨D, ⟨es, ck, hb, _⟩, _⟩ := h
  exact ⟨es, ck, hb⟩
theorem TM.made (w : World) (ls : List Acc) : TM (w.alloc (.map #[] 0)) w.heap.size (w.heap.size + 1) ls 0 :=
  ⟨.map [], World.ownsGroups_made _ _ _ _ _, fun c t k kl _ _ => .inl ⟨rfl, rfl⟩⟩
theorem TM.look {w : World} {bm B : Nat} {ls : List Acc} {m : Nat} (h : TM w bm B ls m) (hm : m ≤ 1000) {c t k : Int} (wc : (Lit.int .i64 c).wf = true) (wt : (Lit.int .i64 t).wf = true) (hk : k = 6 ∨ k = 7) :
    ∃ v, (Instr.lookup 68 (.map (some bm)) (tkV c t k) false).run Try.prog w = .ok v w ∧ w.ownsInts B 3 .i64 v (pls ls c t k m) := by
  obtain ⟨D, h1, h2⟩ := h
  obtain ⟨kl, hkl⟩ := key_t c t k wc wt (by rcases hk with rfl | rfl <;> decide)
  obtain ⟨v, zs, hrun, hat, hoi, _, _⟩ := h1.at law_t Try.underlying68 (zero_ints w) (by unfold maxLen; omega) hkl
  have e : zs = pls ls c t k m := by
    have h3 := h2 c t k kl hkl hk
    rw [hat] at h3
    refine items_same (d := rowDatum .i64 v zs) ?_ h3
    rcases hoi.datum (H := Unit) with ⟨a, b⟩ | a
    · exact .inl ⟨a, b⟩
    · exact .inr a
  subst e
  exact ⟨v, hrun, hoi⟩
end Go.Proofs.Ytoaifbengichbaa

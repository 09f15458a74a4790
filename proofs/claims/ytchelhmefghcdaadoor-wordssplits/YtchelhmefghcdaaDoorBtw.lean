/- words.between, words.Join: texts with another one between any two. -/
import Derived.Test.YtchelhmefghcdaaDoorBld
import Derived.Test.YtchelhmefghcdaaDoorFmt
import Derived.OwnWalk
import Derived.Deep.AppendLies
import Derived.RangeFuncRecord
namespace Go.Proofs.YtchelhmefghcdaaDoor
open Go.RowKit
set_option linter.unusedVariables false
set_option maxHeartbeats 2000000
/-- texts with another one between any two -/
def cat (mid : List UInt8) : List (List UInt8) → List UInt8
  | [] => []
  | a :: r => a ++ r.flatMap (fun x => mid ++ x)
theorem cat_app (mid : List UInt8) {l : List (List UInt8)} (h : l ≠ []) (r : List (List UInt8)) : cat mid (l ++ r) = cat mid l ++ r.flatMap (fun x => mid ++ x) := by
  cases l with
  | nil => exact absurd rfl h
  | cons a l => simp [cat]
theorem cat_first (mid : List UInt8) (ls : List (List UInt8)) (h : 0 < ls.length) : cat mid (ls.take 1) = ls.getD 0 [] := by
  cases ls with
  | nil => simp at h
  | cons a l => simp [cat]
theorem cat_next (mid : List UInt8) (ls : List (List UInt8)) (k : Nat) (h0 : 0 < k) (h : k < ls.length) : cat mid (ls.take (k + 1)) = cat mid (ls.take k) ++ mid ++ ls.getD k [] := by
  rw [List.take_succ_eq_append_getElem h, cat_app mid (by intro e; have := congrArg List.length e; rw [List.length_take, List.length_nil] at this; omega)]
  simp [h]
theorem cat_le (mid : List UInt8) (ls : List (List UInt8)) (k : Nat) (h0 : 0 < k) (h : k ≤ ls.length) : (cat mid (ls.take k)).length ≤ (cat mid ls).length := by
  have e : ls = ls.take k ++ ls.drop k := (List.take_append_drop k ls).symm
  have h2 : (cat mid ls).length = (cat mid (ls.take k)).length + ((ls.drop k).flatMap (fun x => mid ++ x)).length := by
    have := cat_app mid (l := ls.take k) (by intro e; have := congrArg List.length e; rw [List.length_take, List.length_nil] at this; omega) (ls.drop k)
    rw [List.take_append_drop] at this
    rw [this, List.length_append]
  omega
/-- a slice of texts lies there -/
def Texts (w : World) (a : Option Addr) (len : Nat) (ls : List (List UInt8)) : Prop :=
  ls.length = len ∧ (len = 0 ∨ ∃ b off, a = some ⟨b, off, none⟩ ∧ ∀ i, i < ls.length → w.cell? ⟨b, off + i, none⟩ = some (.string (tx (ls.getD i []))))
theorem Texts.later {w w' : World} {a : Option Addr} {len : Nat} {ls : List (List UInt8)} (h : Texts w a len ls) (he : Ext w w') : Texts w' a len ls := by
  obtain ⟨h1, h2⟩ := h
  refine ⟨h1, h2.imp id ?_⟩
  rintro ⟨b, off, rfl, hz⟩
  exact ⟨b, off, rfl, fun i hi => he.cell (hz i hi)⟩
theorem cells_app (a b : List UInt8) : Lib.byteCells a ++ Lib.strCells (tx b) = Lib.byteCells (a ++ b) := by
  simp [Lib.byteCells, Lib.strCells, tx]
theorem cells_len (a : List UInt8) : (Lib.byteCells a).length = a.length := by simp [Lib.byteCells]
set_option maxRecDepth 100000 in
theorem between_yes (mid : List UInt8) (b off cap : Nat) (ls : List (List UInt8)) (w : World) (hl : (cat mid ls).length ≤ 100000000000000) (hn : ls.length < 4611686018427387904)
    (hz : ∀ i, i < ls.length → w.cell? ⟨b, off + i, none⟩ = some (.string (tx (ls.getD i [])))) :
    Calls Tryd.prog 32 #[.string (tx mid), .slice (some ⟨b, off, none⟩) ls.length cap] w fun e w' => e = .returned (.string (tx (cat mid ls))) ∧ Ext w w' := by
  have HZ := Lib.hid hz
  obtain ⟨n, hn2⟩ : ∃ n, n = ls.length := ⟨_, rfl⟩
  rw [← hn2]
  have HN := Lib.hid hn2
  have hn3 : n < 4611686018427387904 := by omega
  have HL := Lib.hid hl
  clear hz hn2 hl hn
  go_enter Tryd.func32, Tryd.ntmps32
  go_wp2
  go_loopw [10] (fun i wr => ∃ k : Nat, k ≤ n ∧ i = .int .i64 k ∧ Lib.IsBuilderF 63 5 w.heap.size w.heap.size (Lib.byteCells (cat mid (ls.take k))) wr ∧ Ext w wr) (fun i _ => n - (intOf i).toNat)
  case atStart => exact ⟨0, Nat.zero_le _, rfl, .inl ⟨Nat.le_refl _, .slice none 0 0, World.alloc_heap_new _ _, World.ownsRowF_nil _ _ _ _, by simp [Value.ownBlock]⟩, (Ext.refl _).alloc _⟩
  case round =>
    obtain ⟨k, hk, rfl, hB, hx⟩ := hrel
    have HB := Lib.hid hB
    clear hB
    by_cases hlt : k < n
    · have hkz : k < ls.length := by have := HN.out; omega
      have c0 := hx.cell (HZ.out k hkz)
      have hkn : (k : Int) < (n : Int) := by omega
      have hle := cat_le mid ls (k + 1) (by omega) (by omega)
      have hlL := HL.out
      by_cases h0 : k = 0
      · have hk0 : decide (0 < k) = false := by simp; omega
        have e1 := cat_first mid ls (by omega)
        have hkk : k + 1 = 1 := by omega
        have et : cat mid (ls.take (k + 1)) = cat mid (ls.take k) ++ ls.getD k [] := by rw [hkk, e1, h0]; rfl
        generalize ls.getD k [] = q at *
        have ET := Lib.hid et
        have hq : (cat mid (ls.take k)).length + q.length ≤ 100000000000000 := by rw [← List.length_append, ← et]; omega
        clear et e1 hkk hle hlL h0
        go_wp2_with fail
        refine (bWrite _ _ _ (tx q) _ HB.out (by rw [cells_len, tx_size]; omega) hx.size).mono ?_
        rintro e w1 ⟨rfl, h1, hb1⟩
        rw [cells_app, ← ET.out] at h1
        have H1 := Lib.hid h1
        have X1 : Ext w w1 := Below.trans hx hb1
        clear h1 hb1 c0
        go_wp2
        exact ⟨⟨k + 1, by omega, by go_num, .inr H1.out, X1⟩, by simp [intOf]; omega⟩
      · have hk0 : decide (0 < k) = true := by simp; omega
        have et := cat_next mid ls k (by omega) hkz
        generalize ls.getD k [] = q at *
        have ET := Lib.hid et
        have hq : (cat mid (ls.take k)).length + mid.length + q.length ≤ 100000000000000 := by rw [← List.length_append, ← List.length_append, ← et]; omega
        clear et hle hlL h0
        go_wp2_with fail
        refine (bWrite _ _ _ (tx mid) _ HB.out (by rw [cells_len, tx_size]; omega) hx.size).mono ?_
        rintro e w1 ⟨rfl, h1, hb1⟩
        rw [cells_app] at h1
        have H1 := Lib.hid h1
        have X1 : Ext w w1 := Below.trans hx hb1
        clear h1 hb1 c0
        go_wp2_with fail
        refine (bWrite _ _ _ (tx q) _ (.inr H1.out) (by rw [cells_len, tx_size, List.length_append]; omega) X1.size).mono ?_
        rintro e w2 ⟨rfl, h2, hb2⟩
        rw [cells_app, ← ET.out] at h2
        have H2 := Lib.hid h2
        have X2 : Ext w w2 := Below.trans X1 hb2
        clear h2 hb2
        go_wp2
        exact ⟨⟨k + 1, by omega, by go_num, .inr H2.out, X2⟩, by simp [intOf]; omega⟩
    · obtain rfl : k = n := by omega
      have e1 : cat mid (ls.take k) = cat mid ls := by rw [HN.out, List.take_length]
      rw [e1] at HB
      have HN2 := HN.out
      clear HN e1
      go_wp2_with fail
      refine (Tryd.Builder_String_any_f _ _ _ _ HB.out hx.size).mono ?_
      rintro e w1 ⟨rfl, _, hb1⟩
      have X1 : Ext w w1 := Below.trans hx hb1
      clear hb1
      go_wp2
      go_ret
      exact ⟨rfl, X1⟩
set_option maxRecDepth 100000 in
theorem between_nil (mid : List UInt8) (a : Option Addr) (cap : Nat) (w : World) :
    Calls Tryd.prog 32 #[.string (tx mid), .slice a 0 cap] w fun e w' => e = .returned (.string (tx [])) ∧ Ext w w' := by
  go_enter Tryd.func32, Tryd.ntmps32
  go_wp2
  refine wp_loop_rounds 1 ?_
  rw [rounds_succ]
  go_wp2_with fail
  refine (Tryd.Builder_String_empty_f w.heap.size w.heap.size _ (.inl ⟨Nat.le_refl _, .slice none 0 0, World.alloc_heap_new _ _, World.ownsRowF_nil _ _ _ _, by simp [Value.ownBlock]⟩) ((Ext.refl w).alloc _).size).mono ?_
  rintro e w1 ⟨rfl, _, hb1⟩
  have X1 : Ext w w1 := Below.trans ((Ext.refl w).alloc _) hb1
  clear hb1
  go_wp2
  go_ret
  exact ⟨rfl, X1⟩
theorem cBetween (mid : List UInt8) (a : Option Addr) (len cap : Nat) (ls : List (List UInt8)) (w : World) (h : Texts w a len ls) (hl : (cat mid ls).length ≤ 100000000000000) (hn : len < 4611686018427387904) :
    Calls Tryd.prog 32 #[.string (tx mid), .slice a len cap] w fun e w' => e = .returned (.string (tx (cat mid ls))) ∧ Ext w w' := by
  obtain ⟨h1, h2⟩ := h
  rcases h2 with rfl | ⟨b, off, rfl, hz⟩
  · have : ls = [] := List.length_eq_zero_iff.1 h1
    subst this
    exact between_nil mid a cap w
  · subst h1
    exact between_yes mid b off cap ls w hl hn hz
end Go.Proofs.YtchelhmefghcdaaDoor

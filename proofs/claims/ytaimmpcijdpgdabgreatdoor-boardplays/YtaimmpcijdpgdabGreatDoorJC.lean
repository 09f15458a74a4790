import Derived.Test.YtaimmpcijdpgdabGreatDoorRows
import Derived.Test.YtaimmpcijdpgdabGreatDoorExt
import Derived.WalkKit
import Derived.ProofKit
import Derived.Lib.ItoaNum
import Derived.Laws.Bits64
import Derived.Laws.IdiomStrings
import Derived.Test.YtaimmpcijdpgdabGreatDoorLyK
import Derived.Test.YtaimmpcijdpgdabGreatDoorRef02
import Derived.Lib.SlicesS
/- The document's answers of layer 6: numbers' words. -/
namespace Go.Proofs.YtaimmpcijdpgdabGreatDoor
open Go.RowKit
set_option linter.unusedVariables false
set_option maxHeartbeats 1000000
/-- a text of these bytes -/
def tx (l : List UInt8) : ByteArray := ⟨l.toArray⟩
theorem conv_digit (d : Nat) (w : World) (hd : d < 10) : (convert 148 9 (.slice (some ⟨w.heap.size, 0, none⟩) 1 1)).run Tryz.prog (w.alloc (.cells #[.int .u8 (48 + (d : Int))] 5)) = .ok (.string (tx [UInt8.ofNat (48 + d)])) (w.alloc (.cells #[.int .u8 (48 + (d : Int))] 5)) := by
  have h := run_convert_bytes_back (P := Tryz.prog) (w.alloc (.cells #[.int .u8 (48 + (d : Int))] 5)) 148 9 5 ⟨w.heap.size, 0, none⟩ 1 [UInt8.ofNat (48 + d)] Tryz.underlying148 Tryz.underlying5 Tryz.underlying9 (fun j hj => by
    match j, hj with
    | 0, _ =>
      have e : (UInt8.ofNat (48 + d)).toNat = 48 + d := by rw [UInt8.toNat_ofNat']; omega
      simp only [List.getElem_cons_zero, e]
      simp [Addr.add])
  exact h
set_option maxRecDepth 100000 in
theorem rDigits_small (x : Nat) (w : World) (hx : x < 10) : Calls Tryz.prog 121 #[.int .u64 x] w fun e w' => e = .returned (.string (tx [UInt8.ofNat (48 + x)])) ∧ Ext w w' := by
  have h10 : (x : Int) < 10 := by omega
  have hc := conv_digit x w hx
  have hm : (x : Int) % 10 = (x : Int) := by omega
  generalize tx [UInt8.ofNat (48 + x)] = s at *
  go_enter Tryz.func121, Tryz.ntmps121
  go_wp2
  go_ret
  exact ⟨rfl, (Ext.refl w).alloc _⟩
theorem dec_len (k : Nat) : ∀ x, x < 10 ^ (k + 1) → (Lib.decDigits x).length ≤ k + 1 := by
  induction k with
  | zero => intro x hx; unfold Lib.decDigits; rw [dif_pos (by simpa using hx)]; simp
  | succ k ih =>
    intro x hx
    unfold Lib.decDigits
    split
    · simp
    · have := ih (x / 10) (by rw [Nat.pow_succ] at hx; omega)
      simp; omega
theorem dec_len20 {x : Nat} (h : x < 18446744073709551616) : (Lib.decDigits x).length ≤ 20 := dec_len 19 x (by
  have : (10 : Nat) ^ 20 = 100000000000000000000 := by decide
  omega)
theorem tx_size (l : List UInt8) : (tx l).size = l.length := rfl
theorem tx_append (a b : List UInt8) : tx (a ++ b) = tx a ++ tx b := by
  apply ByteArray.ext
  simp [tx]
set_option maxRecDepth 100000 in
theorem rDigits (n : Nat) : ∀ (x : Nat) (w : World), x < n → x < 18446744073709551616 → Calls Tryz.prog 121 #[.int .u64 x] w fun e w' => e = .returned (.string (tx (Lib.decDigits x))) ∧ Ext w w' := by
  induction n with
  | zero => intro x w h; omega
  | succ n ih =>
    intro x w hn hx
    by_cases h : x < 10
    · have : Lib.decDigits x = [UInt8.ofNat (48 + x)] := by unfold Lib.decDigits; rw [dif_pos h]
      rw [this]
      exact rDigits_small x w h
    · have hd : Lib.decDigits x = Lib.decDigits (x / 10) ++ [UInt8.ofNat (48 + x % 10)] := by rw [Lib.decDigits]; rw [dif_neg h]
      obtain ⟨q, hq0⟩ : ∃ q, q = x / 10 := ⟨_, rfl⟩
      rw [← hq0] at hd
      have c := fun w => ih q w (by omega) (by omega)
      have h10 : ¬ (x : Int) < 10 := by omega
      have hc := conv_digit (x % 10) w (by omega)
      have hm : ((x % 10 : Nat) : Int) = (x : Int) % 10 := by omega
      rw [hm] at hc
      have hq : (x : Int) / 10 = (q : Int) := by omega
      have hl := dec_len20 (x := q) (by omega)
      obtain ⟨s1, hs1⟩ : ∃ s, s = tx [UInt8.ofNat (48 + x % 10)] := ⟨_, rfl⟩
      rw [← hs1] at hc
      obtain ⟨s2, hs2⟩ : ∃ s, s = tx (Lib.decDigits q) := ⟨_, rfl⟩
      rw [← hs2] at c
      have HD : Hid (tx (Lib.decDigits x) = s2 ++ s1) := Lib.hid (by rw [hd, hs1, hs2, tx_append])
      have hz1 : s2.size + s1.size ≤ 9223372036854775807 := by rw [hs1, hs2, tx_size, tx_size]; simp; omega
      have C := Lib.hid c
      clear c ih hm hd hs1 hs2 hq0
      go_enter Tryz.func121, Tryz.ntmps121
      go_wp2_with fail
      refine (C.out _).mono ?_
      rintro e w1 ⟨rfl, X1⟩
      go_wp2
      go_ret
      exact ⟨by rw [HD.out]; rfl, ((Ext.refl w).alloc _).trans X1⟩
theorem rNum6 (n : Int) (w : World) (h0 : -9223372036854775808 ≤ n) (h1 : n ≤ 9223372036854775807) : Calls Tryz.prog 90 #[.int .i64 n] w fun e w' => e = .returned (.string (tx (Lib.itoa n))) ∧ Ext w w' := by
  by_cases hn : n < 0
  · obtain ⟨m, hm⟩ : ∃ m : Nat, (m : Int) = -n := ⟨(-n).toNat, by omega⟩
    have hi : Lib.itoa n = 45 :: Lib.decDigits m := by unfold Lib.itoa; rw [if_pos hn, show n.natAbs = m by omega]
    obtain ⟨s, hs⟩ : ∃ s, s = tx (Lib.decDigits m) := ⟨_, rfl⟩
    have c := fun w => rDigits (m + 1) m w (by omega) (by omega)
    rw [← hs] at c
    have HI : Hid (tx (Lib.itoa n) = tx [45] ++ s) := Lib.hid (by rw [hi, hs, ← tx_append]; rfl)
    have hz1 : (tx [45]).size + s.size ≤ 9223372036854775807 := by
      have := dec_len20 (x := m) (by omega)
      rw [hs, tx_size, tx_size]; simp; omega
    have e1 : IntKind.u64.wrap (-(n + 1)) = -(n + 1) := by rw [IntKind.wrap_u64]; omega
    have e2 : -(n + 1) + 1 = -n := by omega
    rw [hm] at c
    have C := Lib.hid c
    have hz2 : ({ data := #[45] } : ByteArray).size + s.size ≤ 9223372036854775807 := hz1
    clear c hi hs hz1
    go_enter Tryz.func90, Tryz.ntmps90
    go_wp2_with fail
    refine (C.out _).mono ?_
    rintro e w1 ⟨rfl, X1⟩
    go_wp2
    go_ret
    exact ⟨by rw [HI.out]; rfl, X1⟩
  · obtain ⟨m, rfl⟩ := Int.eq_ofNat_of_zero_le (show 0 ≤ n by omega)
    have hi : Lib.itoa (m : Int) = Lib.decDigits m := by unfold Lib.itoa; rw [if_neg (by omega)]; rfl
    rw [hi]
    have C := Lib.hid fun w => rDigits (m + 1) m w (by omega) (by omega)
    generalize tx (Lib.decDigits m) = s at *
    have hn' : ¬ (m : Int) < 0 := by omega
    clear hi
    go_enter Tryz.func90, Tryz.ntmps90
    go_wp2_with fail
    refine (C.out _).mono ?_
    rintro e w1 ⟨rfl, X1⟩
    go_wp2
    go_ret
    exact ⟨rfl, X1⟩
end Go.Proofs.YtaimmpcijdpgdabGreatDoor
/- The document's cells of layer 11: slots, Of. -/
namespace Go.Proofs.YtaimmpcijdpgdabGreatDoor
open Go.RowKit
set_option linter.unusedVariables false
set_option linter.unusedSimpArgs false
set_option maxHeartbeats 2000000
attribute [local go_sem] later_cell later_frozen later_const
/-- a cell as the document has it: its name, its kind, what it has at first -/
structure DC where
  nm : ByteArray
  kd : Int
  fs : Int
def dcV (d : DC) : List Value := [.string d.nm, .int .i64 d.kd, .int .u64 d.fs]
def rowD (l : List DC) : List Value := l.flatMap dcV
theorem rowD_app (a b : List DC) : rowD (a ++ b) = rowD a ++ rowD b := List.flatMap_append
theorem rowD_len (l : List DC) : (rowD l).length = l.length * 3 := by
  induction l with
  | nil => rfl
  | cons d l ih => show (dcV d ++ rowD l).length = _; rw [List.length_append, ih]; simp [dcV]; omega
theorem rowD_one (l : List DC) : ∀ u ∈ rowD l, u.oneCell' = true := by
  intro u hu
  obtain ⟨d, _, hd⟩ := List.mem_flatMap.1 hu
  simp [dcV] at hd
  rcases hd with rfl | rfl | rfl <;> rfl
theorem rowD_at (l : List DC) (i j : Nat) (hi : i < l.length) (hj : j < 3) : (rowD l)[i * 3 + j]? = (dcV l[i])[j]? := by
  induction l generalizing i with
  | nil => simp at hi
  | cons d l ih =>
    show (dcV d ++ rowD l)[i * 3 + j]? = _
    have hd : (dcV d).length = 3 := rfl
    cases i with
    | zero => rw [List.getElem?_append_left (by omega)]; simp
    | succ i =>
      rw [List.getElem?_append_right (by omega), hd, show (i + 1) * 3 + j - 3 = i * 3 + j by omega, ih i (by simpa using hi)]
      rfl
/-- a row of cells of the call's own -/
def RD (w : World) (base : Nat) (v : Value) (l : List DC) : Prop := w.ownsRow base 78 3 v l.length (rowD l)
theorem RD.ext {w w' : World} {base : Nat} {v : Value} {l : List DC} (h : RD w base v l) (hx : Ext w w') : RD w' base v l := hx.row h
theorem RD.lower {w : World} {base b : Nat} {v : Value} {l : List DC} (h : RD w base v l) (hb : b ≤ base) : RD w b v l := row_lower h hb
theorem RD.nil (w : World) (base : Nat) : RD w base (.slice none 0 0) [] := World.ownsRow_nil _ _ _ _
theorem info_dc : (Tryz.prog.info? 78).map (fun i => (i.zero, i.size, i.bytes)) = some (some (.agg #[.string ⟨#[]⟩, .int .i64 0, .int .u64 0]), 3, 32) := by kernel_rfl
/-- how a row of the call's own lies -/
theorem RD.form {w : World} {base : Nat} {v : Value} {l : List DC} (h : RD w base v l) (h0 : 0 < l.length) : ∃ g cap, v = .slice (some ⟨g, 0, none⟩) l.length cap ∧ base ≤ g ∧ l.length ≤ cap ∧ ∀ j u, (rowD l)[j]? = some u → w.cell? ⟨g, j, none⟩ = some u := by
  rcases h.2 with ⟨h1, h2⟩ | ⟨g, cap, cur, h1, h2, h3, h4, h5, h6, h7⟩
  · omega
  · refine ⟨g, cap, h1, h2, h4, fun j u hu => ?_⟩
    have hv : cur[j]? = some u := by
      rw [← h7] at hu
      rw [← Array.getElem?_toList]
      rw [List.getElem?_take] at hu
      split at hu
      · exact hu
      · cases hu
    simp [World.cell?, h3, hv]
/-- a field of a row's cell -/
theorem RD.cell {w : World} {base : Nat} {v : Value} {l : List DC} (h : RD w base v l) {i : Nat} (hi : i < l.length) : ∃ g cap, v = .slice (some ⟨g, 0, none⟩) l.length cap ∧ w.cell? ⟨g, i * 3, none⟩ = some (.string l[i].nm) ∧ w.cell? ⟨g, i * 3 + 1, none⟩ = some (.int .i64 l[i].kd) ∧ w.cell? ⟨g, i * 3 + 2, none⟩ = some (.int .u64 l[i].fs) := by
  obtain ⟨g, cap, h1, _, _, h4⟩ := h.form (by omega)
  exact ⟨g, cap, h1, h4 _ _ (rowD_at l i 0 hi (by omega)), h4 _ _ (rowD_at l i 1 hi (by omega)), h4 _ _ (rowD_at l i 2 hi (by omega))⟩
/-- 'out = append(out, x..)' of a row of cells of the call's own -/
theorem appD {ops : Array Oper} {rest : List Oper} {o : Oper} {a : Act} {Q : Exit → Act → World → Prop} (w : World) (hgd : o.guard = none) (s x : Operand)
    (ho : o.op = .call { callee := .builtin .append, args := #[s, x], argTypes := #[48, 48] })
    (W : World) (v : Value) (l : List DC) (hs : a.eval s = v) (hown : RD w W.heap.size v l) (hW : Ext W w) (g cap : Nat) (l2 : List DC) (hx : a.eval x = .slice (some ⟨g, 0, none⟩) l2.length cap) (hcell : ∀ j u, (rowD l2)[j]? = some u → w.cell? ⟨g, j, none⟩ = some u) (hl : l.length ≤ 1000) (hl2 : l2.length ≤ 1000)
    (h : ∀ v' w', RD w' W.heap.size v' (l ++ l2) → Ext W w' → wpList Tryz.prog ops Q rest (a.put o.dst v') w') : wpList Tryz.prog ops Q (o :: rest) a w := by
  obtain ⟨i0, hi, hz0, hz1, hz2⟩ := info_parts info_dc
  refine wpList_append_own w hgd s x 48 ho W.heap.size 78 i0 (.agg #[.string ⟨#[]⟩, .int .i64 0, .int .u64 0]) 3 32 Tryz.underlying48 hi hz0 hz1 hz2 rfl (by decide) v l.length (rowD l) hs hown ⟨g, 0, none⟩ l2.length cap (rowD l2) hx (rowD_len l2) ?_ ?_ ?_ ?_ ?_ ?_
  · intro j u hu
    have := hcell j u hu
    by_cases hj : j = 0
    · subst hj; simpa [Addr.add] using this
    · simpa [Addr.add, hj] using this
  · exact rowD_one l2
  · unfold maxLen; omega
  · omega
  · exact hW.size
  · intro v' w' h1 h2 _
    refine h v' w' ?_ (hW.grown h2 fun j hj => (World.ownsRow.lt hown j hj).1)
    unfold RD
    rw [List.length_append, rowD_app]
    exact h1
theorem one_cells (w : World) (g : Nat) (d : DC) (h0 : w.cell? ⟨g, 0, none⟩ = some (.string d.nm)) (h1 : w.cell? ⟨g, 1, none⟩ = some (.int .i64 d.kd)) (h2 : w.cell? ⟨g, 2, none⟩ = some (.int .u64 d.fs)) : ∀ j u, (rowD [d])[j]? = some u → w.cell? ⟨g, j, none⟩ = some u := by
  intro j u hu
  match j, hu with
  | 0, hu => simp [rowD, dcV] at hu; subst hu; exact h0
  | 1, hu => simp [rowD, dcV] at hu; subst hu; exact h1
  | 2, hu => simp [rowD, dcV] at hu; subst hu; exact h2
  | j + 3, hu => simp [rowD, dcV] at hu
theorem r2FirstR (W c s p : Int) (w : World) (hW : W = 32 ∨ W = 64) (hc : rightB c = true) (h0 : 0 ≤ s) (h1 : s < c) : Calls Tryz.prog 122 #[.int .i64 W, .int .i64 c, .int .i64 s, .int .u64 p] w fun e w' => e = .returned (.int .u64 (firstR W c s p)) ∧ w = w' := by
  rcases hW with rfl | rfl
  · exact r2First_32 c s p w hc h0 h1
  · exact r2First_64 c s p w hc h0 h1
theorem r2AheadR (W c s p : Int) (w : World) (hW : W = 32 ∨ W = 64) (hc : rightB c = true) (h0 : 0 ≤ s) (h1 : s < c) : Calls Tryz.prog 123 #[.int .i64 W, .int .i64 c, .int .i64 s, .int .u64 p] w fun e w' => e = .returned (.int .u64 (aheadR W c s p)) ∧ w = w' := by
  rcases hW with rfl | rfl
  · exact r2Ahead_32 c s p w hc h0 h1
  · exact r2Ahead_64 c s p w hc h0 h1
/-- a cell of each slot -/
def slotL (k : Nat) (W C S : Int) (m : Nat) : List DC := (List.range m).map fun (i : Nat) => ⟨pName k ++ tx (Lib.itoa (i : Int)), pKind k, fst W C S k i⟩
theorem slotL_len (k : Nat) (W C S : Int) (m : Nat) : (slotL k W C S m).length = m := by simp [slotL]
theorem slotL_snoc (k : Nat) (W C S : Int) (m : Nat) : slotL k W C S (m + 1) = slotL k W C S m ++ [⟨pName k ++ tx (Lib.itoa (m : Int)), pKind k, fst W C S k m⟩] := by
  unfold slotL
  rw [List.range_succ, List.map_append]
  rfl
def GivesD (w : World) (l : List DC) (e : Ending) (w' : World) : Prop := ∃ v, e = .returned v ∧ RD w' w.heap.size v l ∧ Ext w w'
theorem itoa_len21 (i : Nat) (h : i ≤ 64) : (tx (Lib.itoa (i : Int))).size ≤ 21 := by
  rw [tx_size]
  unfold Lib.itoa
  rw [if_neg (by omega)]
  have := dec_len20 (x := (i : Int).toNat) (by omega)
  omega
set_option maxRecDepth 100000 in
theorem rSlots_7 (V W C P S : Int) (a : Option Addr) (n cap : Nat) (w : World) (hW : W = 32 ∨ W = 64) (hC : rightB C = true) (hC1 : C ≤ 64) (hS0 : 0 ≤ S) :
    Calls Tryz.prog 91 #[(.agg #[.int .i64 V, .int .i64 W, .int .i64 C, .int .i64 P, .int .u64 (S), .slice a n cap]), .string ⟨#[109, 97, 114, 107]⟩, .int .i64 1] w (GivesD w (slotL 7 W C S C.toNat)) := by
  have CS := Lib.hid (fun w => rStart V W C P S a n cap w hW hS0)
  obtain ⟨m, rfl⟩ : ∃ m : Nat, C = m := ⟨C.toNat, by have := right_range hC; omega⟩
  rw [show ((m : Int)).toNat = m by omega]
  have hm : m ≤ 64 := by omega
  have CN := Lib.hid (fun (i : Nat) (w : World) (hi : i ≤ 64) => rNum6 i w (by omega) (by omega))
  have CF := Lib.hid (fun (i : Nat) (w : World) (hi : i < m) => r2AheadR W m i (cutS W S) w hW hC (by omega) (by omega))
  have HST : Hid (∀ i : Nat, slotL 7 W m S (i + 1) = slotL 7 W m S i ++ [⟨⟨#[109, 97, 114, 107]⟩ ++ tx (Lib.itoa (i : Int)), 1, aheadR W m i (cutS W S)⟩]) := Lib.hid (fun i => by rw [slotL_snoc]; rfl)
  have HLN : Hid (∀ i : Nat, (slotL 7 W m S i).length = i) := Lib.hid (fun i => slotL_len _ _ _ _ _)
  have HZ : Hid (∀ i : Nat, i ≤ 64 → (tx (Lib.itoa (i : Int))).size ≤ 21) := Lib.hid (fun i hi => itoa_len21 i hi)
  have HG : Hid (∀ v w', RD w' w.heap.size v (slotL 7 W m S m) → Ext w w' → GivesD w (slotL 7 W m S m) (.returned v) w') := Lib.hid (fun v w' h1 h2 => ⟨v, rfl, h1, h2⟩)
  generalize hG : GivesD w (slotL 7 W m S m) = G at *
  have HSL : Hid (slotL 7 W m S 0 = []) := Lib.hid rfl
  generalize hf : slotL 7 W m S = F at *
  clear hG hf hC hC1 hS0 hW
  generalize cutS W S = p at *
  have d1 : ((⟨#[109, 97, 114, 107]⟩ : ByteArray).toList == (⟨#[115, 116, 97, 109, 112]⟩ : ByteArray).toList) = false := (Lib.bytes_beq_false_iff _ _).2 (by decide)
  have d2 : ((⟨#[109, 97, 114, 107]⟩ : ByteArray).toList == (⟨#[115, 108, 111, 116]⟩ : ByteArray).toList) = false := (Lib.bytes_beq_false_iff _ _).2 (by decide)
  go_enter Tryz.func91, Tryz.ntmps91
  go_wp2_with fail
  refine (CS.out _).mono ?_
  rintro e w1 ⟨rfl, hb1⟩
  obtain ⟨hc1, hf1⟩ := hb1.cells
  clear hc1 hf1
  have qc_0 : w1.cell? ⟨w.heap.size, 0, none⟩ = some (.int .i64 V) := (hb1.cells.1 _ _ (by simp <;> omega)).trans (by simp [go_sem])
  have qc_1 : w1.cell? ⟨w.heap.size, 1, none⟩ = some (.int .i64 W) := (hb1.cells.1 _ _ (by simp <;> omega)).trans (by simp [go_sem])
  have qc_2 : w1.cell? ⟨w.heap.size, 2, none⟩ = some (.int .i64 m) := (hb1.cells.1 _ _ (by simp <;> omega)).trans (by simp [go_sem])
  have qc_3 : w1.cell? ⟨w.heap.size, 3, none⟩ = some (.int .i64 P) := (hb1.cells.1 _ _ (by simp <;> omega)).trans (by simp [go_sem])
  have qc_4 : w1.cell? ⟨w.heap.size, 4, none⟩ = some (.int .u64 (S)) := (hb1.cells.1 _ _ (by simp <;> omega)).trans (by simp [go_sem])
  have qc_5 : w1.cell? ⟨w.heap.size, 5, none⟩ = some (.slice a n cap) := (hb1.cells.1 _ _ (by simp <;> omega)).trans (by simp [go_sem])
  have pc := World.block_lt_of_cell? _ ⟨w.heap.size, 0, none⟩ qc_0
  have rc := Nat.lt_succ_of_lt pc
  have EB : Ext w w1 := by repeat (first | with_reducible exact Ext.refl _ | with_reducible assumption | with_reducible refine Ext.alloc ?_ _ | with_reducible refine Ext.drew ?_ | with_reducible refine Ext.drewN ?_ _ | with_reducible refine Ext.setCell ?_ (by simp <;> omega) _ | with_reducible refine Ext.trans ?_ (by assumption))
  clear hb1
  go_wp2
  go_loopw [7, 9] (fun v i wr => ∃ k : Nat, k ≤ m ∧ i = .int .i64 k ∧ RD wr w1.heap.size v (F k) ∧ Ext w1 wr) (fun _ i _ => m - (intOf i).toNat)
  case atStart => exact ⟨0, Nat.zero_le _, rfl, by rw [HSL.out]; exact RD.nil _ _, Ext.refl _⟩
  case round =>
    obtain ⟨k, hk, rfl, hR, hx⟩ := hrel
    by_cases hlt : k < m
    · have hkm : (k : Int) < (m : Int) := by omega
      have p_0 := hx.cell qc_0
      have p_1 := hx.cell qc_1
      have p_2 := hx.cell qc_2
      have p_3 := hx.cell qc_3
      have p_4 := hx.cell qc_4
      have p_5 := hx.cell qc_5
      have HR := Lib.hid hR
      have HX := Lib.hid hx
      have CK := Lib.hid (fun w => CN.out k w (by omega))
      have hz := HZ.out k (by omega)
      have hz2 : (⟨#[109, 97, 114, 107]⟩ : ByteArray).size + (tx (Lib.itoa (k : Int))).size ≤ 9223372036854775807 := by
        have : (⟨#[109, 97, 114, 107]⟩ : ByteArray).size ≤ 10 := by decide
        omega
      have HT := Lib.hid (HST.out k)
      have hfl := HLN.out k
      have CK2 := Lib.hid (fun w => CF.out k w hlt)
      generalize tx (Lib.itoa (k : Int)) = num at *
      generalize aheadR W m k p = r at *
      clear hR hx
      go_wp2_with fail
      refine (CK.out _).mono ?_
      rintro e w2 ⟨rfl, X2⟩
      replace p_0 := X2.cell p_0
      replace p_1 := X2.cell p_1
      replace p_2 := X2.cell p_2
      replace p_3 := X2.cell p_3
      replace p_4 := X2.cell p_4
      replace p_5 := X2.cell p_5
      have pb : w.heap.size < w2.heap.size := World.block_lt_of_cell? _ ⟨w.heap.size, 0, none⟩ p_0
      have rb := Nat.lt_succ_of_lt pb
      have HR2 := Lib.hid (HR.out.ext X2)
      have HX2 := Lib.hid (HX.out.trans X2)
      clear X2
      go_wp2_with fail
      refine (CK2.out _).mono ?_
      rintro e w' ⟨rfl, rfl⟩
      go_upto_region 11 with (fail)
      refine settle_wp ?_
      intro w3 hb3
      have x_0 : w3.cell? ⟨w2.heap.size, 0, none⟩ = some (.string (⟨#[109, 97, 114, 107]⟩ ++ num)) := hb3.cell (by simp [go_sem])
      have x_1 : w3.cell? ⟨w2.heap.size, 1, none⟩ = some (.int .i64 1) := hb3.cell (by simp [go_sem])
      have x_2 : w3.cell? ⟨w2.heap.size, 2, none⟩ = some (.int .u64 r) := hb3.cell (by simp [go_sem])
      have E3 : Ext w2 w3 := Ext.trans (by repeat (first | with_reducible exact Ext.refl _ | with_reducible assumption | with_reducible refine Ext.alloc ?_ _ | with_reducible refine Ext.drew ?_ | with_reducible refine Ext.drewN ?_ _ | with_reducible refine Ext.setCell ?_ (by simp <;> omega) _ | with_reducible refine Ext.trans ?_ (by assumption))) hb3
      have HR3 := Lib.hid (HR2.out.ext E3)
      have HX3 := Lib.hid (HX2.out.trans E3)
      clear hb3 E3 p_0 p_1 p_2 p_3 p_4 p_5
      go_wp2_with (at_builtin; refine appD _ rfl _ _ rfl w1 _ (F k) rfl (HR3.out.ext ((Ext.refl w3).alloc _)) (HX3.out.alloc _) w3.heap.size 1 [⟨⟨#[109, 97, 114, 107]⟩ ++ num, 1, r⟩] rfl (one_cells _ _ _ (by simp [go_sem]) (by simp [go_sem]) (by simp [go_sem])) (by omega) (by simp) ?_)
      intro v' w' hR' hX'
      have HR4 := Lib.hid hR'
      have HX4 := Lib.hid hX'
      clear hR' hX'
      go_wp2
      exact ⟨⟨k + 1, by omega, by go_num, by rw [HT.out]; exact HR4.out, HX4.out⟩, by simp [intOf]; omega⟩
    · obtain rfl : k = m := by omega
      have p_2 := hx.cell qc_2
      have HG2 := Lib.hid (HG.out _ wr (hR.lower EB.size) (EB.trans hx))
      clear hR hx
      go_wp2
      exact HG2.out
set_option maxRecDepth 100000 in
theorem rSlots_8 (V W C P S : Int) (a : Option Addr) (n cap : Nat) (w : World) (hW : W = 32 ∨ W = 64) (hC : rightB C = true) (hC1 : C ≤ 64) (hS0 : 0 ≤ S) :
    Calls Tryz.prog 91 #[(.agg #[.int .i64 V, .int .i64 W, .int .i64 C, .int .i64 P, .int .u64 (S), .slice a n cap]), .string ⟨#[115, 116, 97, 109, 112]⟩, .int .i64 1] w (GivesD w (slotL 8 W C S C.toNat)) := by
  have CS := Lib.hid (fun w => rStart V W C P S a n cap w hW hS0)
  obtain ⟨m, rfl⟩ : ∃ m : Nat, C = m := ⟨C.toNat, by have := right_range hC; omega⟩
  rw [show ((m : Int)).toNat = m by omega]
  have hm : m ≤ 64 := by omega
  have CN := Lib.hid (fun (i : Nat) (w : World) (hi : i ≤ 64) => rNum6 i w (by omega) (by omega))
  have CF := Lib.hid (fun (i : Nat) (w : World) (hi : i < m) => r2FirstR W m i (cutS W S) w hW hC (by omega) (by omega))
  have HST : Hid (∀ i : Nat, slotL 8 W m S (i + 1) = slotL 8 W m S i ++ [⟨⟨#[115, 116, 97, 109, 112]⟩ ++ tx (Lib.itoa (i : Int)), 1, firstR W m i (cutS W S)⟩]) := Lib.hid (fun i => by rw [slotL_snoc]; rfl)
  have HLN : Hid (∀ i : Nat, (slotL 8 W m S i).length = i) := Lib.hid (fun i => slotL_len _ _ _ _ _)
  have HZ : Hid (∀ i : Nat, i ≤ 64 → (tx (Lib.itoa (i : Int))).size ≤ 21) := Lib.hid (fun i hi => itoa_len21 i hi)
  have HG : Hid (∀ v w', RD w' w.heap.size v (slotL 8 W m S m) → Ext w w' → GivesD w (slotL 8 W m S m) (.returned v) w') := Lib.hid (fun v w' h1 h2 => ⟨v, rfl, h1, h2⟩)
  generalize hG : GivesD w (slotL 8 W m S m) = G at *
  have HSL : Hid (slotL 8 W m S 0 = []) := Lib.hid rfl
  generalize hf : slotL 8 W m S = F at *
  clear hG hf hC hC1 hS0 hW
  generalize cutS W S = p at *
  go_enter Tryz.func91, Tryz.ntmps91
  go_wp2_with fail
  refine (CS.out _).mono ?_
  rintro e w1 ⟨rfl, hb1⟩
  obtain ⟨hc1, hf1⟩ := hb1.cells
  clear hc1 hf1
  have qc_0 : w1.cell? ⟨w.heap.size, 0, none⟩ = some (.int .i64 V) := (hb1.cells.1 _ _ (by simp <;> omega)).trans (by simp [go_sem])
  have qc_1 : w1.cell? ⟨w.heap.size, 1, none⟩ = some (.int .i64 W) := (hb1.cells.1 _ _ (by simp <;> omega)).trans (by simp [go_sem])
  have qc_2 : w1.cell? ⟨w.heap.size, 2, none⟩ = some (.int .i64 m) := (hb1.cells.1 _ _ (by simp <;> omega)).trans (by simp [go_sem])
  have qc_3 : w1.cell? ⟨w.heap.size, 3, none⟩ = some (.int .i64 P) := (hb1.cells.1 _ _ (by simp <;> omega)).trans (by simp [go_sem])
  have qc_4 : w1.cell? ⟨w.heap.size, 4, none⟩ = some (.int .u64 (S)) := (hb1.cells.1 _ _ (by simp <;> omega)).trans (by simp [go_sem])
  have qc_5 : w1.cell? ⟨w.heap.size, 5, none⟩ = some (.slice a n cap) := (hb1.cells.1 _ _ (by simp <;> omega)).trans (by simp [go_sem])
  have pc := World.block_lt_of_cell? _ ⟨w.heap.size, 0, none⟩ qc_0
  have rc := Nat.lt_succ_of_lt pc
  have EB : Ext w w1 := by repeat (first | with_reducible exact Ext.refl _ | with_reducible assumption | with_reducible refine Ext.alloc ?_ _ | with_reducible refine Ext.drew ?_ | with_reducible refine Ext.drewN ?_ _ | with_reducible refine Ext.setCell ?_ (by simp <;> omega) _ | with_reducible refine Ext.trans ?_ (by assumption))
  clear hb1
  go_wp2
  go_loopw [7, 9] (fun v i wr => ∃ k : Nat, k ≤ m ∧ i = .int .i64 k ∧ RD wr w1.heap.size v (F k) ∧ Ext w1 wr) (fun _ i _ => m - (intOf i).toNat)
  case atStart => exact ⟨0, Nat.zero_le _, rfl, by rw [HSL.out]; exact RD.nil _ _, Ext.refl _⟩
  case round =>
    obtain ⟨k, hk, rfl, hR, hx⟩ := hrel
    by_cases hlt : k < m
    · have hkm : (k : Int) < (m : Int) := by omega
      have p_0 := hx.cell qc_0
      have p_1 := hx.cell qc_1
      have p_2 := hx.cell qc_2
      have p_3 := hx.cell qc_3
      have p_4 := hx.cell qc_4
      have p_5 := hx.cell qc_5
      have HR := Lib.hid hR
      have HX := Lib.hid hx
      have CK := Lib.hid (fun w => CN.out k w (by omega))
      have hz := HZ.out k (by omega)
      have hz2 : (⟨#[115, 116, 97, 109, 112]⟩ : ByteArray).size + (tx (Lib.itoa (k : Int))).size ≤ 9223372036854775807 := by
        have : (⟨#[115, 116, 97, 109, 112]⟩ : ByteArray).size ≤ 10 := by decide
        omega
      have HT := Lib.hid (HST.out k)
      have hfl := HLN.out k
      have CK2 := Lib.hid (fun w => CF.out k w hlt)
      generalize tx (Lib.itoa (k : Int)) = num at *
      generalize firstR W m k p = r at *
      clear hR hx
      go_wp2_with fail
      refine (CK.out _).mono ?_
      rintro e w2 ⟨rfl, X2⟩
      replace p_0 := X2.cell p_0
      replace p_1 := X2.cell p_1
      replace p_2 := X2.cell p_2
      replace p_3 := X2.cell p_3
      replace p_4 := X2.cell p_4
      replace p_5 := X2.cell p_5
      have pb : w.heap.size < w2.heap.size := World.block_lt_of_cell? _ ⟨w.heap.size, 0, none⟩ p_0
      have rb := Nat.lt_succ_of_lt pb
      have HR2 := Lib.hid (HR.out.ext X2)
      have HX2 := Lib.hid (HX.out.trans X2)
      clear X2
      go_wp2_with fail
      refine (CK2.out _).mono ?_
      rintro e w' ⟨rfl, rfl⟩
      go_upto_region 11 with (fail)
      refine settle_wp ?_
      intro w3 hb3
      have x_0 : w3.cell? ⟨w2.heap.size, 0, none⟩ = some (.string (⟨#[115, 116, 97, 109, 112]⟩ ++ num)) := hb3.cell (by simp [go_sem])
      have x_1 : w3.cell? ⟨w2.heap.size, 1, none⟩ = some (.int .i64 1) := hb3.cell (by simp [go_sem])
      have x_2 : w3.cell? ⟨w2.heap.size, 2, none⟩ = some (.int .u64 r) := hb3.cell (by simp [go_sem])
      have E3 : Ext w2 w3 := Ext.trans (by repeat (first | with_reducible exact Ext.refl _ | with_reducible assumption | with_reducible refine Ext.alloc ?_ _ | with_reducible refine Ext.drew ?_ | with_reducible refine Ext.drewN ?_ _ | with_reducible refine Ext.setCell ?_ (by simp <;> omega) _ | with_reducible refine Ext.trans ?_ (by assumption))) hb3
      have HR3 := Lib.hid (HR2.out.ext E3)
      have HX3 := Lib.hid (HX2.out.trans E3)
      clear hb3 E3 p_0 p_1 p_2 p_3 p_4 p_5
      go_wp2_with (at_builtin; refine appD _ rfl _ _ rfl w1 _ (F k) rfl (HR3.out.ext ((Ext.refl w3).alloc _)) (HX3.out.alloc _) w3.heap.size 1 [⟨⟨#[115, 116, 97, 109, 112]⟩ ++ num, 1, r⟩] rfl (one_cells _ _ _ (by simp [go_sem]) (by simp [go_sem]) (by simp [go_sem])) (by omega) (by simp) ?_)
      intro v' w' hR' hX'
      have HR4 := Lib.hid hR'
      have HX4 := Lib.hid hX'
      clear hR' hX'
      go_wp2
      exact ⟨⟨k + 1, by omega, by go_num, by rw [HT.out]; exact HR4.out, HX4.out⟩, by simp [intOf]; omega⟩
    · obtain rfl : k = m := by omega
      have p_2 := hx.cell qc_2
      have HG2 := Lib.hid (HG.out _ wr (hR.lower EB.size) (EB.trans hx))
      clear hR hx
      go_wp2
      exact HG2.out
set_option maxRecDepth 100000 in
theorem rSlots_9 (V W C P S : Int) (a : Option Addr) (n cap : Nat) (w : World) (hW : W = 32 ∨ W = 64) (hC : rightB C = true) (hC1 : C ≤ 64) (hS0 : 0 ≤ S) :
    Calls Tryz.prog 91 #[(.agg #[.int .i64 V, .int .i64 W, .int .i64 C, .int .i64 P, .int .u64 (S), .slice a n cap]), .string ⟨#[100, 111, 110, 101]⟩, .int .i64 2] w (GivesD w (slotL 9 W C S C.toNat)) := by
  have CS := Lib.hid (fun w => rStart V W C P S a n cap w hW hS0)
  obtain ⟨m, rfl⟩ : ∃ m : Nat, C = m := ⟨C.toNat, by have := right_range hC; omega⟩
  rw [show ((m : Int)).toNat = m by omega]
  have hm : m ≤ 64 := by omega
  have CN := Lib.hid (fun (i : Nat) (w : World) (hi : i ≤ 64) => rNum6 i w (by omega) (by omega))
  have CF := Lib.hid (fun (i : Nat) (w : World) (hi : i < m) => r2AheadR W m i (cutS W S) w hW hC (by omega) (by omega))
  have HST : Hid (∀ i : Nat, slotL 9 W m S (i + 1) = slotL 9 W m S i ++ [⟨⟨#[100, 111, 110, 101]⟩ ++ tx (Lib.itoa (i : Int)), 2, aheadR W m i (cutS W S)⟩]) := Lib.hid (fun i => by rw [slotL_snoc]; rfl)
  have HLN : Hid (∀ i : Nat, (slotL 9 W m S i).length = i) := Lib.hid (fun i => slotL_len _ _ _ _ _)
  have HZ : Hid (∀ i : Nat, i ≤ 64 → (tx (Lib.itoa (i : Int))).size ≤ 21) := Lib.hid (fun i hi => itoa_len21 i hi)
  have HG : Hid (∀ v w', RD w' w.heap.size v (slotL 9 W m S m) → Ext w w' → GivesD w (slotL 9 W m S m) (.returned v) w') := Lib.hid (fun v w' h1 h2 => ⟨v, rfl, h1, h2⟩)
  generalize hG : GivesD w (slotL 9 W m S m) = G at *
  have HSL : Hid (slotL 9 W m S 0 = []) := Lib.hid rfl
  generalize hf : slotL 9 W m S = F at *
  clear hG hf hC hC1 hS0 hW
  generalize cutS W S = p at *
  have d1 : ((⟨#[100, 111, 110, 101]⟩ : ByteArray).toList == (⟨#[115, 116, 97, 109, 112]⟩ : ByteArray).toList) = false := (Lib.bytes_beq_false_iff _ _).2 (by decide)
  have d2 : ((⟨#[100, 111, 110, 101]⟩ : ByteArray).toList == (⟨#[115, 108, 111, 116]⟩ : ByteArray).toList) = false := (Lib.bytes_beq_false_iff _ _).2 (by decide)
  go_enter Tryz.func91, Tryz.ntmps91
  go_wp2_with fail
  refine (CS.out _).mono ?_
  rintro e w1 ⟨rfl, hb1⟩
  obtain ⟨hc1, hf1⟩ := hb1.cells
  clear hc1 hf1
  have qc_0 : w1.cell? ⟨w.heap.size, 0, none⟩ = some (.int .i64 V) := (hb1.cells.1 _ _ (by simp <;> omega)).trans (by simp [go_sem])
  have qc_1 : w1.cell? ⟨w.heap.size, 1, none⟩ = some (.int .i64 W) := (hb1.cells.1 _ _ (by simp <;> omega)).trans (by simp [go_sem])
  have qc_2 : w1.cell? ⟨w.heap.size, 2, none⟩ = some (.int .i64 m) := (hb1.cells.1 _ _ (by simp <;> omega)).trans (by simp [go_sem])
  have qc_3 : w1.cell? ⟨w.heap.size, 3, none⟩ = some (.int .i64 P) := (hb1.cells.1 _ _ (by simp <;> omega)).trans (by simp [go_sem])
  have qc_4 : w1.cell? ⟨w.heap.size, 4, none⟩ = some (.int .u64 (S)) := (hb1.cells.1 _ _ (by simp <;> omega)).trans (by simp [go_sem])
  have qc_5 : w1.cell? ⟨w.heap.size, 5, none⟩ = some (.slice a n cap) := (hb1.cells.1 _ _ (by simp <;> omega)).trans (by simp [go_sem])
  have pc := World.block_lt_of_cell? _ ⟨w.heap.size, 0, none⟩ qc_0
  have rc := Nat.lt_succ_of_lt pc
  have EB : Ext w w1 := by repeat (first | with_reducible exact Ext.refl _ | with_reducible assumption | with_reducible refine Ext.alloc ?_ _ | with_reducible refine Ext.drew ?_ | with_reducible refine Ext.drewN ?_ _ | with_reducible refine Ext.setCell ?_ (by simp <;> omega) _ | with_reducible refine Ext.trans ?_ (by assumption))
  clear hb1
  go_wp2
  go_loopw [7, 9] (fun v i wr => ∃ k : Nat, k ≤ m ∧ i = .int .i64 k ∧ RD wr w1.heap.size v (F k) ∧ Ext w1 wr) (fun _ i _ => m - (intOf i).toNat)
  case atStart => exact ⟨0, Nat.zero_le _, rfl, by rw [HSL.out]; exact RD.nil _ _, Ext.refl _⟩
  case round =>
    obtain ⟨k, hk, rfl, hR, hx⟩ := hrel
    by_cases hlt : k < m
    · have hkm : (k : Int) < (m : Int) := by omega
      have p_0 := hx.cell qc_0
      have p_1 := hx.cell qc_1
      have p_2 := hx.cell qc_2
      have p_3 := hx.cell qc_3
      have p_4 := hx.cell qc_4
      have p_5 := hx.cell qc_5
      have HR := Lib.hid hR
      have HX := Lib.hid hx
      have CK := Lib.hid (fun w => CN.out k w (by omega))
      have hz := HZ.out k (by omega)
      have hz2 : (⟨#[100, 111, 110, 101]⟩ : ByteArray).size + (tx (Lib.itoa (k : Int))).size ≤ 9223372036854775807 := by
        have : (⟨#[100, 111, 110, 101]⟩ : ByteArray).size ≤ 10 := by decide
        omega
      have HT := Lib.hid (HST.out k)
      have hfl := HLN.out k
      have CK2 := Lib.hid (fun w => CF.out k w hlt)
      generalize tx (Lib.itoa (k : Int)) = num at *
      generalize aheadR W m k p = r at *
      clear hR hx
      go_wp2_with fail
      refine (CK.out _).mono ?_
      rintro e w2 ⟨rfl, X2⟩
      replace p_0 := X2.cell p_0
      replace p_1 := X2.cell p_1
      replace p_2 := X2.cell p_2
      replace p_3 := X2.cell p_3
      replace p_4 := X2.cell p_4
      replace p_5 := X2.cell p_5
      have pb : w.heap.size < w2.heap.size := World.block_lt_of_cell? _ ⟨w.heap.size, 0, none⟩ p_0
      have rb := Nat.lt_succ_of_lt pb
      have HR2 := Lib.hid (HR.out.ext X2)
      have HX2 := Lib.hid (HX.out.trans X2)
      clear X2
      go_wp2_with fail
      refine (CK2.out _).mono ?_
      rintro e w' ⟨rfl, rfl⟩
      go_upto_region 11 with (fail)
      refine settle_wp ?_
      intro w3 hb3
      have x_0 : w3.cell? ⟨w2.heap.size, 0, none⟩ = some (.string (⟨#[100, 111, 110, 101]⟩ ++ num)) := hb3.cell (by simp [go_sem])
      have x_1 : w3.cell? ⟨w2.heap.size, 1, none⟩ = some (.int .i64 2) := hb3.cell (by simp [go_sem])
      have x_2 : w3.cell? ⟨w2.heap.size, 2, none⟩ = some (.int .u64 r) := hb3.cell (by simp [go_sem])
      have E3 : Ext w2 w3 := Ext.trans (by repeat (first | with_reducible exact Ext.refl _ | with_reducible assumption | with_reducible refine Ext.alloc ?_ _ | with_reducible refine Ext.drew ?_ | with_reducible refine Ext.drewN ?_ _ | with_reducible refine Ext.setCell ?_ (by simp <;> omega) _ | with_reducible refine Ext.trans ?_ (by assumption))) hb3
      have HR3 := Lib.hid (HR2.out.ext E3)
      have HX3 := Lib.hid (HX2.out.trans E3)
      clear hb3 E3 p_0 p_1 p_2 p_3 p_4 p_5
      go_wp2_with (at_builtin; refine appD _ rfl _ _ rfl w1 _ (F k) rfl (HR3.out.ext ((Ext.refl w3).alloc _)) (HX3.out.alloc _) w3.heap.size 1 [⟨⟨#[100, 111, 110, 101]⟩ ++ num, 2, r⟩] rfl (one_cells _ _ _ (by simp [go_sem]) (by simp [go_sem]) (by simp [go_sem])) (by omega) (by simp) ?_)
      intro v' w' hR' hX'
      have HR4 := Lib.hid hR'
      have HX4 := Lib.hid hX'
      clear hR' hX'
      go_wp2
      exact ⟨⟨k + 1, by omega, by go_num, by rw [HT.out]; exact HR4.out, HX4.out⟩, by simp [intOf]; omega⟩
    · obtain rfl : k = m := by omega
      have p_2 := hx.cell qc_2
      have HG2 := Lib.hid (HG.out _ wr (hR.lower EB.size) (EB.trans hx))
      clear hR hx
      go_wp2
      exact HG2.out
set_option maxRecDepth 100000 in
theorem rSlots_10 (V W C P S : Int) (a : Option Addr) (n cap : Nat) (w : World) (hW : W = 32 ∨ W = 64) (hC : rightB C = true) (hC1 : C ≤ 64) (hS0 : 0 ≤ S) :
    Calls Tryz.prog 91 #[(.agg #[.int .i64 V, .int .i64 W, .int .i64 C, .int .i64 P, .int .u64 (S), .slice a n cap]), .string ⟨#[115, 108, 111, 116]⟩, .int .i64 3] w (GivesD w (slotL 10 W C S C.toNat)) := by
  have CS := Lib.hid (fun w => rStart V W C P S a n cap w hW hS0)
  obtain ⟨m, rfl⟩ : ∃ m : Nat, C = m := ⟨C.toNat, by have := right_range hC; omega⟩
  rw [show ((m : Int)).toNat = m by omega]
  have hm : m ≤ 64 := by omega
  have CN := Lib.hid (fun (i : Nat) (w : World) (hi : i ≤ 64) => rNum6 i w (by omega) (by omega))
  have HST : Hid (∀ i : Nat, slotL 10 W m S (i + 1) = slotL 10 W m S i ++ [⟨⟨#[115, 108, 111, 116]⟩ ++ tx (Lib.itoa (i : Int)), 3, 0⟩]) := Lib.hid (fun i => by rw [slotL_snoc]; rfl)
  have HLN : Hid (∀ i : Nat, (slotL 10 W m S i).length = i) := Lib.hid (fun i => slotL_len _ _ _ _ _)
  have HZ : Hid (∀ i : Nat, i ≤ 64 → (tx (Lib.itoa (i : Int))).size ≤ 21) := Lib.hid (fun i hi => itoa_len21 i hi)
  have HG : Hid (∀ v w', RD w' w.heap.size v (slotL 10 W m S m) → Ext w w' → GivesD w (slotL 10 W m S m) (.returned v) w') := Lib.hid (fun v w' h1 h2 => ⟨v, rfl, h1, h2⟩)
  generalize hG : GivesD w (slotL 10 W m S m) = G at *
  have HSL : Hid (slotL 10 W m S 0 = []) := Lib.hid rfl
  generalize hf : slotL 10 W m S = F at *
  clear hG hf hC hC1 hS0 hW
  generalize cutS W S = p at *
  have d1 : ((⟨#[115, 108, 111, 116]⟩ : ByteArray).toList == (⟨#[115, 116, 97, 109, 112]⟩ : ByteArray).toList) = false := (Lib.bytes_beq_false_iff _ _).2 (by decide)
  go_enter Tryz.func91, Tryz.ntmps91
  go_wp2_with fail
  refine (CS.out _).mono ?_
  rintro e w1 ⟨rfl, hb1⟩
  obtain ⟨hc1, hf1⟩ := hb1.cells
  clear hc1 hf1
  have qc_0 : w1.cell? ⟨w.heap.size, 0, none⟩ = some (.int .i64 V) := (hb1.cells.1 _ _ (by simp <;> omega)).trans (by simp [go_sem])
  have qc_1 : w1.cell? ⟨w.heap.size, 1, none⟩ = some (.int .i64 W) := (hb1.cells.1 _ _ (by simp <;> omega)).trans (by simp [go_sem])
  have qc_2 : w1.cell? ⟨w.heap.size, 2, none⟩ = some (.int .i64 m) := (hb1.cells.1 _ _ (by simp <;> omega)).trans (by simp [go_sem])
  have qc_3 : w1.cell? ⟨w.heap.size, 3, none⟩ = some (.int .i64 P) := (hb1.cells.1 _ _ (by simp <;> omega)).trans (by simp [go_sem])
  have qc_4 : w1.cell? ⟨w.heap.size, 4, none⟩ = some (.int .u64 (S)) := (hb1.cells.1 _ _ (by simp <;> omega)).trans (by simp [go_sem])
  have qc_5 : w1.cell? ⟨w.heap.size, 5, none⟩ = some (.slice a n cap) := (hb1.cells.1 _ _ (by simp <;> omega)).trans (by simp [go_sem])
  have pc := World.block_lt_of_cell? _ ⟨w.heap.size, 0, none⟩ qc_0
  have rc := Nat.lt_succ_of_lt pc
  have EB : Ext w w1 := by repeat (first | with_reducible exact Ext.refl _ | with_reducible assumption | with_reducible refine Ext.alloc ?_ _ | with_reducible refine Ext.drew ?_ | with_reducible refine Ext.drewN ?_ _ | with_reducible refine Ext.setCell ?_ (by simp <;> omega) _ | with_reducible refine Ext.trans ?_ (by assumption))
  clear hb1
  go_wp2
  go_loopw [7, 9] (fun v i wr => ∃ k : Nat, k ≤ m ∧ i = .int .i64 k ∧ RD wr w1.heap.size v (F k) ∧ Ext w1 wr) (fun _ i _ => m - (intOf i).toNat)
  case atStart => exact ⟨0, Nat.zero_le _, rfl, by rw [HSL.out]; exact RD.nil _ _, Ext.refl _⟩
  case round =>
    obtain ⟨k, hk, rfl, hR, hx⟩ := hrel
    by_cases hlt : k < m
    · have hkm : (k : Int) < (m : Int) := by omega
      have p_0 := hx.cell qc_0
      have p_1 := hx.cell qc_1
      have p_2 := hx.cell qc_2
      have p_3 := hx.cell qc_3
      have p_4 := hx.cell qc_4
      have p_5 := hx.cell qc_5
      have HR := Lib.hid hR
      have HX := Lib.hid hx
      have CK := Lib.hid (fun w => CN.out k w (by omega))
      have hz := HZ.out k (by omega)
      have hz2 : (⟨#[115, 108, 111, 116]⟩ : ByteArray).size + (tx (Lib.itoa (k : Int))).size ≤ 9223372036854775807 := by
        have : (⟨#[115, 108, 111, 116]⟩ : ByteArray).size ≤ 10 := by decide
        omega
      have HT := Lib.hid (HST.out k)
      have hfl := HLN.out k
      generalize tx (Lib.itoa (k : Int)) = num at *
      clear hR hx
      go_wp2_with fail
      refine (CK.out _).mono ?_
      rintro e w2 ⟨rfl, X2⟩
      replace p_0 := X2.cell p_0
      replace p_1 := X2.cell p_1
      replace p_2 := X2.cell p_2
      replace p_3 := X2.cell p_3
      replace p_4 := X2.cell p_4
      replace p_5 := X2.cell p_5
      have pb : w.heap.size < w2.heap.size := World.block_lt_of_cell? _ ⟨w.heap.size, 0, none⟩ p_0
      have rb := Nat.lt_succ_of_lt pb
      have HR2 := Lib.hid (HR.out.ext X2)
      have HX2 := Lib.hid (HX.out.trans X2)
      clear X2
      go_upto_region 11 with (fail)
      refine settle_wp ?_
      intro w3 hb3
      have x_0 : w3.cell? ⟨w2.heap.size, 0, none⟩ = some (.string (⟨#[115, 108, 111, 116]⟩ ++ num)) := hb3.cell (by simp [go_sem])
      have x_1 : w3.cell? ⟨w2.heap.size, 1, none⟩ = some (.int .i64 3) := hb3.cell (by simp [go_sem])
      have x_2 : w3.cell? ⟨w2.heap.size, 2, none⟩ = some (.int .u64 0) := hb3.cell (by simp [go_sem])
      have E3 : Ext w2 w3 := Ext.trans (by repeat (first | with_reducible exact Ext.refl _ | with_reducible assumption | with_reducible refine Ext.alloc ?_ _ | with_reducible refine Ext.drew ?_ | with_reducible refine Ext.drewN ?_ _ | with_reducible refine Ext.setCell ?_ (by simp <;> omega) _ | with_reducible refine Ext.trans ?_ (by assumption))) hb3
      have HR3 := Lib.hid (HR2.out.ext E3)
      have HX3 := Lib.hid (HX2.out.trans E3)
      clear hb3 E3 p_0 p_1 p_2 p_3 p_4 p_5
      go_wp2_with (at_builtin; refine appD _ rfl _ _ rfl w1 _ (F k) rfl (HR3.out.ext ((Ext.refl w3).alloc _)) (HX3.out.alloc _) w3.heap.size 1 [⟨⟨#[115, 108, 111, 116]⟩ ++ num, 3, 0⟩] rfl (one_cells _ _ _ (by simp [go_sem]) (by simp [go_sem]) (by simp [go_sem])) (by omega) (by simp) ?_)
      intro v' w' hR' hX'
      have HR4 := Lib.hid hR'
      have HX4 := Lib.hid hX'
      clear hR' hX'
      go_wp2
      exact ⟨⟨k + 1, by omega, by go_num, by rw [HT.out]; exact HR4.out, HX4.out⟩, by simp [intOf]; omega⟩
    · obtain rfl : k = m := by omega
      have p_2 := hx.cell qc_2
      have HG2 := Lib.hid (HG.out _ wr (hR.lower EB.size) (EB.trans hx))
      clear hR hx
      go_wp2
      exact HG2.out
end Go.Proofs.YtaimmpcijdpgdabGreatDoor
/- The document's Of of layer 11. -/
namespace Go.Proofs.YtaimmpcijdpgdabGreatDoor
open Go.RowKit
set_option linter.unusedVariables false
set_option linter.unusedSimpArgs false
set_option maxHeartbeats 2000000
attribute [local go_sem] later_cell later_frozen later_const
/-- the gates -/
def gateL (W S : Int) (m : Nat) : List DC := (List.range m).map fun (i : Nat) => ⟨pName 1 ++ tx (Lib.itoa (i : Int)), 1, cutS W S⟩
theorem gateL_len (W S : Int) (m : Nat) : (gateL W S m).length = m := by simp [gateL]
theorem gateL_snoc (W S : Int) (m : Nat) : gateL W S (m + 1) = gateL W S m ++ [⟨pName 1 ++ tx (Lib.itoa (m : Int)), 1, cutS W S⟩] := by
  unfold gateL
  rw [List.range_succ, List.map_append]
  rfl
/-- those of the variant -/
def varL (V W C S : Int) : List DC :=
  if V = 1 then [⟨pName 2, 1, cutS W S⟩] else if V = 5 then [⟨pName 4, 1, 0⟩, ⟨pName 5, 1, 0⟩, ⟨pName 6, 2, cutS W S⟩] ++ slotL 9 W C S C.toNat
  else if V = 4 then [⟨pName 3, 1, cutS W S⟩] ++ slotL 8 W C S C.toNat else [⟨pName 3, 1, cutS W S⟩] ++ slotL 7 W C S C.toNat
def listD (V W C S : Int) (n : Nat) : List DC := gateL W S n ++ varL V W C S ++ slotL 10 W C S C.toNat
theorem three_cells (w : World) (g : Nat) (d e f : DC) (h : ∀ j u, (dcV d ++ dcV e ++ dcV f)[j]? = some u → w.cell? ⟨g, j, none⟩ = some u) : ∀ j u, (rowD [d, e, f])[j]? = some u → w.cell? ⟨g, j, none⟩ = some u := by
  intro j u hu
  refine h j u ?_
  simpa [rowD] using hu
theorem three_at (w : World) (g : Nat) (d e f : DC) (h0 : w.cell? ⟨g, 0, none⟩ = some (.string d.nm)) (h1 : w.cell? ⟨g, 1, none⟩ = some (.int .i64 d.kd)) (h2 : w.cell? ⟨g, 2, none⟩ = some (.int .u64 d.fs)) (h3 : w.cell? ⟨g, 3, none⟩ = some (.string e.nm)) (h4 : w.cell? ⟨g, 4, none⟩ = some (.int .i64 e.kd)) (h5 : w.cell? ⟨g, 5, none⟩ = some (.int .u64 e.fs)) (h6 : w.cell? ⟨g, 6, none⟩ = some (.string f.nm)) (h7 : w.cell? ⟨g, 7, none⟩ = some (.int .i64 f.kd)) (h8 : w.cell? ⟨g, 8, none⟩ = some (.int .u64 f.fs)) : ∀ j u, (dcV d ++ dcV e ++ dcV f)[j]? = some u → w.cell? ⟨g, j, none⟩ = some u := by
  intro j u hu
  match j, hu with
  | 0, hu => simp [dcV] at hu; subst hu; exact h0
  | 1, hu => simp [dcV] at hu; subst hu; exact h1
  | 2, hu => simp [dcV] at hu; subst hu; exact h2
  | 3, hu => simp [dcV] at hu; subst hu; exact h3
  | 4, hu => simp [dcV] at hu; subst hu; exact h4
  | 5, hu => simp [dcV] at hu; subst hu; exact h5
  | 6, hu => simp [dcV] at hu; subst hu; exact h6
  | 7, hu => simp [dcV] at hu; subst hu; exact h7
  | 8, hu => simp [dcV] at hu; subst hu; exact h8
  | j + 9, hu => simp [dcV] at hu
set_option maxRecDepth 100000 in
theorem rOf11 (V W C P S : Int) (a : Option Addr) (n cap : Nat) (w : World) (hV1 : 1 ≤ V) (hV5 : V ≤ 5) (hW : W = 32 ∨ W = 64) (hC : rightB C = true) (hC1 : C ≤ 64) (hS0 : 0 ≤ S) (hn : n ≤ 6) :
    Calls Tryz.prog 41 #[(.agg #[.int .i64 V, .int .i64 W, .int .i64 C, .int .i64 P, .int .u64 (S), .slice a n cap])] w (GivesD w (listD V W C S n)) := by
  have CS := Lib.hid (fun w => rStart V W C P S a n cap w hW hS0)
  have c7 := Lib.hid (fun w => rSlots_7 V W C P S a n cap w hW hC hC1 hS0)
  have c8 := Lib.hid (fun w => rSlots_8 V W C P S a n cap w hW hC hC1 hS0)
  have c9 := Lib.hid (fun w => rSlots_9 V W C P S a n cap w hW hC hC1 hS0)
  have c10 := Lib.hid (fun w => rSlots_10 V W C P S a n cap w hW hC hC1 hS0)
  have hCr := right_range hC
  have l7 := Lib.hid (slotL_len 7 W C S C.toNat)
  have l8 := Lib.hid (slotL_len 8 W C S C.toNat)
  have l9 := Lib.hid (slotL_len 9 W C S C.toNat)
  have l10 := Lib.hid (slotL_len 10 W C S C.toNat)
  have HL0 : Hid (∀ F, F = listD V W C S n → ∀ v w', RD w' w.heap.size v F → Ext w w' → GivesD w (listD V W C S n) (.returned v) w') := Lib.hid (fun F e v w' h1 h2 => ⟨v, rfl, by rw [← e]; exact h1, h2⟩)
  have CN := Lib.hid (fun (i : Nat) (w : World) (hi : i ≤ 64) => rNum6 i w (by omega) (by omega))
  have HST : Hid (∀ i : Nat, gateL W S (i + 1) = gateL W S i ++ [⟨⟨#[103, 97, 116, 101]⟩ ++ tx (Lib.itoa (i : Int)), 1, cutS W S⟩]) := Lib.hid (fun i => by rw [gateL_snoc]; rfl)
  have HLN : Hid (∀ i : Nat, (gateL W S i).length = i) := Lib.hid (fun i => gateL_len _ _ _)
  have HZ : Hid (∀ i : Nat, i ≤ 64 → (tx (Lib.itoa (i : Int))).size ≤ 21) := Lib.hid (fun i hi => itoa_len21 i hi)
  have HSL : Hid (gateL W S 0 = []) := Lib.hid rfl
  have hv1 : V = 1 → varL V W C S = [⟨⟨#[99, 117, 114, 115, 111, 114]⟩, 1, cutS W S⟩] := fun h => by unfold varL; rw [if_pos h]; rfl
  have hv5 : V = 5 → varL V W C S = [⟨⟨#[116, 105, 99, 107, 101, 116]⟩, 1, 0⟩, ⟨⟨#[115, 101, 114, 118, 105, 110, 103]⟩, 1, 0⟩, ⟨⟨#[110, 101, 120, 116]⟩, 2, cutS W S⟩] ++ slotL 9 W C S C.toNat := fun h => by unfold varL; rw [if_neg (by omega), if_pos h]; rfl
  have hv4 : V = 4 → varL V W C S = [⟨⟨#[99, 108, 97, 105, 109]⟩, 1, cutS W S⟩] ++ slotL 8 W C S C.toNat := fun h => by unfold varL; rw [if_neg (by omega), if_neg (by omega), if_pos h]; rfl
  have hv2 : V = 2 ∨ V = 3 → varL V W C S = [⟨⟨#[99, 108, 97, 105, 109]⟩, 1, cutS W S⟩] ++ slotL 7 W C S C.toNat := fun h => by unfold varL; rw [if_neg (by omega), if_neg (by omega), if_neg (by omega)]; rfl
  have HLD : Hid (∀ G, varL V W C S = G → listD V W C S n = gateL W S n ++ G ++ slotL 10 W C S C.toNat) := Lib.hid (fun G h => by rw [← h]; rfl)
  have H1 := Lib.hid hv1
  have H5 := Lib.hid hv5
  have H4 := Lib.hid hv4
  have H2 := Lib.hid hv2
  clear hv1 hv5 hv4 hv2
  generalize GivesD w (listD V W C S n) = G at *
  generalize listD V W C S n = LD at *
  generalize varL V W C S = VL at *
  generalize slotL 7 W C S C.toNat = L7 at *
  generalize slotL 8 W C S C.toNat = L8 at *
  generalize slotL 9 W C S C.toNat = L9 at *
  generalize slotL 10 W C S C.toNat = L10 at *
  generalize hf : gateL W S = F at *
  clear hf hC hS0 hW
  generalize cutS W S = p at *
  go_enter Tryz.func41, Tryz.ntmps41
  go_wp2_with fail
  refine (CS.out _).mono ?_
  rintro e w1 ⟨rfl, hb1⟩
  obtain ⟨hc1, hf1⟩ := hb1.cells
  clear hc1 hf1
  have qc_0 : w1.cell? ⟨w.heap.size, 0, none⟩ = some (.int .i64 V) := (hb1.cells.1 _ _ (by simp <;> omega)).trans (by simp [go_sem])
  have qc_1 : w1.cell? ⟨w.heap.size, 1, none⟩ = some (.int .i64 W) := (hb1.cells.1 _ _ (by simp <;> omega)).trans (by simp [go_sem])
  have qc_2 : w1.cell? ⟨w.heap.size, 2, none⟩ = some (.int .i64 C) := (hb1.cells.1 _ _ (by simp <;> omega)).trans (by simp [go_sem])
  have qc_3 : w1.cell? ⟨w.heap.size, 3, none⟩ = some (.int .i64 P) := (hb1.cells.1 _ _ (by simp <;> omega)).trans (by simp [go_sem])
  have qc_4 : w1.cell? ⟨w.heap.size, 4, none⟩ = some (.int .u64 (S)) := (hb1.cells.1 _ _ (by simp <;> omega)).trans (by simp [go_sem])
  have qc_5 : w1.cell? ⟨w.heap.size, 5, none⟩ = some (.slice a n cap) := (hb1.cells.1 _ _ (by simp <;> omega)).trans (by simp [go_sem])
  have pc := World.block_lt_of_cell? _ ⟨w.heap.size, 0, none⟩ qc_0
  have rc := Nat.lt_succ_of_lt pc
  have EB : Ext w w1 := by repeat (first | with_reducible exact Ext.refl _ | with_reducible assumption | with_reducible refine Ext.alloc ?_ _ | with_reducible refine Ext.drew ?_ | with_reducible refine Ext.drewN ?_ _ | with_reducible refine Ext.setCell ?_ (by simp <;> omega) _ | with_reducible refine Ext.trans ?_ (by assumption))
  clear hb1
  go_wp2
  go_loopw [3, 5] (fun v i wr => ∃ k : Nat, k ≤ n ∧ i = .int .i64 k ∧ RD wr w1.heap.size v (F k) ∧ Ext w1 wr) (fun _ i _ => n - (intOf i).toNat)
  case atStart => exact ⟨0, Nat.zero_le _, rfl, by rw [HSL.out]; exact RD.nil _ _, Ext.refl _⟩
  case round =>
    obtain ⟨k, hk, rfl, hR, hx⟩ := hrel
    have p_0 := hx.cell qc_0
    have p_1 := hx.cell qc_1
    have p_2 := hx.cell qc_2
    have p_3 := hx.cell qc_3
    have p_4 := hx.cell qc_4
    have p_5 := hx.cell qc_5
    by_cases hlt : k < n
    · have hkm : (k : Int) < (n : Int) := by omega
      have HR := Lib.hid hR
      have HX := Lib.hid hx
      have CK := Lib.hid (fun w => CN.out k w (by omega))
      have hz := HZ.out k (by omega)
      have hz2 : (⟨#[103, 97, 116, 101]⟩ : ByteArray).size + (tx (Lib.itoa (k : Int))).size ≤ 9223372036854775807 := by
        have : (⟨#[103, 97, 116, 101]⟩ : ByteArray).size ≤ 10 := by decide
        omega
      have HT := Lib.hid (HST.out k)
      have hfl := HLN.out k
      generalize tx (Lib.itoa (k : Int)) = num at *
      clear hR hx
      go_wp2_with fail
      refine (CK.out _).mono ?_
      rintro e w2 ⟨rfl, X2⟩
      have HR3 := Lib.hid (HR.out.ext X2)
      have HX3 := Lib.hid (HX.out.trans X2)
      clear X2 p_0 p_1 p_2 p_3 p_4 p_5
      go_wp2_with (at_builtin; refine appD _ rfl _ _ rfl w1 _ (F k) rfl (HR3.out.ext ((Ext.refl w2).alloc _)) (HX3.out.alloc _) w2.heap.size 1 [⟨⟨#[103, 97, 116, 101]⟩ ++ num, 1, p⟩] rfl (one_cells _ _ _ (by simp [go_sem]) (by simp [go_sem]) (by simp [go_sem])) (by omega) (by simp) ?_)
      intro v' w' hR' hX'
      have HR4 := Lib.hid hR'
      have HX4 := Lib.hid hX'
      clear hR' hX'
      go_wp2
      exact ⟨⟨k + 1, by omega, by go_num, by rw [HT.out]; exact HR4.out, HX4.out⟩, by simp [intOf]; omega⟩
    · obtain rfl : k = n := by omega
      have HR := Lib.hid hR
      have HX := Lib.hid hx
      have hfl := HLN.out k
      clear hR hx
      by_cases h1 : V = 1
      · subst h1
        go_wp2_with (at_builtin; refine appD _ rfl _ _ rfl w1 _ (F k) rfl (HR.out.ext ((Ext.refl wr).alloc _)) (HX.out.alloc _) wr.heap.size 1 [⟨⟨#[99, 117, 114, 115, 111, 114]⟩, 1, p⟩] rfl (one_cells _ _ _ (by simp [go_sem]) (by simp [go_sem]) (by simp [go_sem])) (by first | omega | (simp only [List.length_append, List.length_cons, List.length_nil]; omega)) (by simp) ?_)
        intro v6 w6 hR' hX'
        have HR6 := Lib.hid hR'
        have HX6 := Lib.hid hX'
        clear hR' hX' p_0 p_1 p_2 p_3 p_4 p_5
        have p_0 := HX6.out.cell qc_0
        have p_1 := HX6.out.cell qc_1
        have p_2 := HX6.out.cell qc_2
        have p_3 := HX6.out.cell qc_3
        have p_4 := HX6.out.cell qc_4
        have p_5 := HX6.out.cell qc_5
        go_wp2_with fail
        rename_i Kz hKz
        refine (c10.out _).mono ?_
        rintro e wz9 ⟨vz, rfl, Rz, Xz⟩
        obtain ⟨gz, capz, ez, _, _, hcz⟩ := Rz.form (by have := l7.out; have := l8.out; have := l9.out; have := l10.out; omega)
        subst ez
        have HRz := Lib.hid (HR6.out.ext Xz)
        have HXz := Lib.hid (HX6.out.trans Xz)
        have HCZ := Lib.hid hcz
        clear Rz Xz hcz
        refine hKz _ _ (appD _ rfl _ _ rfl w1 v6 (F k ++ [⟨⟨#[99, 117, 114, 115, 111, 114]⟩, 1, p⟩]) rfl HRz.out HXz.out gz capz L10 rfl HCZ.out (by have := l7.out; have := l8.out; have := l9.out; have := l10.out; simp only [List.length_append, List.length_cons, List.length_nil]; omega) (by have := l7.out; have := l8.out; have := l9.out; have := l10.out; omega) ?_)
        intro v9 w9 hR' hX'
        have HR9 := Lib.hid hR'
        have HX9 := Lib.hid hX'
        clear hR' hX' p_0 p_1 p_2 p_3 p_4 p_5 HRz HXz HCZ
        have p_0 := HX9.out.cell qc_0
        have p_1 := HX9.out.cell qc_1
        have p_2 := HX9.out.cell qc_2
        have p_3 := HX9.out.cell qc_3
        have p_4 := HX9.out.cell qc_4
        have p_5 := HX9.out.cell qc_5
        have HG2 := Lib.hid (HL0.out _ ((by simp only [List.append_assoc] : F k ++ [⟨⟨#[99, 117, 114, 115, 111, 114]⟩, 1, p⟩] ++ L10 = F k ++ ([⟨⟨#[99, 117, 114, 115, 111, 114]⟩, 1, p⟩]) ++ L10).trans (HLD.out _ (H1.out (by first | trivial | simp | omega))).symm) _ _ (HR9.out.lower EB.size) (EB.trans HX9.out))
        clear p_0 p_1 p_2 p_3 p_4 p_5
        go_wp2
        exact HG2.out
      have d1 : (V == 1) = false := by simpa using h1
      by_cases h23 : V = 2 ∨ V = 3
      · rcases h23 with rfl | rfl
        · go_wp2_with (at_builtin; refine appD _ rfl _ _ rfl w1 _ (F k) rfl (HR.out.ext ((Ext.refl wr).alloc _)) (HX.out.alloc _) wr.heap.size 1 [⟨⟨#[99, 108, 97, 105, 109]⟩, 1, p⟩] rfl (one_cells _ _ _ (by simp [go_sem]) (by simp [go_sem]) (by simp [go_sem])) (by first | omega | (simp only [List.length_append, List.length_cons, List.length_nil]; omega)) (by simp) ?_)
          intro v6 w6 hR' hX'
          have HR6 := Lib.hid hR'
          have HX6 := Lib.hid hX'
          clear hR' hX' p_0 p_1 p_2 p_3 p_4 p_5
          have p_0 := HX6.out.cell qc_0
          have p_1 := HX6.out.cell qc_1
          have p_2 := HX6.out.cell qc_2
          have p_3 := HX6.out.cell qc_3
          have p_4 := HX6.out.cell qc_4
          have p_5 := HX6.out.cell qc_5
          go_wp2_with fail
          rename_i Kz hKz
          refine (c7.out _).mono ?_
          rintro e wz7 ⟨vz, rfl, Rz, Xz⟩
          obtain ⟨gz, capz, ez, _, _, hcz⟩ := Rz.form (by have := l7.out; have := l8.out; have := l9.out; have := l10.out; omega)
          subst ez
          have HRz := Lib.hid (HR6.out.ext Xz)
          have HXz := Lib.hid (HX6.out.trans Xz)
          have HCZ := Lib.hid hcz
          clear Rz Xz hcz
          refine hKz _ _ (appD _ rfl _ _ rfl w1 v6 (F k ++ [⟨⟨#[99, 108, 97, 105, 109]⟩, 1, p⟩]) rfl HRz.out HXz.out gz capz L7 rfl HCZ.out (by have := l7.out; have := l8.out; have := l9.out; have := l10.out; simp only [List.length_append, List.length_cons, List.length_nil]; omega) (by have := l7.out; have := l8.out; have := l9.out; have := l10.out; omega) ?_)
          intro v7 w7 hR' hX'
          have HR7 := Lib.hid hR'
          have HX7 := Lib.hid hX'
          clear hR' hX' p_0 p_1 p_2 p_3 p_4 p_5 HRz HXz HCZ
          have p_0 := HX7.out.cell qc_0
          have p_1 := HX7.out.cell qc_1
          have p_2 := HX7.out.cell qc_2
          have p_3 := HX7.out.cell qc_3
          have p_4 := HX7.out.cell qc_4
          have p_5 := HX7.out.cell qc_5
          go_wp2_with fail
          rename_i Kz hKz
          refine (c10.out _).mono ?_
          rintro e wz9 ⟨vz, rfl, Rz, Xz⟩
          obtain ⟨gz, capz, ez, _, _, hcz⟩ := Rz.form (by have := l7.out; have := l8.out; have := l9.out; have := l10.out; omega)
          subst ez
          have HRz := Lib.hid (HR7.out.ext Xz)
          have HXz := Lib.hid (HX7.out.trans Xz)
          have HCZ := Lib.hid hcz
          clear Rz Xz hcz
          refine hKz _ _ (appD _ rfl _ _ rfl w1 v7 (F k ++ [⟨⟨#[99, 108, 97, 105, 109]⟩, 1, p⟩] ++ L7) rfl HRz.out HXz.out gz capz L10 rfl HCZ.out (by have := l7.out; have := l8.out; have := l9.out; have := l10.out; simp only [List.length_append, List.length_cons, List.length_nil]; omega) (by have := l7.out; have := l8.out; have := l9.out; have := l10.out; omega) ?_)
          intro v9 w9 hR' hX'
          have HR9 := Lib.hid hR'
          have HX9 := Lib.hid hX'
          clear hR' hX' p_0 p_1 p_2 p_3 p_4 p_5 HRz HXz HCZ
          have p_0 := HX9.out.cell qc_0
          have p_1 := HX9.out.cell qc_1
          have p_2 := HX9.out.cell qc_2
          have p_3 := HX9.out.cell qc_3
          have p_4 := HX9.out.cell qc_4
          have p_5 := HX9.out.cell qc_5
          have HG2 := Lib.hid (HL0.out _ ((by simp only [List.append_assoc] : F k ++ [⟨⟨#[99, 108, 97, 105, 109]⟩, 1, p⟩] ++ L7 ++ L10 = F k ++ ([⟨⟨#[99, 108, 97, 105, 109]⟩, 1, p⟩] ++ L7) ++ L10).trans (HLD.out _ (H2.out (by first | trivial | simp | omega))).symm) _ _ (HR9.out.lower EB.size) (EB.trans HX9.out))
          clear p_0 p_1 p_2 p_3 p_4 p_5
          go_wp2
          exact HG2.out
        · go_wp2_with (at_builtin; refine appD _ rfl _ _ rfl w1 _ (F k) rfl (HR.out.ext ((Ext.refl wr).alloc _)) (HX.out.alloc _) wr.heap.size 1 [⟨⟨#[99, 108, 97, 105, 109]⟩, 1, p⟩] rfl (one_cells _ _ _ (by simp [go_sem]) (by simp [go_sem]) (by simp [go_sem])) (by first | omega | (simp only [List.length_append, List.length_cons, List.length_nil]; omega)) (by simp) ?_)
          intro v6 w6 hR' hX'
          have HR6 := Lib.hid hR'
          have HX6 := Lib.hid hX'
          clear hR' hX' p_0 p_1 p_2 p_3 p_4 p_5
          have p_0 := HX6.out.cell qc_0
          have p_1 := HX6.out.cell qc_1
          have p_2 := HX6.out.cell qc_2
          have p_3 := HX6.out.cell qc_3
          have p_4 := HX6.out.cell qc_4
          have p_5 := HX6.out.cell qc_5
          go_wp2_with fail
          rename_i Kz hKz
          refine (c7.out _).mono ?_
          rintro e wz7 ⟨vz, rfl, Rz, Xz⟩
          obtain ⟨gz, capz, ez, _, _, hcz⟩ := Rz.form (by have := l7.out; have := l8.out; have := l9.out; have := l10.out; omega)
          subst ez
          have HRz := Lib.hid (HR6.out.ext Xz)
          have HXz := Lib.hid (HX6.out.trans Xz)
          have HCZ := Lib.hid hcz
          clear Rz Xz hcz
          refine hKz _ _ (appD _ rfl _ _ rfl w1 v6 (F k ++ [⟨⟨#[99, 108, 97, 105, 109]⟩, 1, p⟩]) rfl HRz.out HXz.out gz capz L7 rfl HCZ.out (by have := l7.out; have := l8.out; have := l9.out; have := l10.out; simp only [List.length_append, List.length_cons, List.length_nil]; omega) (by have := l7.out; have := l8.out; have := l9.out; have := l10.out; omega) ?_)
          intro v7 w7 hR' hX'
          have HR7 := Lib.hid hR'
          have HX7 := Lib.hid hX'
          clear hR' hX' p_0 p_1 p_2 p_3 p_4 p_5 HRz HXz HCZ
          have p_0 := HX7.out.cell qc_0
          have p_1 := HX7.out.cell qc_1
          have p_2 := HX7.out.cell qc_2
          have p_3 := HX7.out.cell qc_3
          have p_4 := HX7.out.cell qc_4
          have p_5 := HX7.out.cell qc_5
          go_wp2_with fail
          rename_i Kz hKz
          refine (c10.out _).mono ?_
          rintro e wz9 ⟨vz, rfl, Rz, Xz⟩
          obtain ⟨gz, capz, ez, _, _, hcz⟩ := Rz.form (by have := l7.out; have := l8.out; have := l9.out; have := l10.out; omega)
          subst ez
          have HRz := Lib.hid (HR7.out.ext Xz)
          have HXz := Lib.hid (HX7.out.trans Xz)
          have HCZ := Lib.hid hcz
          clear Rz Xz hcz
          refine hKz _ _ (appD _ rfl _ _ rfl w1 v7 (F k ++ [⟨⟨#[99, 108, 97, 105, 109]⟩, 1, p⟩] ++ L7) rfl HRz.out HXz.out gz capz L10 rfl HCZ.out (by have := l7.out; have := l8.out; have := l9.out; have := l10.out; simp only [List.length_append, List.length_cons, List.length_nil]; omega) (by have := l7.out; have := l8.out; have := l9.out; have := l10.out; omega) ?_)
          intro v9 w9 hR' hX'
          have HR9 := Lib.hid hR'
          have HX9 := Lib.hid hX'
          clear hR' hX' p_0 p_1 p_2 p_3 p_4 p_5 HRz HXz HCZ
          have p_0 := HX9.out.cell qc_0
          have p_1 := HX9.out.cell qc_1
          have p_2 := HX9.out.cell qc_2
          have p_3 := HX9.out.cell qc_3
          have p_4 := HX9.out.cell qc_4
          have p_5 := HX9.out.cell qc_5
          have HG2 := Lib.hid (HL0.out _ ((by simp only [List.append_assoc] : F k ++ [⟨⟨#[99, 108, 97, 105, 109]⟩, 1, p⟩] ++ L7 ++ L10 = F k ++ ([⟨⟨#[99, 108, 97, 105, 109]⟩, 1, p⟩] ++ L7) ++ L10).trans (HLD.out _ (H2.out (by first | trivial | simp | omega))).symm) _ _ (HR9.out.lower EB.size) (EB.trans HX9.out))
          clear p_0 p_1 p_2 p_3 p_4 p_5
          go_wp2
          exact HG2.out
      have d2 : (V == 2) = false := by simp; omega
      have d3 : (V == 3) = false := by simp; omega
      by_cases h4 : V = 4
      · subst h4
        go_wp2_with (at_builtin; refine appD _ rfl _ _ rfl w1 _ (F k) rfl (HR.out.ext ((Ext.refl wr).alloc _)) (HX.out.alloc _) wr.heap.size 1 [⟨⟨#[99, 108, 97, 105, 109]⟩, 1, p⟩] rfl (one_cells _ _ _ (by simp [go_sem]) (by simp [go_sem]) (by simp [go_sem])) (by first | omega | (simp only [List.length_append, List.length_cons, List.length_nil]; omega)) (by simp) ?_)
        intro v6 w6 hR' hX'
        have HR6 := Lib.hid hR'
        have HX6 := Lib.hid hX'
        clear hR' hX' p_0 p_1 p_2 p_3 p_4 p_5
        have p_0 := HX6.out.cell qc_0
        have p_1 := HX6.out.cell qc_1
        have p_2 := HX6.out.cell qc_2
        have p_3 := HX6.out.cell qc_3
        have p_4 := HX6.out.cell qc_4
        have p_5 := HX6.out.cell qc_5
        go_wp2_with fail
        rename_i Kz hKz
        refine (c8.out _).mono ?_
        rintro e wz7 ⟨vz, rfl, Rz, Xz⟩
        obtain ⟨gz, capz, ez, _, _, hcz⟩ := Rz.form (by have := l7.out; have := l8.out; have := l9.out; have := l10.out; omega)
        subst ez
        have HRz := Lib.hid (HR6.out.ext Xz)
        have HXz := Lib.hid (HX6.out.trans Xz)
        have HCZ := Lib.hid hcz
        clear Rz Xz hcz
        refine hKz _ _ (appD _ rfl _ _ rfl w1 v6 (F k ++ [⟨⟨#[99, 108, 97, 105, 109]⟩, 1, p⟩]) rfl HRz.out HXz.out gz capz L8 rfl HCZ.out (by have := l7.out; have := l8.out; have := l9.out; have := l10.out; simp only [List.length_append, List.length_cons, List.length_nil]; omega) (by have := l7.out; have := l8.out; have := l9.out; have := l10.out; omega) ?_)
        intro v7 w7 hR' hX'
        have HR7 := Lib.hid hR'
        have HX7 := Lib.hid hX'
        clear hR' hX' p_0 p_1 p_2 p_3 p_4 p_5 HRz HXz HCZ
        have p_0 := HX7.out.cell qc_0
        have p_1 := HX7.out.cell qc_1
        have p_2 := HX7.out.cell qc_2
        have p_3 := HX7.out.cell qc_3
        have p_4 := HX7.out.cell qc_4
        have p_5 := HX7.out.cell qc_5
        go_wp2_with fail
        rename_i Kz hKz
        refine (c10.out _).mono ?_
        rintro e wz9 ⟨vz, rfl, Rz, Xz⟩
        obtain ⟨gz, capz, ez, _, _, hcz⟩ := Rz.form (by have := l7.out; have := l8.out; have := l9.out; have := l10.out; omega)
        subst ez
        have HRz := Lib.hid (HR7.out.ext Xz)
        have HXz := Lib.hid (HX7.out.trans Xz)
        have HCZ := Lib.hid hcz
        clear Rz Xz hcz
        refine hKz _ _ (appD _ rfl _ _ rfl w1 v7 (F k ++ [⟨⟨#[99, 108, 97, 105, 109]⟩, 1, p⟩] ++ L8) rfl HRz.out HXz.out gz capz L10 rfl HCZ.out (by have := l7.out; have := l8.out; have := l9.out; have := l10.out; simp only [List.length_append, List.length_cons, List.length_nil]; omega) (by have := l7.out; have := l8.out; have := l9.out; have := l10.out; omega) ?_)
        intro v9 w9 hR' hX'
        have HR9 := Lib.hid hR'
        have HX9 := Lib.hid hX'
        clear hR' hX' p_0 p_1 p_2 p_3 p_4 p_5 HRz HXz HCZ
        have p_0 := HX9.out.cell qc_0
        have p_1 := HX9.out.cell qc_1
        have p_2 := HX9.out.cell qc_2
        have p_3 := HX9.out.cell qc_3
        have p_4 := HX9.out.cell qc_4
        have p_5 := HX9.out.cell qc_5
        have HG2 := Lib.hid (HL0.out _ ((by simp only [List.append_assoc] : F k ++ [⟨⟨#[99, 108, 97, 105, 109]⟩, 1, p⟩] ++ L8 ++ L10 = F k ++ ([⟨⟨#[99, 108, 97, 105, 109]⟩, 1, p⟩] ++ L8) ++ L10).trans (HLD.out _ (H4.out (by first | trivial | simp | omega))).symm) _ _ (HR9.out.lower EB.size) (EB.trans HX9.out))
        clear p_0 p_1 p_2 p_3 p_4 p_5
        go_wp2
        exact HG2.out
      · obtain rfl : V = 5 := by omega
        go_wp2_with (at_builtin; refine appD _ rfl _ _ rfl w1 _ (F k) rfl (HR.out.ext ((Ext.refl wr).alloc _)) (HX.out.alloc _) wr.heap.size 3 [⟨⟨#[116, 105, 99, 107, 101, 116]⟩, 1, 0⟩, ⟨⟨#[115, 101, 114, 118, 105, 110, 103]⟩, 1, 0⟩, ⟨⟨#[110, 101, 120, 116]⟩, 2, p⟩] rfl (three_cells _ _ _ _ _ (fun j u hu => three_at _ _ _ _ _ (by simp [go_sem]) (by simp [go_sem]) (by simp [go_sem]) (by simp [go_sem]) (by simp [go_sem]) (by simp [go_sem]) (by simp [go_sem]) (by simp [go_sem]) (by simp [go_sem]) j u hu)) (by first | omega | (simp only [List.length_append, List.length_cons, List.length_nil]; omega)) (by simp) ?_)
        intro v6 w6 hR' hX'
        have HR6 := Lib.hid hR'
        have HX6 := Lib.hid hX'
        clear hR' hX' p_0 p_1 p_2 p_3 p_4 p_5
        have p_0 := HX6.out.cell qc_0
        have p_1 := HX6.out.cell qc_1
        have p_2 := HX6.out.cell qc_2
        have p_3 := HX6.out.cell qc_3
        have p_4 := HX6.out.cell qc_4
        have p_5 := HX6.out.cell qc_5
        go_wp2_with fail
        rename_i Kz hKz
        refine (c9.out _).mono ?_
        rintro e wz7 ⟨vz, rfl, Rz, Xz⟩
        obtain ⟨gz, capz, ez, _, _, hcz⟩ := Rz.form (by have := l7.out; have := l8.out; have := l9.out; have := l10.out; omega)
        subst ez
        have HRz := Lib.hid (HR6.out.ext Xz)
        have HXz := Lib.hid (HX6.out.trans Xz)
        have HCZ := Lib.hid hcz
        clear Rz Xz hcz
        refine hKz _ _ (appD _ rfl _ _ rfl w1 v6 (F k ++ [⟨⟨#[116, 105, 99, 107, 101, 116]⟩, 1, 0⟩, ⟨⟨#[115, 101, 114, 118, 105, 110, 103]⟩, 1, 0⟩, ⟨⟨#[110, 101, 120, 116]⟩, 2, p⟩]) rfl HRz.out HXz.out gz capz L9 rfl HCZ.out (by have := l7.out; have := l8.out; have := l9.out; have := l10.out; simp only [List.length_append, List.length_cons, List.length_nil]; omega) (by have := l7.out; have := l8.out; have := l9.out; have := l10.out; omega) ?_)
        intro v7 w7 hR' hX'
        have HR7 := Lib.hid hR'
        have HX7 := Lib.hid hX'
        clear hR' hX' p_0 p_1 p_2 p_3 p_4 p_5 HRz HXz HCZ
        have p_0 := HX7.out.cell qc_0
        have p_1 := HX7.out.cell qc_1
        have p_2 := HX7.out.cell qc_2
        have p_3 := HX7.out.cell qc_3
        have p_4 := HX7.out.cell qc_4
        have p_5 := HX7.out.cell qc_5
        go_wp2_with fail
        rename_i Kz hKz
        refine (c10.out _).mono ?_
        rintro e wz9 ⟨vz, rfl, Rz, Xz⟩
        obtain ⟨gz, capz, ez, _, _, hcz⟩ := Rz.form (by have := l7.out; have := l8.out; have := l9.out; have := l10.out; omega)
        subst ez
        have HRz := Lib.hid (HR7.out.ext Xz)
        have HXz := Lib.hid (HX7.out.trans Xz)
        have HCZ := Lib.hid hcz
        clear Rz Xz hcz
        refine hKz _ _ (appD _ rfl _ _ rfl w1 v7 (F k ++ [⟨⟨#[116, 105, 99, 107, 101, 116]⟩, 1, 0⟩, ⟨⟨#[115, 101, 114, 118, 105, 110, 103]⟩, 1, 0⟩, ⟨⟨#[110, 101, 120, 116]⟩, 2, p⟩] ++ L9) rfl HRz.out HXz.out gz capz L10 rfl HCZ.out (by have := l7.out; have := l8.out; have := l9.out; have := l10.out; simp only [List.length_append, List.length_cons, List.length_nil]; omega) (by have := l7.out; have := l8.out; have := l9.out; have := l10.out; omega) ?_)
        intro v9 w9 hR' hX'
        have HR9 := Lib.hid hR'
        have HX9 := Lib.hid hX'
        clear hR' hX' p_0 p_1 p_2 p_3 p_4 p_5 HRz HXz HCZ
        have p_0 := HX9.out.cell qc_0
        have p_1 := HX9.out.cell qc_1
        have p_2 := HX9.out.cell qc_2
        have p_3 := HX9.out.cell qc_3
        have p_4 := HX9.out.cell qc_4
        have p_5 := HX9.out.cell qc_5
        have HG2 := Lib.hid (HL0.out _ ((by simp only [List.append_assoc] : F k ++ [⟨⟨#[116, 105, 99, 107, 101, 116]⟩, 1, 0⟩, ⟨⟨#[115, 101, 114, 118, 105, 110, 103]⟩, 1, 0⟩, ⟨⟨#[110, 101, 120, 116]⟩, 2, p⟩] ++ L9 ++ L10 = F k ++ ([⟨⟨#[116, 105, 99, 107, 101, 116]⟩, 1, 0⟩, ⟨⟨#[115, 101, 114, 118, 105, 110, 103]⟩, 1, 0⟩, ⟨⟨#[110, 101, 120, 116]⟩, 2, p⟩] ++ L9) ++ L10).trans (HLD.out _ (H5.out (by first | trivial | simp | omega))).symm) _ _ (HR9.out.lower EB.size) (EB.trans HX9.out))
        clear p_0 p_1 p_2 p_3 p_4 p_5
        go_wp2
        exact HG2.out
end Go.Proofs.YtaimmpcijdpgdabGreatDoor

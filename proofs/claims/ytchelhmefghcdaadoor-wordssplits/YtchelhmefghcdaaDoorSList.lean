/- words.ShowList and the document's word of a list. -/
import Derived.Test.YtchelhmefghcdaaDoorBtw
import Derived.Test.YtchelhmefghcdaaDoorInts
import Derived.Test.YtchelhmefghcdaaDoorRef06
import Derived.Deep.AppendLies
import Derived.RangeFuncRecord
namespace Go.Proofs.YtchelhmefghcdaaDoor
open Go.RowKit
set_option linter.unusedVariables false
set_option maxHeartbeats 2000000
/-- the word of a list -/
def listW (xs : List Int) : List UInt8 := if xs = [] then [46] else cat [44] (xs.map Lib.itoa)
theorem itoa_len {z : Int} (h0 : -9223372036854775808 ≤ z) (h1 : z ≤ 9223372036854775807) : (Lib.itoa z).length ≤ 21 := by
  rcases Int.lt_or_le z 0 with h | h
  · obtain ⟨u, hu⟩ : ∃ u : Nat, z = -(u : Int) := ⟨z.natAbs, by omega⟩
    subst hu
    rw [Lib.itoa_neg u (by omega)]
    have := dec_len20 (x := u) (by omega)
    simp; omega
  · obtain ⟨u, hu⟩ : ∃ u : Nat, z = (u : Int) := ⟨z.natAbs, by omega⟩
    subst hu
    rw [Lib.itoa_nonneg]
    have := dec_len20 (x := u) (by omega)
    omega
theorem flat_len (mid : List UInt8) (M : Nat) : ∀ (r : List (List UInt8)), (∀ x ∈ r, x.length ≤ M) → (r.flatMap (fun x => mid ++ x)).length ≤ r.length * (mid.length + M)
  | [], _ => by simp
  | a :: r, h => by
    have h1 := h a List.mem_cons_self
    have h2 := flat_len mid M r fun x hx => h x (List.mem_cons_of_mem _ hx)
    rw [List.flatMap_cons, List.length_append, List.length_append, List.length_cons, Nat.add_mul]
    omega
theorem cat_len (mid : List UInt8) (M : Nat) (ls : List (List UInt8)) (h : ∀ x ∈ ls, x.length ≤ M) : (cat mid ls).length ≤ ls.length * (mid.length + M) := by
  cases ls with
  | nil => simp [cat]
  | cons a r =>
    have h1 := h a List.mem_cons_self
    have h2 := flat_len mid M r fun x hx => h x (List.mem_cons_of_mem _ hx)
    rw [cat, List.length_append, List.length_cons, Nat.add_mul]
    omega
/-- all fit -/
def Fit (xs : List Int) : Prop := ∀ z ∈ xs, -9223372036854775808 ≤ z ∧ z ≤ 9223372036854775807
theorem Fit.at {xs : List Int} (h : Fit xs) (k : Nat) (hk : k < xs.length) : -9223372036854775808 ≤ xs.getD k 0 ∧ xs.getD k 0 ≤ 9223372036854775807 := by
  have : xs.getD k 0 ∈ xs := by simp [hk]
  exact h _ this
theorem Fit.len {xs : List Int} (h : Fit xs) : (cat [44] (xs.map Lib.itoa)).length ≤ xs.length * 22 := by
  have := cat_len [44] 21 (xs.map Lib.itoa) (fun x hx => by
    obtain ⟨z, hz, rfl⟩ := List.mem_map.1 hx
    exact itoa_len (h z hz).1 (h z hz).2)
  simpa using this
def rowT (xs : List Int) (k : Nat) : List Value := (xs.take k).map fun z => .string (tx (Lib.itoa z))
theorem rowT_snoc (xs : List Int) (k : Nat) (h : k < xs.length) : rowT xs (k + 1) = rowT xs k ++ [.string (tx (Lib.itoa (xs.getD k 0)))] := by
  unfold rowT
  rw [List.take_succ_eq_append_getElem h, List.map_append]
  simp [h]
theorem texts_row {w : World} {base e : Nat} {v : Value} (xs : List Int) (h : w.ownsRow base e 1 v xs.length (rowT xs xs.length)) : ∃ a cap, v = .slice a xs.length cap ∧ Texts w a xs.length (xs.map Lib.itoa) := by
  by_cases h0 : xs.length = 0
  · rcases h.2 with ⟨rfl, _⟩ | ⟨g, cap, cur, rfl, _⟩
    · exact ⟨none, 0, by rw [h0], by simp, .inl h0⟩
    · exact ⟨_, cap, rfl, by simp, .inl h0⟩
  · obtain ⟨g, cap, rfl, _, _⟩ := h.form (by omega)
    refine ⟨_, cap, rfl, by simp, .inr ⟨g, 0, rfl, fun i hi => ?_⟩⟩
    rw [List.length_map] at hi
    rw [Nat.zero_add, h.cellAt i (by omega)]
    simp [rowT, hi]
theorem info_str : (Tryd.prog.info? 9).map (fun i => (i.zero, i.size, i.bytes)) = some (some (.string ⟨#[]⟩), 1, 16) := by kernel_rfl
theorem Ext.row {a b : World} (h : Ext a b) {base e sz : Nat} {v : Value} {n : Nat} {xs : List Value} (hr : a.ownsRow base e sz v n xs) : b.ownsRow base e sz v n xs := by
  refine ⟨hr.1, ?_⟩
  rcases hr.2 with hn | ⟨g, cap, cur, rfl, hb, hg, rest⟩
  · exact .inl hn
  · exact .inr ⟨g, cap, cur, rfl, hb, (h.block g (Array.getElem?_eq_some_iff.1 hg).1).trans hg, rest⟩
set_option maxRecDepth 100000 in
theorem cShowList (v : Value) (xs : List Int) (w : World) (h : IntsV w v xs) (hl : xs.length ≤ 1000000) (hf : Fit xs) (E : Env w) :
    Calls Tryd.prog 18 #[v] w fun e w' => e = .returned (.string (tx (listW xs))) ∧ Ext w w' := by
  by_cases h0 : xs.length = 0
  · have ea : ∃ p c, v = .slice p 0 c := by
      rcases h with ⟨p, c, h, _⟩ | ⟨b, off, c, h, _⟩
      · exact ⟨p, c, h⟩
      · rw [h0] at h; exact ⟨_, c, h⟩
    obtain ⟨p1, c1, rfl⟩ := ea
    have e1 : listW xs = [46] := by rw [List.length_eq_zero_iff.1 h0]; rfl
    rw [e1]
    clear h
    go_enter Tryd.func18, Tryd.ntmps18
    go_wp2
    go_ret
    exact ⟨rfl, Ext.refl _⟩
  · rcases h with ⟨p, c, h, hx⟩ | ⟨b1, o1, c1, rfl, hc1⟩
    · subst hx; exact absurd rfl h0
    obtain ⟨i0, hi, hz0, hz1, hz2⟩ := info_parts info_str
    have e1 : listW xs = cat [44] (xs.map Lib.itoa) := by unfold listW; rw [if_neg]; intro e; rw [e] at h0; exact h0 rfl
    rw [e1]
    clear e1
    have H1 := Lib.hid hc1
    obtain ⟨n, hn⟩ : ∃ n, n = xs.length := ⟨_, rfl⟩
    rw [← hn]
    have HN := Lib.hid hn
    have hl2 : n ≤ 1000000 := by omega
    have hn0 : ((n : Int) == 0) = false := by simp; omega
    clear hn hl hc1 h0
    go_enter Tryd.func18, Tryd.ntmps18
    go_wp2
    go_loopw [3, 11] (fun v i wr => ∃ k : Nat, k ≤ n ∧ i = .int .i64 k ∧ wr.ownsRow w.heap.size 9 1 v k (rowT xs k) ∧ Ext w wr) (fun _ i _ => n - (intOf i).toNat)
    case atStart => exact ⟨0, Nat.zero_le _, rfl, World.ownsRow_nil _ _ _ _, Ext.refl _⟩
    case round =>
      obtain ⟨k, hk, rfl, ho, hx⟩ := hrel
      have HO := Lib.hid ho
      clear ho
      by_cases hlt : k < n
      · have hkx : k < xs.length := by have := HN.out; omega
        have d1 := hx.cell (H1.out k hkx)
        have hfit := hf.at k hkx
        have S1 := Lib.hid (rowT_snoc xs k hkx)
        generalize xs.getD k 0 = q at *
        have hkn : (k : Int) < (n : Int) := by omega
        go_wp2_with fail
        refine (cShow q _ hfit.1 hfit.2 (E.later hx)).mono ?_
        rintro e w1 ⟨rfl, hx1⟩
        have X1 := hx.trans hx1
        have HO1 := Lib.hid (hx1.row HO.out)
        clear hx1 d1 HO
        generalize tx (Lib.itoa q) = t at *
        have C7 : ∀ j u, ([.string t] : List Value)[j]? = some u → (w1.alloc (.cells #[.string t] 9)).cell? ((⟨w1.heap.size, 0, none⟩ : Addr).add j) = some u := World.news_of_block (World.alloc_heap_new w1 _)
        have HC7 := Lib.hid C7
        clear C7
        have hs1 := X1.size
        go_wp2_with (at_builtin; refine wpList_append_own _ rfl _ _ 23 rfl w.heap.size 9 i0 (.string ⟨#[]⟩) 1 16 Tryd.underlying23 hi hz0 hz1 hz2 rfl (by decide) _ _ _ rfl (HO1.out.alloc _) ⟨w1.heap.size, 0, none⟩ 1 1 [.string t] rfl rfl HC7.out ?c2 ?c3 ?c4 ?c5 ?_)
        case c2 => intro u hu; simp at hu; subst hu; rfl
        case c3 => unfold maxLen; omega
        case c4 => omega
        case c5 => simp; omega
        intro v1 w8 hv1 hg8 _
        rw [← S1.out] at hv1
        have HV := Lib.hid hv1
        have X8 : Ext w w8 := (X1.alloc _).grown hg8 (fun j h => (HO1.out.lt j h).1)
        clear hg8 HC7 hv1 HO1 hs1
        go_wp2
        exact ⟨⟨k + 1, by omega, by go_num, HV.out, X8⟩, by simp [intOf]; omega⟩
      · obtain rfl : k = n := by omega
        have ho := HO.out
        rw [HN.out] at ho
        obtain ⟨a, cap, hv, hT⟩ := texts_row xs ho
        have hlen := hf.len
        rw [← HN.out] at hv hT hlen
        subst hv
        have HT := Lib.hid hT
        have hl3 : (cat [44] (xs.map Lib.itoa)).length ≤ 100000000000000 := by omega
        clear ho hT HN hlen HO
        go_wp2_with fail
        refine (cBetween [44] a k cap (xs.map Lib.itoa) _ HT.out hl3 (by omega)).mono ?_
        rintro e w1 ⟨rfl, hx1⟩
        have X1 := hx.trans hx1
        clear hx1
        go_wp2
        go_ret
        exact ⟨rfl, X1⟩
/-! The document's. -/
set_option maxRecDepth 100000 in
theorem rList (v : Value) (xs : List Int) (w : World) (h : IntsV w v xs) (hl : xs.length ≤ 1000000) (hf : Fit xs) :
    Calls Tryd.prog 19 #[v] w fun e w' => e = .returned (.string (tx (listW xs))) ∧ Ext w w' := by
  by_cases h0 : xs.length = 0
  · have ea : ∃ p c, v = .slice p 0 c := by
      rcases h with ⟨p, c, h, _⟩ | ⟨b, off, c, h, _⟩
      · exact ⟨p, c, h⟩
      · rw [h0] at h; exact ⟨_, c, h⟩
    obtain ⟨p1, c1, rfl⟩ := ea
    have e1 : listW xs = [46] := by rw [List.length_eq_zero_iff.1 h0]; rfl
    rw [e1]
    clear h
    go_enter Tryd.func19, Tryd.ntmps19
    go_wp2
    go_ret
    exact ⟨rfl, Ext.refl _⟩
  · rcases h with ⟨p, c, h, hx⟩ | ⟨b1, o1, c1, rfl, hc1⟩
    · subst hx; exact absurd rfl h0
    have e1 : listW xs = cat [44] (xs.map Lib.itoa) := by unfold listW; rw [if_neg]; intro e; rw [e] at h0; exact h0 rfl
    rw [e1]
    clear e1
    have H1 := Lib.hid hc1
    have d0 := hc1 0 (by omega)
    rw [Nat.add_zero] at d0
    have f0 := hf.at 0 (by omega)
    have F1 := Lib.hid (cat_first [44] (xs.map Lib.itoa) (by rw [List.length_map]; omega))
    have e0 : (xs.map Lib.itoa).getD 0 [] = Lib.itoa (xs.getD 0 0) := by simp [show 0 < xs.length by omega]
    rw [e0] at F1
    have hfl := Lib.hid hf.len
    obtain ⟨n, hn⟩ : ∃ n, n = xs.length := ⟨_, rfl⟩
    rw [← hn]
    have HN := Lib.hid hn
    have hl2 : n ≤ 1000000 := by omega
    have hn1 : 1 ≤ n := by omega
    have hn0 : ((n : Int) == 0) = false := by simp; omega
    clear hn hl hc1 h0 e0
    generalize xs.getD 0 0 = q0 at *
    have hn2 : (0 : Int) < (n : Int) := by omega
    go_enter Tryd.func19, Tryd.ntmps19
    go_wp2_with fail
    refine (rNum6 q0 _ f0.1 f0.2).mono ?_
    rintro e w1 ⟨rfl, hw1⟩
    clear d0
    go_wp2
    go_loopw [3, 4] (fun s i wr => ∃ k : Nat, 1 ≤ k ∧ k ≤ n ∧ i = .int .i64 k ∧ s = .string (tx (cat [44] ((xs.map Lib.itoa).take k))) ∧ Ext w wr) (fun _ i _ => n - (intOf i).toNat)
    case atStart => exact ⟨1, Nat.le_refl _, hn1, rfl, by rw [F1.out], hw1⟩
    case round =>
      obtain ⟨k, hk1, hk, rfl, rfl, hx⟩ := hrel
      by_cases hlt : k < n
      · have hkx : k < xs.length := by have := HN.out; omega
        have d1 := hx.cell (H1.out k hkx)
        have hfit := hf.at k hkx
        have S1 := cat_next [44] (xs.map Lib.itoa) k (by omega) (by rw [List.length_map]; exact hkx)
        have ek : (xs.map Lib.itoa).getD k [] = Lib.itoa (xs.getD k 0) := by simp [hkx]
        rw [ek] at S1
        have hle := cat_le [44] (xs.map Lib.itoa) (k + 1) (by omega) (by rw [List.length_map]; exact hkx)
        rw [S1, List.length_append, List.length_append] at hle
        have hfl2 := hfl.out
        rw [← HN.out] at hfl2
        have HS := Lib.hid S1
        clear ek S1
        generalize xs.getD k 0 = q at *
        have hkn : (k : Int) < (n : Int) := by omega
        generalize cat [44] ((xs.map Lib.itoa).take k) = acc at *
        have hs1 : (tx acc).size + ({ data := #[44] } : ByteArray).size ≤ 9223372036854775807 := by rw [tx_size]; show acc.length + 1 ≤ _; omega
        have hs2 : (tx acc ++ ({ data := #[44] } : ByteArray)).size + (tx (Lib.itoa q)).size ≤ 9223372036854775807 := by rw [ByteArray.size_append, tx_size, tx_size]; show acc.length + 1 + _ ≤ _; omega
        have ha : tx (cat [44] ((xs.map Lib.itoa).take (k + 1))) = tx acc ++ ({ data := #[44] } : ByteArray) ++ tx (Lib.itoa q) := by rw [HS.out, tx_append, tx_append]; rfl
        have HA := Lib.hid ha
        have C := Lib.hid (fun w => rNum6 q w hfit.1 hfit.2)
        clear ha hle hfl2 HS
        generalize tx acc = A at *
        generalize tx (Lib.itoa q) = T at *
        go_wp2_with fail
        refine (C.out _).mono ?_
        rintro e w2 ⟨rfl, hx2⟩
        have X2 := hx.trans hx2
        clear d1 hx2
        go_wp2
        exact ⟨⟨k + 1, by omega, by omega, by go_num, by rw [HA.out], X2⟩, by simp [intOf]; omega⟩
      · obtain rfl : k = n := by omega
        have e1 : (xs.map Lib.itoa).take k = xs.map Lib.itoa := List.take_of_length_le (by rw [List.length_map, HN.out]; exact Nat.le_refl _)
        rw [e1]
        clear e1
        go_wp2
        go_ret
        exact ⟨rfl, hx⟩
end Go.Proofs.YtchelhmefghcdaaDoor

/- The document's Split and Lines of layer 6; words.Lines. -/
import Derived.Test.YtchelhmefghcdaaDoorLin6
import Derived.Test.YtchelhmefghcdaaDoorLine6
import Derived.Test.YtchelhmefghcdaaDoorSplitW
import Derived.Laws.DeepStrings4
import Derived.WalkMore
namespace Go.Proofs.YtchelhmefghcdaaDoor
open Go.RowKit
set_option linter.unusedVariables false
set_option maxHeartbeats 2000000
/-- a row of texts of the call's own -/
def RS (w : World) (base : Nat) (v : Value) (ls : List (List UInt8)) : Prop := w.ownsRow base 9 1 v ls.length (ls.map fun l => .string (tx l))
theorem RS.texts {w : World} {base : Nat} {v : Value} {ls : List (List UInt8)} (h : RS w base v ls) : ∃ a cap, v = .slice a ls.length cap ∧ Texts w a ls.length ls := by
  rcases h.2 with ⟨h1, h2⟩ | ⟨g, cap, cur, h1, hb, hg, hc, hm, hs, ht⟩
  · have e : ls = [] := by simpa using h2
    subst e
    exact ⟨none, 0, h1, rfl, .inl rfl⟩
  · refine ⟨_, cap, h1, rfl, .inr ⟨g, 0, rfl, fun i hi => ?_⟩⟩
    subst h1
    rw [Nat.zero_add, h.cellAt i (by omega)]
    simp [hi]
theorem appS {ops : Array Oper} {rest : List Oper} {o : Oper} {a : Act} {Q : Exit → Act → World → Prop} (w : World) (hgd : o.guard = none) (s x : Operand)
    (ho : o.op = .call { callee := .builtin .append, args := #[s, x], argTypes := #[23, 23] })
    (W : World) (v : Value) (ls : List (List UInt8)) (hs : a.eval s = v) (hown : RS w W.heap.size v ls) (hW : Ext W w) (g : Nat) (z : List UInt8) (hx : a.eval x = .slice (some ⟨g, 0, none⟩) 1 1) (hcell : w.cell? ⟨g, 0, none⟩ = some (.string (tx z))) (hl : ls.length ≤ 1000000)
    (h : ∀ v' w', RS w' W.heap.size v' (ls ++ [z]) → Ext W w' → wpList Tryd.prog ops Q rest (a.put o.dst v') w') : wpList Tryd.prog ops Q (o :: rest) a w := by
  obtain ⟨i0, hi, hz0, hz1, hz2⟩ := info_parts info_str
  refine wpList_append_own w hgd s x 23 ho W.heap.size 9 i0 (.string ⟨#[]⟩) 1 16 Tryd.underlying23 hi hz0 hz1 hz2 rfl (by decide) v ls.length (ls.map fun l => .string (tx l)) hs hown ⟨g, 0, none⟩ 1 1 [.string (tx z)] hx rfl ?_ ?_ ?_ ?_ ?_ ?_
  · intro j u hu
    match j, hu with
    | 0, hu =>
      simp at hu
      subst hu
      simpa [Addr.add] using hcell
  · intro u hu; simp at hu; subst hu; rfl
  · unfold maxLen; omega
  · omega
  · exact hW.size
  · intro v' w' h1 h2 _
    refine h v' w' ?_ (hW.grown h2 fun j hj => (World.ownsRow.lt hown j hj).1)
    unfold RS
    rw [List.length_append, List.map_append]
    exact h1
theorem tx_ext (l : List UInt8) (i j : Nat) (h : j ≤ l.length) : (tx l).extract i j = tx ((l.drop i).take (j - i)) := by
  apply ByteArray.ext
  simp [tx]
theorem take1 (l : List UInt8) (k : Nat) (h : k < l.length) : (l.drop k).take (k + 1 - k) = [l.getD k 0] := by
  have e : l.getD k 0 = l[k] := by simp [h]
  rw [e, show k + 1 - k = 1 by omega, List.drop_eq_getElem_cons h]
  rfl
def GivesS (w : World) (ls : List (List UInt8)) (e : Ending) (w' : World) : Prop := (∃ a cap, e = .returned (.slice a ls.length cap) ∧ Texts w' a ls.length ls) ∧ Ext w w'
theorem givesS {w w' : World} {v : Value} {base : Nat} {ls : List (List UInt8)} (h : RS w' base v ls) (hx : Ext w w') : GivesS w ls (.returned v) w' := by
  obtain ⟨a, cap, rfl, ht⟩ := h.texts
  exact ⟨⟨a, cap, rfl, ht⟩, hx⟩
set_option maxRecDepth 100000 in
theorem rSplit (l : List UInt8) (w : World) (hl : l.length ≤ 1000000) : Calls Tryd.prog 13 #[.string (tx l)] w (GivesS w (if l = [] then [] else parts 32 l)) := by
  obtain ⟨s, hs⟩ : ∃ s, s = tx l := ⟨_, rfl⟩
  obtain ⟨n, hn⟩ : ∃ n, n = l.length := ⟨_, rfl⟩
  have hsz : s.size = n := by rw [hs, hn]; rfl
  have HB : Hid (∀ k (h : k < s.size), (s[k]'h).toNat = (l.getD k 0).toNat) := Lib.hid (fun k h => by
    subst hs
    have h2 : k < l.length := by rw [tx_size] at h; exact h
    rw [tx_getE l k h]
    simp [h2])
  have HX : Hid (∀ k, k < n → s.extract k (k + 1) = tx [l.getD k 0]) := Lib.hid (fun k h => by
    subst hs
    rw [tx_ext l k (k + 1) (by omega), take1 l k (by omega)])
  have HSN : Hid (∀ k, k < n → ∀ (out : List (List UInt8)) (word : List UInt8), parts 32 (l.take k) = out ++ [word] → parts 32 (l.take (k + 1)) = if l.getD k 0 = 32 then out ++ [word] ++ [[]] else out ++ [word ++ [l.getD k 0]]) := Lib.hid (fun k h out word hp => by
    rw [List.take_succ_eq_append_getElem (by omega), parts_snoc 32 _ _ out word hp]
    have e : l.getD k 0 = l[k] := by simp [show k < l.length by omega]
    rw [e])
  have HEN : Hid ((s.toList == []) = decide (l = [])) := Lib.hid (by
    rw [hs, tx_tl]
    cases l <;> simp)
  have HTK : Hid (l.take n = l) := Lib.hid (by rw [hn]; exact List.take_length)
  have HNL : Hid (l = [] ↔ n = 0) := Lib.hid (by rw [hn]; exact ⟨fun h => by rw [h]; rfl, List.eq_nil_of_length_eq_zero⟩)
  have HR0 : Hid (l = [] → (if l = [] then ([] : List (List UInt8)) else parts 32 l) = []) := Lib.hid (fun h => if_pos h)
  have HR1 : Hid (l ≠ [] → (if l = [] then ([] : List (List UInt8)) else parts 32 l) = parts 32 l) := Lib.hid (fun h => if_neg h)
  generalize (if l = [] then ([] : List (List UInt8)) else parts 32 l) = res at *
  rw [← hs]
  rw [← hn] at hl
  clear hs hn
  go_enter Tryd.func13, Tryd.ntmps13
  go_wp2
  go_loopw [3, 4, 5] (fun o x i wr => ∃ (k : Nat) (out : List (List UInt8)) (word : List UInt8), k ≤ n ∧ i = .int .i64 k ∧ x = .string (tx word) ∧ word.length ≤ k ∧ out.length ≤ k ∧ Hid (parts 32 (l.take k) = out ++ [word]) ∧ RS wr w.heap.size o out ∧ Ext w wr) (fun _ _ i _ => n - (intOf i).toNat)
  case atStart => exact ⟨0, [], [], Nat.zero_le _, rfl, rfl, Nat.le_refl _, Nat.le_refl _, Lib.hid rfl, World.ownsRow_nil _ _ _ _, Ext.refl _⟩
  case round =>
    obtain ⟨k, out, word, hk, rfl, rfl, hwl, hol, HP, R, hX⟩ := hrel
    have HR := Lib.hid R
    clear R
    by_cases hlt : k < n
    · have hks : k < s.size := by omega
      have hc := HB.out k hks
      have hx1 := HX.out k hlt
      have HS1 := Lib.hid (HSN.out k hlt out word HP.out)
      have hkn : (k : Int) < (n : Int) := by omega
      have hks2 : (k : Int) < (s.size : Int) := by omega
      generalize l.getD k 0 = x at *
      by_cases h1 : x = 32
      · have HP2 : Hid (parts 32 (l.take (k + 1)) = (out ++ [word]) ++ [[]]) := Lib.hid (by rw [HS1.out, if_pos h1])
        have t1 : ((x.toNat : Int) == 32) = true := by rw [h1]; rfl
        have t2 : (x.toNat == 32) = true := by rw [h1]; rfl
        generalize x.toNat = c at *
        clear HS1 h1 HP hx1
        have hol2 : out.length ≤ 1000000 := by omega
        go_wp2_with (at_builtin; refine appS _ rfl _ _ rfl w _ out rfl (((Ext.refl wr).alloc _).row HR.out) (hX.alloc _) wr.heap.size word rfl (by simp [go_sem]) hol2 ?_)
        intro v4 w4 R4 X4
        have HR4 := Lib.hid R4
        clear R4 HR
        go_wp2
        exact ⟨⟨k + 1, out ++ [word], [], by omega, by go_num, rfl, by simp, by simp; omega, HP2, HR4.out, X4⟩, by simp [intOf]; omega⟩
      · have HP2 : Hid (parts 32 (l.take (k + 1)) = out ++ [word ++ [x]]) := Lib.hid (by rw [HS1.out, if_neg h1])
        have hx32 : x.toNat ≠ 32 := fun h => h1 (UInt8.toNat_inj.1 (by rw [h]; rfl))
        have t1 : ((x.toNat : Int) == 32) = false := by simp; omega
        have t2 : (x.toNat == 32) = false := by simpa using hx32
        have a1 : tx word ++ tx [x] = tx (word ++ [x]) := (tx_append _ _).symm
        have b1 : ¬ 9223372036854775807 < (tx word).size + (tx [x]).size := by rw [tx_size, tx_size]; simp; omega
        have b2 : (k : Int) + 1 ≤ (s.size : Int) := by omega
        generalize x.toNat = c at *
        generalize tx word = tw at *
        generalize tx [x] = t1x at *
        clear HS1 h1 HP hx32
        go_wp2
        exact ⟨⟨k + 1, out, word ++ [x], by omega, by go_num, by first | rfl | (rw [a1]), by simp; omega, by omega, HP2, HR.out, hX⟩, by simp [intOf]; omega⟩
    · obtain rfl : k = n := by omega
      have hp := HP.out
      rw [HTK.out] at hp
      have HPF := Lib.hid hp
      have he := HEN.out
      by_cases h0 : l = []
      · have e0 := HNL.out.1 h0
        have ho : out = [] := List.eq_nil_of_length_eq_zero (by omega)
        subst ho
        have HG : Hid (GivesS w res (.returned _) wr) := Lib.hid (by rw [HR0.out h0]; exact givesS HR.out hX)
        have e1 : (s.toList == []) = true := by rw [he]; simpa using h0
        clear he hp HP HR h0 HPF
        go_wp2
        go_ret
        exact HG.out
      · have hres := Lib.hid (HR1.out h0)
        have e1 : (s.toList == []) = false := by rw [he]; simpa using h0
        have hol2 : out.length ≤ 1000000 := by omega
        clear he hp HP h0
        go_wp2_with (at_builtin; refine appS _ rfl _ _ rfl w _ out rfl (((Ext.refl wr).alloc _).row HR.out) (hX.alloc _) wr.heap.size word rfl (by simp [go_sem]) hol2 ?_)
        intro v4 w4 R4 X4
        rw [← HPF.out] at R4
        have HG : Hid (GivesS w res (.returned v4) w4) := Lib.hid (by rw [hres.out]; exact givesS R4 X4)
        clear R4 HR
        go_wp2
        go_ret
        exact HG.out
/-- what Lines tells -/
def LinesDoes (w : World) (r : List (List UInt8) × Nat × Nat) (e : Ending) (w' : World) : Prop :=
  (∃ a cap, e = .returned (.tuple #[.slice a r.1.length cap, .int .i64 (r.2.1 : Nat), .int .i64 (r.2.2 : Nat)]) ∧ Texts w' a r.1.length r.1) ∧ Ext w w'
theorem lines_bad {w w' : World} (m : Nat) (hx : Ext w w') : LinesDoes w ([], m + 1, 20) (.returned (.tuple #[.slice none 0 0, .int .i64 ((m : Int) + 1), .int .i64 20])) w' :=
  ⟨⟨none, 0, by simp, rfl, .inl rfl⟩, hx⟩
theorem lines_good {w w' : World} {v : Value} {base : Nat} {ls : List (List UInt8)} (h : RS w' base v ls) (hx : Ext w w') : LinesDoes w (ls, 0, 0) (.returned (.tuple #[v, .int .i64 0, .int .i64 0])) w' := by
  obtain ⟨a, cap, rfl, ht⟩ := h.texts
  exact ⟨⟨a, cap, rfl, ht⟩, hx⟩
theorem parts_drop (l : List UInt8) (f k n : Nat) (hn : n = l.length) (hf : f ≤ k) (hk : k < n) (hno : ∀ j, f ≤ j → j < k → l.getD j 0 ≠ 10) (hc : l.getD k 0 = 10) : parts 10 (l.drop f) = (l.drop f).take (k - f) :: parts 10 (l.drop (k + 1)) := by
  have h := parts_at 10 (l.drop f) (k - f) (by rw [List.length_drop]; omega) (fun j hj => by
    have := hno (f + j) (by omega) (by omega)
    simpa [List.getElem?_drop] using this) (by
    have e : f + (k - f) = k := by omega
    simpa [List.getElem?_drop, e] using hc)
  rw [h, List.drop_drop, show f + (k - f + 1) = k + 1 by omega]
theorem none_drop (l : List UInt8) (f n : Nat) (hn : n = l.length) (hno : ∀ j, f ≤ j → j < n → l.getD j 0 ≠ 10) : (10 : UInt8) ∉ l.drop f := by
  apply not_mem_of
  intro j hj
  rw [List.length_drop] at hj
  have := hno (f + j) (by omega) (by omega)
  simpa [List.getElem?_drop] using this
set_option maxRecDepth 100000 in
theorem rLines_long (l : List UInt8) (w : World) (hl : 65536 < l.length) : Calls Tryd.prog 10 #[.string (tx l)] w (LinesDoes w ([], 0, 21)) := by
  have HG : Hid (LinesDoes w ([], 0, 21) (.returned (.tuple #[.slice none 0 0, .int .i64 0, .int .i64 21])) w) := Lib.hid ⟨⟨none, 0, rfl, rfl, .inl rfl⟩, Ext.refl w⟩
  have hsz : decide ((65536 : Int) < ((tx l).size : Int)) = true := by rw [tx_size]; simp; omega
  generalize tx l = s at *
  go_enter Tryd.func10, Tryd.ntmps10
  go_wp2
  go_ret3
  exact HG.out
set_option maxRecDepth 100000 in
theorem wLines_long (l : List UInt8) (w : World) (hl : 65536 < l.length) : Calls Tryd.prog 9 #[.string (tx l)] w (LinesDoes w ([], 0, 21)) := by
  have HG : Hid (LinesDoes w ([], 0, 21) (.returned (.tuple #[.slice none 0 0, .int .i64 0, .int .i64 21])) w) := Lib.hid ⟨⟨none, 0, rfl, rfl, .inl rfl⟩, Ext.refl w⟩
  have hsz : decide ((65536 : Int) < ((tx l).size : Int)) = true := by rw [tx_size]; simp; omega
  generalize tx l = s at *
  go_enter Tryd.func9, Tryd.ntmps9
  go_wp2
  go_ret3
  exact HG.out
set_option maxRecDepth 100000 in
theorem rLines (l : List UInt8) (w : World) (hl : l.length ≤ 65536) : Calls Tryd.prog 10 #[.string (tx l)] w (LinesDoes w (linesOf l)) := by
  obtain ⟨s, hs⟩ : ∃ s, s = tx l := ⟨_, rfl⟩
  obtain ⟨n, hn⟩ : ∃ n, n = l.length := ⟨_, rfl⟩
  have hsz : s.size = n := by rw [hs, hn]; rfl
  have HB : Hid (∀ k (h : k < s.size), (s[k]'h).toNat = (l.getD k 0).toNat) := Lib.hid (fun k h => by
    subst hs
    have h2 : k < l.length := by rw [tx_size] at h; exact h
    rw [tx_getE l k h]
    simp [h2])
  have HX : Hid (∀ f k, f ≤ k → k < n → s.extract f k = tx ((l.drop f).take (k - f))) := Lib.hid (fun f k h1 h2 => by
    subst hs
    rw [tx_ext l f k (by omega)])
  have HPD := Lib.hid (fun f k h1 h2 h3 h4 => parts_drop l f k n hn h1 h2 h3 h4)
  have HND := Lib.hid (fun f h => none_drop l f n hn h)
  have HDN : Hid (∀ f, f < n → l.drop f ≠ []) := Lib.hid (fun f h e => by have := congrArg List.length e; rw [List.length_drop, List.length_nil] at this; omega)
  have HDE : Hid (l.drop n = []) := Lib.hid (List.drop_of_length_le (by omega))
  have CL := Lib.hid (fun (f k : Nat) w => rLine ((l.drop f).take (k - f)) w (by rw [List.length_take, List.length_drop]; omega))
  have HL0 : Hid (specP [] (parts 10 (l.drop 0)) = linesOf l) := Lib.hid rfl
  generalize linesOf l = res at *
  rw [← hs]
  rw [← hn] at hl
  have d0 : decide ((65536 : Int) < (n : Int)) = false := by simp; omega
  clear hs hn
  go_enter Tryd.func10, Tryd.ntmps10
  go_wp2
  go_loopw [5, 6, 7] (fun o f i wr => ∃ (k q : Nat) (out : List (List UInt8)), k ≤ n ∧ q ≤ k ∧ out.length ≤ k ∧ i = .int .i64 k ∧ f = .int .i64 q ∧ Hid (specP out (parts 10 (l.drop q)) = res) ∧ Hid (∀ j, q ≤ j → j < k → l.getD j 0 ≠ 10) ∧ RS wr w.heap.size o out ∧ Ext w wr) (fun _ _ i _ => n - (intOf i).toNat)
  case atStart => exact ⟨0, 0, [], Nat.zero_le _, Nat.le_refl _, Nat.le_refl _, rfl, rfl, HL0, Lib.hid (fun j _ h => by omega), World.ownsRow_nil _ _ _ _, Ext.refl _⟩
  case round =>
    obtain ⟨k, q, out, hk, hq, hol, rfl, rfl, HS, HNO, R, hX⟩ := hrel
    have HR := Lib.hid R
    clear R HL0
    by_cases hlt : k < n
    · have hks : k < s.size := by omega
      have hc := HB.out k hks
      have hx1 := HX.out q k hq hlt
      have hkn : (k : Int) < (n : Int) := by omega
      have hks2 : (k : Int) < (s.size : Int) := by omega
      have hqk : (q : Int) ≤ (k : Int) := by omega
      have hkl2 : (k : Int) ≤ (s.size : Int) := by omega
      have HC2 := Lib.hid (CL.out q k)
      have HPD2 : Hid (l.getD k 0 = 10 → parts 10 (l.drop q) = (l.drop q).take (k - q) :: parts 10 (l.drop (k + 1))) := Lib.hid (fun h => HPD.out q k hq hlt HNO.out h)
      have HNO2 : Hid (l.getD k 0 ≠ 10 → ∀ j, q ≤ j → j < k + 1 → l.getD j 0 ≠ 10) := Lib.hid (fun h j h1 h2 => by
        by_cases e : j = k
        · rw [e]; exact h
        · exact HNO.out j h1 (by omega))
      generalize l.getD k 0 = x at *
      by_cases h1 : x = 10
      · have t1 : ((x.toNat : Int) != 10) = false := by rw [h1]; rfl
        have t2 : ((x.toNat : Int) == 10) = true := by rw [h1]; rfl
        have t3 : (x.toNat == 10) = true := by rw [h1]; rfl
        have HP := Lib.hid (HPD2.out h1)
        generalize (l.drop q).take (k - q) = p at *
        generalize x.toNat = c at *
        clear HPD2 HNO2 h1 HNO
        cases hI : isLineB p with
        | true =>
          have HS2 : Hid (specP (out ++ [p]) (parts 10 (l.drop (k + 1))) = res) := Lib.hid (by rw [← HS.out, specP_on out _ p _ HP.out hI])
          rw [hI] at HC2
          have hol2 : out.length ≤ 1000000 := by omega
          clear HS HP hI
          go_wp2_with fail
          refine (HC2.out _).mono ?_
          rintro e w' ⟨rfl, rfl⟩
          go_wp2_with (at_builtin; refine appS _ rfl _ _ rfl w _ out rfl (((Ext.refl wr).alloc _).row HR.out) (hX.alloc _) wr.heap.size p rfl (by simp [go_sem]) hol2 ?_)
          intro v4 w4 R4 X4
          have HR4 := Lib.hid R4
          clear R4 HR
          go_wp2
          exact ⟨⟨k + 1, k + 1, out ++ [p], by omega, by omega, by simp; omega, by go_num, by go_num, HS2, Lib.hid (fun j h1 h2 => by omega), HR4.out, X4⟩, by simp [intOf]; omega⟩
        | false =>
          have HG : Hid (LinesDoes w res (.returned (.tuple #[.slice none 0 0, .int .i64 ((out.length : Int) + 1), .int .i64 20])) wr) := Lib.hid (by rw [← HS.out, specP_bad out _ p _ HP.out hI]; exact lines_bad out.length hX)
          rw [hI] at HC2
          obtain ⟨ar, cr, hv, _⟩ := HR.out.texts
          subst hv
          clear HS HP hI HR
          go_wp2_with fail
          refine (HC2.out _).mono ?_
          rintro e w' ⟨rfl, rfl⟩
          go_wp2
          go_ret3
          exact HG.out
      · have hx10 : x.toNat ≠ 10 := fun h => h1 (UInt8.toNat_inj.1 (by rw [h]; rfl))
        have t1 : ((x.toNat : Int) != 10) = true := by simp; omega
        have t2 : ((x.toNat : Int) == 10) = false := by simp; omega
        have t3 : (x.toNat == 10) = false := by simpa using hx10
        have HN3 := Lib.hid (HNO2.out h1)
        generalize x.toNat = c at *
        clear HPD2 HNO2 h1 hx10 HNO HC2 hx1
        go_wp2
        exact ⟨⟨k + 1, q, out, by omega, by omega, by omega, by go_num, rfl, HS, HN3, HR.out, hX⟩, by simp [intOf]; omega⟩
    · obtain rfl : k = n := by omega
      have HNM := Lib.hid (HND.out q HNO.out)
      by_cases h0 : q < k
      · have HG : Hid (LinesDoes w res (.returned (.tuple #[.slice none 0 0, .int .i64 ((out.length : Int) + 1), .int .i64 20])) wr) := Lib.hid (by rw [← HS.out, specP_short out _ HNM.out (HDN.out q h0)]; exact lines_bad out.length hX)
        obtain ⟨ar, cr, hv, _⟩ := HR.out.texts
        subst hv
        have hqk : (q : Int) < (k : Int) := by omega
        clear HS HNM HR HNO
        go_wp2
        go_ret3
        exact HG.out
      · have e : q = k := by omega
        have HG : Hid (LinesDoes w res (.returned (.tuple #[_, .int .i64 0, .int .i64 0])) wr) := Lib.hid (by rw [← HS.out, e, HDE.out, specP_last]; exact lines_good HR.out hX)
        clear HS HNM HR HNO e
        have hqk : ¬ (q : Int) < (k : Int) := by omega
        go_wp2
        go_ret3
        exact HG.out
end Go.Proofs.YtchelhmefghcdaaDoor

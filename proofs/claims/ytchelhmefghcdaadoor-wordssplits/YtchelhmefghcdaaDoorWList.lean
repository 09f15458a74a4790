/- words.List: the numbers that a word is. -/
import Derived.Test.YtchelhmefghcdaaDoorNumW
import Derived.Test.YtchelhmefghcdaaDoorSList
namespace Go.Proofs.YtchelhmefghcdaaDoor
open Go.RowKit
set_option linter.unusedVariables false
set_option maxHeartbeats 2000000
theorem tx_tl (l : List UInt8) : (tx l).toList = l := by rw [ByteArray.toList_eq]; simp [tx]
theorem info_int : (Tryd.prog.info? 3).map (fun i => (i.zero, i.size, i.bytes)) = some (some (.int .i64 0), 1, 8) := by kernel_rfl
def numV (x : List UInt8) : Int := (numOf x).getD 0
def isNum (x : List UInt8) : Bool := (numOf x).isSome
def comma : ByteArray := ⟨#[44]⟩
/-- what becomes of a list's parts -/
def ListDoes (w : World) (ls : List (List UInt8)) (e : Ending) (w' : World) : Prop :=
  Ext w w' ∧ (((∀ x ∈ ls, isNum x = true) ∧ ∃ v, e = .returned (.tuple #[v, .bool true]) ∧ IntsV w' v (ls.map numV)) ∨
    ((¬ ∀ x ∈ ls, isNum x = true) ∧ e = .returned (.tuple #[.slice none 0 0, .bool false])))
def rowN (ls : List (List UInt8)) (k : Nat) : List Value := ((ls.take k).map numV).map (Value.int .i64)
theorem rowN_snoc (ls : List (List UInt8)) (k : Nat) (h : k < ls.length) : rowN ls (k + 1) = rowN ls k ++ [.int .i64 (numV (ls.getD k []))] := by
  unfold rowN
  rw [List.take_succ_eq_append_getElem h, List.map_append, List.map_append]
  simp [h]
set_option maxRecDepth 100000 in
theorem cList_dot (w : World) : Calls Tryd.prog 22 #[.string (tx [46])] w fun e w' => e = .returned (.tuple #[.slice none 0 0, .bool true]) ∧ Ext w w' := by
  have hd : ((tx [46]).toList == [46]) = true := by rw [tx_tl]; decide
  generalize tx [46] = s at *
  go_enter Tryd.func22, Tryd.ntmps22
  go_wp2
  go_ret2
  exact ⟨rfl, Ext.refl _⟩
set_option maxRecDepth 100000 in
theorem cList (l : List UInt8) (ls : List (List UInt8)) (w : World) (hs : l.length ≤ 4000000) (hdot : l ≠ [46]) (hls : Lib.splitB comma 0 (Lib.countB (tx l) comma) (tx l) = ls.map tx) (hlen : ls.length = Lib.countB (tx l) comma + 1)
    (hn : ls.length ≤ 5000000) (hx : ∀ x ∈ ls, x.length ≤ 281474976710656) (E : Env w) :
    Calls Tryd.prog 22 #[.string (tx l)] w (ListDoes w ls) := by
  obtain ⟨i0, hi, hz0, hz1, hz2⟩ := info_parts info_int
  obtain ⟨m, hm⟩ := E.max
  have c := Tryd.strings_Split (tx l) comma m w (by rw [tx_size]; omega) hm (by decide)
  rw [hls, ← hlen] at c
  have C := Lib.hid c
  have hd : ((tx l).toList == [46]) = false := by rw [tx_tl]; simpa using hdot
  obtain ⟨n, hn2⟩ : ∃ n, n = ls.length := ⟨_, rfl⟩
  rw [← hn2] at C
  have HN := Lib.hid hn2
  have HX := Lib.hid hx
  have hn3 : n ≤ 5000000 := by omega
  clear c hls hlen hm hx hn2 hn
  generalize tx l = s at *
  unfold ListDoes
  go_enter Tryd.func22, Tryd.ntmps22
  go_wp2_with fail
  refine C.out.mono ?_
  rintro e w1 ⟨rfl, hw1⟩
  have X1 : Ext w w1 := hw1 ▸ (Ext.refl w).alloc _
  have hcell : ∀ i, i < ls.length → w1.cell? ⟨w.heap.size, i, none⟩ = some (.string (tx (ls.getD i []))) := by
    intro i hi
    rw [hw1, World.cell?_alloc_new]
    simp [hi]
  have HC := Lib.hid hcell
  clear hcell hw1 C hd
  go_wp2
  go_loopw [4, 14] (fun v i wr => ∃ k : Nat, k ≤ n ∧ i = .int .i64 k ∧ (∀ x ∈ ls.take k, isNum x = true) ∧ wr.ownsRow w1.heap.size 3 1 v k (rowN ls k) ∧ Ext w1 wr) (fun _ i _ => n - (intOf i).toNat)
  case atStart => exact ⟨0, Nat.zero_le _, rfl, by simp, World.ownsRow_nil _ _ _ _, Ext.refl _⟩
  case round =>
    obtain ⟨k, hk, rfl, ha, ho, hx⟩ := hrel
    have HO := Lib.hid ho
    have HA := Lib.hid ha
    clear ho ha
    by_cases hlt : k < n
    · have hkx : k < ls.length := by have := HN.out; omega
      have d1 := hx.cell (HC.out k hkx)
      have S1 := Lib.hid (rowN_snoc ls k hkx)
      have hmem : ls.getD k [] ∈ ls := by simp [hkx]
      have hq := HX.out _ hmem
      have A2 : Hid (isNum (ls.getD k []) = true → ∀ x ∈ ls.take (k + 1), isNum x = true) := Lib.hid (fun h x hx => by
        rw [List.take_succ_eq_append_getElem hkx] at hx
        rcases List.mem_append.1 hx with h' | h'
        · exact HA.out x h'
        · simp at h'; subst h'; simpa [hkx] using h)
      have HM := Lib.hid hmem
      clear hmem
      generalize ls.getD k [] = q at *
      have hkn : (k : Int) < (n : Int) := by omega
      have CN : Hid (∀ w, Env w → Calls Tryd.prog 20 #[.string (tx q)] w fun e w' => e = .returned (.tuple #[.int .i64 (numV q), .bool (isNum q)]) ∧ Ext w w') := Lib.hid (fun w E => cNum q w hq E)
      cases hb : isNum q
      · rw [hb] at CN A2
        go_wp2_with fail
        refine (CN.out _ (E.later (X1.trans hx))).mono ?_
        rintro e w2 ⟨rfl, hx2⟩
        have X2 := (X1.trans hx).trans hx2
        clear hx2 d1
        go_wp2
        go_ret2
        exact ⟨X2, .inr ⟨(fun h => by have := h q HM.out; rw [hb] at this; exact Bool.false_ne_true this), rfl⟩⟩
      · rw [hb] at CN A2
        go_wp2_with fail
        refine (CN.out _ (E.later (X1.trans hx))).mono ?_
        rintro e w2 ⟨rfl, hx2⟩
        have X2 := hx.trans hx2
        have HO1 := Lib.hid (hx2.row HO.out)
        clear hx2 d1 HO
        generalize numV q = z at *
        have C7 : ∀ j u, ([.int .i64 z] : List Value)[j]? = some u → (w2.alloc (.cells #[.int .i64 z] 3)).cell? ((⟨w2.heap.size, 0, none⟩ : Addr).add j) = some u := World.news_of_block (World.alloc_heap_new w2 _)
        have HC7 := Lib.hid C7
        clear C7
        have hs1 := X2.size
        go_wp2_with (at_builtin; refine wpList_append_own _ rfl _ _ 33 rfl w1.heap.size 3 i0 (.int .i64 0) 1 8 Tryd.underlying33 hi hz0 hz1 hz2 rfl (by decide) _ _ _ rfl (HO1.out.alloc _) ⟨w2.heap.size, 0, none⟩ 1 1 [.int .i64 z] rfl rfl HC7.out ?c2 ?c3 ?c4 ?c5 ?_)
        case c2 => intro u hu; simp at hu; subst hu; rfl
        case c3 => unfold maxLen; omega
        case c4 => omega
        case c5 => simp; omega
        intro v1 w8 hv1 hg8 _
        rw [← S1.out] at hv1
        have HV := Lib.hid hv1
        have X8 : Ext w1 w8 := by
          exact (X2.alloc _).grown hg8 (fun j h => (HO1.out.lt j h).1)
        clear hg8 HC7 hv1 HO1 hs1
        go_wp2
        exact ⟨⟨k + 1, by omega, by go_num, A2.out trivial, HV.out, X8⟩, by simp [intOf]; omega⟩
    · obtain rfl : k = n := by omega
      have ho := HO.out
      have e1 : ls.take k = ls := List.take_of_length_le (by rw [HN.out]; exact Nat.le_refl _)
      have ha := HA.out
      rw [e1] at ha
      unfold rowN at ho
      rw [e1] at ho
      have HI := Lib.hid (intsV_row ho)
      have HA3 := Lib.hid ha
      clear ho ha HO HA e1
      have X2 := X1.trans hx
      go_wp2
      go_ret2
      exact ⟨X2, .inl ⟨HA3.out, _, rfl, HI.out⟩⟩
end Go.Proofs.YtchelhmefghcdaaDoor

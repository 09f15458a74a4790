/- The document's answers of layer 3: List and Place. -/
import Derived.Test.YtclhbdedibcgjaaRef01
import Derived.Test.YtclhbdedibcgjaaExt
import Derived.Test.YtclhbdedibcgjaaMem
import Derived.OwnWalk
namespace Go.Proofs.Ytclhbdedibcgjaa
open Go.RowKit
set_option linter.unusedVariables false
set_option maxHeartbeats 1000000
theorem info_u64 : (Try.prog.info? 22).map (fun i => (i.zero, i.size, i.bytes)) = some (some (.int .u64 0), 1, 8) := by kernel_rfl
theorem Ext.row {a b : World} (h : Ext a b) {base e sz : Nat} {v : Value} {n : Nat} {xs : List Value} (hr : a.ownsRow base e sz v n xs) : b.ownsRow base e sz v n xs := by
  refine ⟨hr.1, ?_⟩
  rcases hr.2 with hn | ⟨g, cap, cur, rfl, hb, hg, rest⟩
  · exact .inl hn
  · exact .inr ⟨g, cap, cur, rfl, hb, (h.block g (Array.getElem?_eq_some_iff.1 hg).1).trans hg, rest⟩
theorem ints_ext {k : IntKind} {w w' : World} {v : Value} {xs : List Int} (h : IntsAt k w v xs) (hb : Ext w w') : IntsAt k w' v xs := by
  rcases h with h | ⟨b, off, cap, hv, hc⟩
  · exact .inl h
  · exact .inr ⟨b, off, cap, hv, fun j hj => hb.cell (hc j hj)⟩
theorem ints_map_snoc (f : Nat → Int) (k : Nat) : ((List.range (k + 1)).map f).map (Value.int .u64) = ((List.range k).map f).map (Value.int .u64) ++ [.int .u64 (f k)] := by simp [List.range_succ]
/-- which one of n positions one is, so far behind the first one; -1: none -/
def placeOf (d : Int) (n : Nat) : Int := if d < n then d else -1
/-- the n positions from f on -/
def pos32 (f : Int) (n : Nat) : List Int := (List.range n).map fun (j : Nat) => ((f + (j : Int)) % 4294967296)
theorem pos32_len (f : Int) (n : Nat) : (pos32 f n).length = n := by simp [pos32]
theorem pos32_get (f : Int) (n j : Nat) (h : j < n) : (pos32 f n).getD j 0 = ((f + (j : Int)) % 4294967296) := by simp [pos32, h]
def ListDoes32 (w : World) (f : Int) (n : Nat) (e : Ending) (w' : World) : Prop := ∃ v, e = .returned v ∧ IntsAt .u64 w' v (pos32 f n) ∧ Ext w w'
set_option maxRecDepth 100000 in
theorem rList32 (f : Int) (n : Nat) (w : World) (hn : n ≤ 1000) : Calls Try.prog 38 #[.agg #[.int .i64 32, .int .u64 f, .int .i64 n]] w (ListDoes32 w f n) := by
  obtain ⟨i0, hi, hz0, hz1, hz2⟩ := info_parts info_u64
  go_enter Try.func38, Try.ntmps38
  go_wp2
  refine settle_wp ?_
  intro w1 hb1
  have q0 : w1.cell? ⟨w.heap.size, 0, none⟩ = some (.int .i64 32) := (hb1.cells.1 _ _ (by simp)).trans (by simp [go_sem])
  have q1 : w1.cell? ⟨w.heap.size, 1, none⟩ = some (.int .u64 f) := (hb1.cells.1 _ _ (by simp)).trans (by simp [go_sem])
  have q2 : w1.cell? ⟨w.heap.size, 2, none⟩ = some (.int .i64 n) := (hb1.cells.1 _ _ (by simp)).trans (by simp [go_sem])
  have E1 : Ext w w1 := by repeat (first | with_reducible exact Ext.refl _ | with_reducible assumption | with_reducible refine Ext.alloc ?_ _ | with_reducible refine Ext.drew ?_ | with_reducible refine Ext.drewN ?_ _ | with_reducible refine Ext.setCell ?_ (by simp <;> omega) _ | with_reducible refine Ext.trans ?_ (by assumption))
  clear hb1
  go_loopw [3, 4] (fun v i wr => ∃ k : Nat, k ≤ n ∧ i = .int .i64 k ∧ wr.ownsRow w1.heap.size 22 1 v k ((pos32 f k).map (Value.int .u64)) ∧ Ext w1 wr) (fun _ i _ => n - (intOf i).toNat)
  case atStart => exact ⟨0, Nat.zero_le _, rfl, World.ownsRow_nil _ _ _ _, Ext.refl _⟩
  case round =>
    obtain ⟨k, hk, rfl, ho, hx⟩ := hrel
    have p0 := hx.cell q0
    have p1 := hx.cell q1
    have p2 := hx.cell q2
    by_cases hlt : k < n
    · have hkn : (k : Int) < (n : Int) := by omega
      have S := Lib.hid (show (pos32 f (k + 1)).map (Value.int .u64) = (pos32 f k).map (Value.int .u64) ++ [.int .u64 ((f + (k : Int)) % 4294967296)] from ints_map_snoc _ k)
      have HO := Lib.hid ho
      clear ho
      go_wp2_with fail
      refine (rPlus_32 _ _ _).mono ?_
      rintro e w' ⟨rfl, rfl⟩
      go_wp2_with (at_builtin; refine wpList_append_own _ rfl _ _ 70 rfl w1.heap.size 22 i0 (.int .u64 0) 1 8 Try.underlying70 hi hz0 hz1 hz2 rfl (by decide) _ _ _ rfl (HO.out.alloc _) ⟨wr.heap.size, 0, none⟩ 1 1 [.int .u64 ((f + (k : Int)) % 4294967296)] rfl rfl ?c1 ?c2 ?c3 ?c4 ?c5 ?_)
      case c1 =>
        intro j u hj
        match j, hj with
        | 0, hj => simp at hj; subst hj; simp [Addr.add]
      case c2 => intro u hu; simp at hu; subst hu; rfl
      case c3 => unfold maxLen; omega
      case c4 => omega
      case c5 => have := hx.size; simp; omega
      intro v1 w2 hv1 hg1 _
      rw [← S.out] at hv1
      have X2 : Ext w1 w2 := (hx.alloc _).grown hg1 (fun j h => (HO.out.lt j h).1)
      clear hg1 p0 p1 p2
      go_wp2
      exact ⟨⟨k + 1, by omega, by go_num, hv1, X2⟩, by simp [intOf]; omega⟩
    · obtain rfl : k = n := by omega
      have HO := Lib.hid ho
      clear ho
      go_wp2
      go_ret
      exact ⟨_, rfl, ints_of_row HO.out, E1.trans hx⟩
theorem place_hit32 (f p : Int) (n k : Nat) (hp : 0 ≤ p) (hp1 : p < 4294967296) (hk : k < n) (hn : n ≤ 1000) (h : ((f + (k : Int)) % 4294967296) = p) : placeOf ((p - f) % 4294967296) n = k := by
  have e : ((p - f) % 4294967296) = k := by
    try unfold U64 at *
    omega
  unfold placeOf
  rw [e, if_pos (by omega)]
theorem place_miss32 (f p : Int) (n : Nat) (hp : 0 ≤ p) (hp1 : p < 4294967296) (hn : n ≤ 1000) (h : ∀ k, k < n → ((f + (k : Int)) % 4294967296) ≠ p) : placeOf ((p - f) % 4294967296) n = -1 := by
  unfold placeOf
  rw [if_neg]
  intro hd
  have h0 : 0 ≤ ((p - f) % 4294967296) := by
    try unfold U64
    omega
  refine h ((p - f) % 4294967296).toNat (by omega) ?_
  rw [Int.toNat_of_nonneg h0]
  try unfold U64
  omega
theorem rPlace32 (f p : Int) (n : Nat) (w : World) (hn : n ≤ 1000) (hp : 0 ≤ p) (hp1 : p < 4294967296) : Calls Try.prog 16 #[.agg #[.int .i64 32, .int .u64 f, .int .i64 n], .int .u64 p] w fun e w' => e = .returned (.int .i64 (placeOf ((p - f) % 4294967296) n)) ∧ Ext w w' := by
  have HH := Lib.hid (fun k => place_hit32 f p n k hp hp1)
  have HN := Lib.hid (place_miss32 f p n hp hp1 hn)
  go_enter Try.func16, Try.ntmps16
  go_wp2_with fail
  refine (rList32 _ _ _ hn).mono ?_
  rintro e w1 ⟨v, rfl, hI, hb1⟩
  have E1 : Ext w w1 := by repeat (first | with_reducible exact Ext.refl _ | with_reducible assumption | with_reducible refine Ext.alloc ?_ _ | with_reducible refine Ext.drew ?_ | with_reducible refine Ext.drewN ?_ _ | with_reducible refine Ext.setCell ?_ (by simp <;> omega) _ | with_reducible refine Ext.trans ?_ (by assumption))
  clear hb1
  rcases hI with ⟨hv, hnil⟩ | ⟨b, off, cap, hv, hc⟩
  · rw [hv]
    have h0 : n = 0 := by have := pos32_len f n; rw [hnil] at this; simpa using this.symm
    clear hv hnil
    have H0 := Lib.hid (HN.out (fun k hk => by omega))
    clear h0
    go_wp2
    refine wp_loop_rounds 1 ?_
    rw [rounds_succ]
    go_wp2
    go_ret
    exact ⟨ret_int H0.out.symm, E1⟩
  · rw [hv, pos32_len]
    have HC : Hid (∀ j, j < n → w1.cell? ⟨b, off + j, none⟩ = some (.int .u64 ((f + (j : Int)) % 4294967296))) := Lib.hid (fun j hj => by rw [hc j (by rw [pos32_len]; exact hj), pos32_get f n j hj])
    clear hv hc
    go_wp2
    go_loop [6] (fun i => ∃ k : Nat, k ≤ n ∧ i = .int .i64 k ∧ Hid (∀ j, j < k → ((f + (j : Int)) % 4294967296) ≠ p)) (fun i => n - (intOf i).toNat)
    case atStart => exact ⟨0, Nat.zero_le _, rfl, Lib.hid (fun j hj => by omega)⟩
    case round =>
      obtain ⟨k, hk, rfl, hall⟩ := hrel
      by_cases hlt : k < n
      · have hcell := HC.out k hlt
        have hkn : (k : Int) < (n : Int) := by omega
        by_cases he : ((f + (k : Int)) % 4294967296) = p
        · have HE := Lib.hid (HH.out k hlt hn he)
          have d : (((f + (k : Int)) % 4294967296) == p) = true := by simpa using he
          clear he
          go_wp2
          go_ret
          exact ⟨ret_int HE.out.symm, E1⟩
        · have d : (((f + (k : Int)) % 4294967296) == p) = false := by simpa using he
          have HALL : Hid (∀ j, j < k + 1 → ((f + (j : Int)) % 4294967296) ≠ p) := Lib.hid (fun j hj => by
            by_cases h : j < k
            · exact hall.out j h
            · rw [show j = k by omega]; exact he)
          clear he hall
          go_wp2
          exact ⟨⟨k + 1, by omega, by go_num, HALL⟩, by simp [intOf]; omega⟩
      · obtain rfl : k = n := by omega
        have HE := Lib.hid (HN.out hall.out)
        clear hall
        go_wp2
        go_ret
        exact ⟨ret_int HE.out.symm, E1⟩
/-- the n positions from f on -/
def pos64 (f : Int) (n : Nat) : List Int := (List.range n).map fun (j : Nat) => (U64 (f + (j : Int)))
theorem pos64_len (f : Int) (n : Nat) : (pos64 f n).length = n := by simp [pos64]
theorem pos64_get (f : Int) (n j : Nat) (h : j < n) : (pos64 f n).getD j 0 = (U64 (f + (j : Int))) := by simp [pos64, h]
def ListDoes64 (w : World) (f : Int) (n : Nat) (e : Ending) (w' : World) : Prop := ∃ v, e = .returned v ∧ IntsAt .u64 w' v (pos64 f n) ∧ Ext w w'
set_option maxRecDepth 100000 in
theorem rList64 (f : Int) (n : Nat) (w : World) (hn : n ≤ 1000) : Calls Try.prog 38 #[.agg #[.int .i64 64, .int .u64 f, .int .i64 n]] w (ListDoes64 w f n) := by
  obtain ⟨i0, hi, hz0, hz1, hz2⟩ := info_parts info_u64
  go_enter Try.func38, Try.ntmps38
  go_wp2
  refine settle_wp ?_
  intro w1 hb1
  have q0 : w1.cell? ⟨w.heap.size, 0, none⟩ = some (.int .i64 64) := (hb1.cells.1 _ _ (by simp)).trans (by simp [go_sem])
  have q1 : w1.cell? ⟨w.heap.size, 1, none⟩ = some (.int .u64 f) := (hb1.cells.1 _ _ (by simp)).trans (by simp [go_sem])
  have q2 : w1.cell? ⟨w.heap.size, 2, none⟩ = some (.int .i64 n) := (hb1.cells.1 _ _ (by simp)).trans (by simp [go_sem])
  have E1 : Ext w w1 := by repeat (first | with_reducible exact Ext.refl _ | with_reducible assumption | with_reducible refine Ext.alloc ?_ _ | with_reducible refine Ext.drew ?_ | with_reducible refine Ext.drewN ?_ _ | with_reducible refine Ext.setCell ?_ (by simp <;> omega) _ | with_reducible refine Ext.trans ?_ (by assumption))
  clear hb1
  go_loopw [3, 4] (fun v i wr => ∃ k : Nat, k ≤ n ∧ i = .int .i64 k ∧ wr.ownsRow w1.heap.size 22 1 v k ((pos64 f k).map (Value.int .u64)) ∧ Ext w1 wr) (fun _ i _ => n - (intOf i).toNat)
  case atStart => exact ⟨0, Nat.zero_le _, rfl, World.ownsRow_nil _ _ _ _, Ext.refl _⟩
  case round =>
    obtain ⟨k, hk, rfl, ho, hx⟩ := hrel
    have p0 := hx.cell q0
    have p1 := hx.cell q1
    have p2 := hx.cell q2
    by_cases hlt : k < n
    · have hkn : (k : Int) < (n : Int) := by omega
      have S := Lib.hid (show (pos64 f (k + 1)).map (Value.int .u64) = (pos64 f k).map (Value.int .u64) ++ [.int .u64 (U64 (f + (k : Int)))] from ints_map_snoc _ k)
      have HO := Lib.hid ho
      clear ho
      go_wp2_with fail
      refine (rPlus_64 _ _ _).mono ?_
      rintro e w' ⟨rfl, rfl⟩
      go_wp2_with (at_builtin; refine wpList_append_own _ rfl _ _ 70 rfl w1.heap.size 22 i0 (.int .u64 0) 1 8 Try.underlying70 hi hz0 hz1 hz2 rfl (by decide) _ _ _ rfl (HO.out.alloc _) ⟨wr.heap.size, 0, none⟩ 1 1 [.int .u64 (U64 (f + (k : Int)))] rfl rfl ?c1 ?c2 ?c3 ?c4 ?c5 ?_)
      case c1 =>
        intro j u hj
        match j, hj with
        | 0, hj => simp at hj; subst hj; simp [Addr.add]
      case c2 => intro u hu; simp at hu; subst hu; rfl
      case c3 => unfold maxLen; omega
      case c4 => omega
      case c5 => have := hx.size; simp; omega
      intro v1 w2 hv1 hg1 _
      rw [← S.out] at hv1
      have X2 : Ext w1 w2 := (hx.alloc _).grown hg1 (fun j h => (HO.out.lt j h).1)
      clear hg1 p0 p1 p2
      go_wp2
      exact ⟨⟨k + 1, by omega, by go_num, hv1, X2⟩, by simp [intOf]; omega⟩
    · obtain rfl : k = n := by omega
      have HO := Lib.hid ho
      clear ho
      go_wp2
      go_ret
      exact ⟨_, rfl, ints_of_row HO.out, E1.trans hx⟩
theorem place_hit64 (f p : Int) (n k : Nat) (hp : 0 ≤ p) (hp1 : p < 18446744073709551616) (hk : k < n) (hn : n ≤ 1000) (h : (U64 (f + (k : Int))) = p) : placeOf (U64 (p - f)) n = k := by
  have e : (U64 (p - f)) = k := by
    try unfold U64 at *
    omega
  unfold placeOf
  rw [e, if_pos (by omega)]
theorem place_miss64 (f p : Int) (n : Nat) (hp : 0 ≤ p) (hp1 : p < 18446744073709551616) (hn : n ≤ 1000) (h : ∀ k, k < n → (U64 (f + (k : Int))) ≠ p) : placeOf (U64 (p - f)) n = -1 := by
  unfold placeOf
  rw [if_neg]
  intro hd
  have h0 : 0 ≤ (U64 (p - f)) := by
    try unfold U64
    omega
  refine h (U64 (p - f)).toNat (by omega) ?_
  rw [Int.toNat_of_nonneg h0]
  try unfold U64
  omega
theorem rPlace64 (f p : Int) (n : Nat) (w : World) (hn : n ≤ 1000) (hp : 0 ≤ p) (hp1 : p < 18446744073709551616) : Calls Try.prog 16 #[.agg #[.int .i64 64, .int .u64 f, .int .i64 n], .int .u64 p] w fun e w' => e = .returned (.int .i64 (placeOf (U64 (p - f)) n)) ∧ Ext w w' := by
  have HH := Lib.hid (fun k => place_hit64 f p n k hp hp1)
  have HN := Lib.hid (place_miss64 f p n hp hp1 hn)
  go_enter Try.func16, Try.ntmps16
  go_wp2_with fail
  refine (rList64 _ _ _ hn).mono ?_
  rintro e w1 ⟨v, rfl, hI, hb1⟩
  have E1 : Ext w w1 := by repeat (first | with_reducible exact Ext.refl _ | with_reducible assumption | with_reducible refine Ext.alloc ?_ _ | with_reducible refine Ext.drew ?_ | with_reducible refine Ext.drewN ?_ _ | with_reducible refine Ext.setCell ?_ (by simp <;> omega) _ | with_reducible refine Ext.trans ?_ (by assumption))
  clear hb1
  rcases hI with ⟨hv, hnil⟩ | ⟨b, off, cap, hv, hc⟩
  · rw [hv]
    have h0 : n = 0 := by have := pos64_len f n; rw [hnil] at this; simpa using this.symm
    clear hv hnil
    have H0 := Lib.hid (HN.out (fun k hk => by omega))
    clear h0
    go_wp2
    refine wp_loop_rounds 1 ?_
    rw [rounds_succ]
    go_wp2
    go_ret
    exact ⟨ret_int H0.out.symm, E1⟩
  · rw [hv, pos64_len]
    have HC : Hid (∀ j, j < n → w1.cell? ⟨b, off + j, none⟩ = some (.int .u64 (U64 (f + (j : Int))))) := Lib.hid (fun j hj => by rw [hc j (by rw [pos64_len]; exact hj), pos64_get f n j hj])
    clear hv hc
    go_wp2
    go_loop [6] (fun i => ∃ k : Nat, k ≤ n ∧ i = .int .i64 k ∧ Hid (∀ j, j < k → (U64 (f + (j : Int))) ≠ p)) (fun i => n - (intOf i).toNat)
    case atStart => exact ⟨0, Nat.zero_le _, rfl, Lib.hid (fun j hj => by omega)⟩
    case round =>
      obtain ⟨k, hk, rfl, hall⟩ := hrel
      by_cases hlt : k < n
      · have hcell := HC.out k hlt
        have hkn : (k : Int) < (n : Int) := by omega
        by_cases he : (U64 (f + (k : Int))) = p
        · have HE := Lib.hid (HH.out k hlt hn he)
          have d : ((U64 (f + (k : Int))) == p) = true := by simpa using he
          clear he
          go_wp2
          go_ret
          exact ⟨ret_int HE.out.symm, E1⟩
        · have d : ((U64 (f + (k : Int))) == p) = false := by simpa using he
          have HALL : Hid (∀ j, j < k + 1 → (U64 (f + (j : Int))) ≠ p) := Lib.hid (fun j hj => by
            by_cases h : j < k
            · exact hall.out j h
            · rw [show j = k by omega]; exact he)
          clear he hall
          go_wp2
          exact ⟨⟨k + 1, by omega, by go_num, HALL⟩, by simp [intOf]; omega⟩
      · obtain rfl : k = n := by omega
        have HE := Lib.hid (HN.out hall.out)
        clear hall
        go_wp2
        go_ret
        exact ⟨ret_int HE.out.symm, E1⟩
end Go.Proofs.Ytclhbdedibcgjaa

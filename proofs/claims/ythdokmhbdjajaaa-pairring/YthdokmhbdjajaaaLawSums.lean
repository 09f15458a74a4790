/- The walk of PairSums. -/
import Derived.Test.YthdokmhbdjajaaaRSum
namespace Go.Proofs.Ythdokmhbdjajaaa
open Go.RowKit
set_option linter.unusedVariables false
set_option maxHeartbeats 2000000
theorem rowC_get (zs : List (Int × Int)) (n k : Nat) (hn : n ≤ zs.length) (h : k < n) : (rowC zs n)[k]? = some (cV (cl (zs.getD k (0, 0)))) := by
  have hlen : ∀ n, n ≤ zs.length → (rowC zs n).length = n := by
    intro n
    induction n with
    | zero => intro _; simp [rowC]
    | succ n ih =>
      intro hn
      rw [rowC_snoc zs n hn, List.length_append, ih (by omega)]
      simp
  induction n with
  | zero => omega
  | succ n ih =>
    rw [rowC_snoc zs n hn]
    have hl := hlen n (by omega)
    by_cases hk : k < n
    · rw [List.getElem?_append_left (by omega)]
      exact ih (by omega) hk
    · have e : k = n := by omega
      subst e
      rw [List.getElem?_append_right (by omega), hl]
      simp
theorem pairs_of_row {w : World} {base e : Nat} {v : Value} {zs : List (Int × Int)} (h : w.ownsRow base e 1 v zs.length (rowC zs zs.length)) : PairsAt w v (zs.map cl) := by
  rcases h.2 with ⟨h1, h2⟩ | ⟨g, cap, cur, h1, hb, hg, hc, hm, hs, ht⟩
  · exact .inl ⟨h1, by simpa using h2⟩
  · refine .inr ⟨g, 0, cap, by simpa using h1, fun k hk => ?_⟩
    subst h1
    have hk' : k < zs.length := by simpa using hk
    have e : (zs.map cl).getD k (0, 0) = cl (zs.getD k (0, 0)) := by simp [hk']
    have hi := cl_in (zs.getD k (0, 0))
    rw [e, Nat.zero_add]
    exact ⟨_, _, (h.cellAt k (by omega)).trans (rowC_get zs zs.length k (Nat.le_refl _) hk'), cnt_F ((inB_iff _).1 hi.1).1 ((inB_iff _).1 hi.1).2, cnt_F ((inB_iff _).1 hi.2).1 ((inB_iff _).1 hi.2).2⟩
theorem pairs_ext {w w' : World} {v : Value} {xs : List (Int × Int)} (h : PairsAt w v xs) (hx : Ext w w') : PairsAt w' v xs := by
  rcases h with h | ⟨b, off, cap, hv, hc⟩
  · exact .inl h
  · refine .inr ⟨b, off, cap, hv, fun j hj => ?_⟩
    obtain ⟨x, y, h1, h2, h3⟩ := hc j hj
    exact ⟨x, y, hx.cell h1, h2, h3⟩
theorem pairSums_walk (a : Option Addr) (len cap : Nat) (zs : List (Int × Int)) (w : World) (h : IsTwos .i64 w a len cap zs) :
    Calls Try.prog 4 #[.slice a len cap] w fun e w' => e = .returned (.bool true) ∧ Below w.heap.size w w' := by
  have hz := h.1
  by_cases hl : 100 < len
  · have d : decide (100 < (len : Int)) = true := by simp; omega
    go_enter Try.func4, Try.ntmps4
    go_wp2_with fail
    with_reducible refine (live04 _).mono ?_
    rintro e w1 ⟨rfl, hb1⟩
    obtain ⟨hc1, hf1⟩ := hb1.cells
    go_wp2
    go_ret
    refine ⟨rfl, Ext.below ?_⟩
    repeat (first | with_reducible exact Ext.refl _ | with_reducible assumption | with_reducible refine Ext.alloc ?_ _ | with_reducible refine Ext.drew ?_ | with_reducible refine Ext.drewN ?_ _ | with_reducible refine Ext.setCell ?_ (by simp <;> omega) _ | with_reducible refine Ext.trans ?_ (by assumption))
  · have d : decide (100 < (len : Int)) = false := by simp; omega
    have HH := Lib.hid h
    have HL := Lib.hid hz
    clear h hz
    have hl2 : len ≤ 1000 := by omega
    go_enter Try.func4, Try.ntmps4
    go_wp2_with fail
    refine (made4 _ _ _ _ _ HH.out hl2).mono ?_
    rintro e w1 ⟨v, u, rfl, h1, h2, X1⟩
    have p1 := Lib.hid (pairs_of_row h1)
    have p2 := Lib.hid (ps_of_row h2)
    have hlen : (zs.map cl).length ≤ 1000 := by rw [List.length_map, HL.out]; exact hl2
    have hin := allIn_cl zs
    generalize zs.map cl = xs at *
    have HLEN := Lib.hid hlen
    have HIN := Lib.hid hin
    have HX1 := Lib.hid X1
    clear h1 h2 X1 hlen hin
    by_cases hw : Way xs
    · have HW := Lib.hid hw
      clear hw
      go_wp2_with fail
      refine (sum_yes _ _ _ p1.out (by have := HLEN.out; omega) HW.out).mono ?_
      rintro e w' ⟨rfl, rfl⟩
      go_wp2_with fail
      refine (rSum4 _ _ _ p2.out HLEN.out HIN.out).mono ?_
      rintro e w2 ⟨h3 | h3, X2⟩
      · obtain ⟨_, rfl⟩ := h3
        have b1 := (HW.out xs.length (Nat.le_refl _)).1
        have b2 := (HW.out xs.length (Nat.le_refl _)).2
        rw [List.take_length] at b1 b2
        have HX2 := Lib.hid (HX1.out.trans X2)
        clear X2
        go_wp2_with fail
        refine (is_yes _ _ _ _ b1 b2).mono ?_
        rintro e w3 ⟨rfl, X3⟩
        go_wp2_with fail
        refine (live04 _).mono ?_
        rintro e w4 ⟨rfl, X4⟩
        go_wp2
        go_ret
        exact ⟨rfl, Ext.below ((HX2.out.trans X3).trans X4)⟩
      · exact absurd HW.out h3.1
    · have HW := Lib.hid hw
      clear hw
      go_wp2_with fail
      refine (sum_no _ _ _ p1.out (by have := HLEN.out; omega) HW.out).mono ?_
      rintro e w' ⟨rfl, rfl⟩
      go_wp2_with fail
      refine (rSum4 _ _ _ p2.out HLEN.out HIN.out).mono ?_
      rintro e w2 ⟨h3 | h3, X2⟩
      · exact absurd h3.1 HW.out
      · obtain ⟨_, rfl⟩ := h3
        have HX2 := Lib.hid (HX1.out.trans X2)
        clear X2
        go_wp2_with fail
        refine (is_yes 0 0 _ _ rfl rfl).mono ?_
        rintro e w3 ⟨rfl, X3⟩
        go_wp2_with fail
        refine (live04 _).mono ?_
        rintro e w4 ⟨rfl, X4⟩
        go_wp2
        go_ret
        exact ⟨rfl, Ext.below ((HX2.out.trans X3).trans X4)⟩
end Go.Proofs.Ythdokmhbdjajaaa

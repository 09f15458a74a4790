/- knows; the closure that is searched by; sort.Search. -/
import Derived.Test.YtoaifbengichbaaOr3
namespace Go.Proofs.Ytoaifbengichbaa
open Go.RowKit
set_option linter.unusedVariables false
set_option linter.unusedSimpArgs false
set_option maxHeartbeats 4000000
attribute [local go_sem] later_cell later_frozen later_const
theorem CkV.form {w : World} {v : Value} {cs : List (List Int)} (h : CkV w v cs) : ∃ a cap, v = .slice a cs.length cap := by
  obtain ⟨a, cap, e, _⟩ := h
  exact ⟨a, cap, e⟩
set_option maxRecDepth 100000 in
theorem oKnows (n : Nat) (v u : Value) (ls : List Acc) (L i j : Nat) (w : World) (h : AccV w v ls) (hc : CkV w u (ck n ls L)) (R : RL n ls) (hL : L ≤ ls.length) (hi : i < L) (hj : j < L) : Calls Try.prog 40 #[v, u, .int .i64 i, .int .i64 j] w fun e w' => e = .returned (.bool (kn n ls i j)) ∧ Ext w w' := by
  obtain ⟨a, cap, rfl, hcap, hmax⟩ := h.form
  obtain ⟨a2, cap2, rfl⟩ := hc.form
  have hjl : j < ls.length := by omega
  have hil : i < ls.length := by omega
  have hlen := R.l
  have n2 := R.n2
  rw [ck_len] at hc ⊢
  obtain ⟨b, off, ea, c0, c1, c2, c3, c4⟩ := h.at (Ext.refl w) hjl
  subst ea
  rw [A_at hjl] at c0 c1 c2 c3 c4
  obtain ⟨t0, t1⟩ := R.t hjl
  obtain ⟨tn, htn⟩ : ∃ tn : Nat, (A ls j).t = tn := ⟨(A ls j).t.toNat, by omega⟩
  have oki := cl_ok R i hil
  have okj := cl_ok R j hjl
  obtain ⟨b2, o2, ui, ea, qi, Ii⟩ := hc.at (Ext.refl w) (i := i) (by rw [ck_len]; exact hi)
  subst ea
  obtain ⟨b3, o3, uj, ea, qj, Ij⟩ := hc.at (Ext.refl w) (i := j) (by rw [ck_len]; exact hj)
  cases ea
  rw [ck_get n ls i L hi] at Ii
  rw [ck_get n ls j L hj] at Ij
  obtain ⟨bj, oj, cj, euj, hcj⟩ := Ij.full (by rw [okj.len]; omega)
  subst euj
  have htnn : tn < n := by omega
  have qt := hcj tn (by rw [okj.len]; exact htnn)
  rw [okj.len] at qj
  have CK := fun W (hx : Ext w W) => tKnows ui (cl n ls i) (A ls j).t ((cl n ls j).getD (A ls j).t.toNat 0) W (Ii.ext hx) (by rw [oki.len]; omega)
  rw [kn_eq R hjl hil, htn, Int.toNat_natCast] at CK
  rw [htn] at c0
  have HCK := Lib.hid CK
  have htn' : (tn : Int) < (n : Int) := by omega
  have hi' : (i : Int) < (L : Int) := by omega
  have hj' : (j : Int) < (L : Int) := by omega
  have hjl' : (j : Int) < (ls.length : Int) := by omega
  generalize (cl n ls j).getD tn 0 = z at *
  generalize kn n ls i j = K at *
  generalize hll : ls.length = M at *
  clear CK h hc R oki okj Ii Ij hcj htn t0 t1 hll
  go_enter Try.func40, Try.ntmps40
  go_upto_region 2 with (fail)
  refine settle_wp ?_
  intro w1 hb1
  replace qi := hb1.cell qi
  replace qj := hb1.cell qj
  replace qt := hb1.cell qt
  refine wp_region_later (by kernel_rfl) (by kernel_rfl) ?_
  have l_i := fun (g : Later w1) => g.ok.cell qi
  have l_j := fun (g : Later w1) => g.ok.cell qj
  have l_t := fun (g : Later w1) => g.ok.cell qt
  repeat (go_big_quiet_step ((fail)))
  go_big_quiet_step ((go_at_call 28; exact laterS (HCK.out _ (hb1.trans (Later.ok _)))))
  repeat (go_big_quiet_step ((fail)))
  refine wpQuiet_nil ?_
  intro w2 hl2
  have X2 := hb1.trans (laters_ext hl2)
  clear hl2 l_i l_j l_t
  go_wp2
  first
    | (go_ret; exact ⟨rfl, X2⟩)
    | exact ⟨rfl, X2⟩
/-- the first place below n that is p; n: none -/
def firstP (p : Nat → Bool) : Nat → Nat
  | 0 => 0
  | n + 1 => if firstP p n < n then firstP p n else if p n then n else n + 1
theorem firstP_le (p : Nat → Bool) : ∀ n, firstP p n ≤ n
  | 0 => Nat.le_refl _
  | n + 1 => by
    have := firstP_le p n
    unfold firstP
    split
    · omega
    · split <;> omega
theorem firstP_spec (p : Nat → Bool) : ∀ n, (∀ k, k < firstP p n → p k = false) ∧ (firstP p n < n → p (firstP p n) = true)
  | 0 => ⟨fun k hk => absurd hk (Nat.not_lt_zero _), fun h => absurd h (Nat.not_lt_zero _)⟩
  | n + 1 => by
    obtain ⟨h1, h2⟩ := firstP_spec p n
    have h3 := firstP_le p n
    unfold firstP
    by_cases h : firstP p n < n
    · rw [if_pos h]
      exact ⟨h1, fun _ => h2 h⟩
    · rw [if_neg h]
      have e : firstP p n = n := by omega
      rw [e] at h1
      by_cases hp : p n = true
      · rw [if_pos hp]
        exact ⟨h1, fun _ => hp⟩
      · rw [if_neg hp]
        refine ⟨fun k hk => ?_, fun h => absurd h (Nat.lt_irrefl _)⟩
        by_cases hk' : k = n
        · subst hk'; simpa using hp
        · exact h1 k (by omega)
theorem firstP_unique {p : Nat → Bool} {n r : Nat} (hr : r ≤ n) (h1 : ∀ k, k < r → p k = false) (h2 : r < n → p r = true) : firstP p n = r := by
  obtain ⟨g1, g2⟩ := firstP_spec p n
  have g3 := firstP_le p n
  by_cases h : firstP p n < r
  · have := h1 _ h
    rw [g2 (by omega)] at this
    cases this
  · by_cases h' : r < firstP p n
    · have := g1 _ h'
      rw [h2 (by omega)] at this
      cases this
    · omega
set_option maxRecDepth 100000 in
theorem search (N : Nat) (p : Nat → Bool) (caps : Array Value) (w : World) (hN : N ≤ 1000) (hF : ∀ k, k < N → ∀ w', Ext w w' → Calls Try.prog 54 (#[.int .i64 k] ++ caps) w' fun e w'' => e = .returned (.bool (p k)) ∧ Ext w' w'') (mono : ∀ i j, i < j → j < N → p i = true → p j = true) :
    Calls Try.prog 53 #[.int .i64 N, .func (.func 54) #[] caps] w fun e w' => e = .returned (.int .i64 (firstP p N)) ∧ Ext w w' := by
  have HF := Lib.hid hF
  have HM := Lib.hid mono
  have HU : Hid (∀ r, r ≤ N → (∀ k, k < r → p k = false) → (r < N → p r = true) → firstP p N = r) := Lib.hid (fun r a b c => firstP_unique a b c)
  clear hF mono
  generalize firstP p N = Z at *
  go_enter Try.func53, Try.ntmps53
  go_wp2
  go_loopw [5, 6] (fun i j wr => ∃ x y : Nat, x ≤ y ∧ y ≤ N ∧ i = .int .i64 x ∧ j = .int .i64 y ∧ (∀ k, k < x → p k = false) ∧ (∀ k, y ≤ k → k < N → p k = true) ∧ Ext w wr) (fun i j _ => (intOf j).toNat - (intOf i).toNat)
  case atStart => exact ⟨0, N, Nat.zero_le _, Nat.le_refl _, rfl, rfl, fun k hk => absurd hk (Nat.not_lt_zero _), fun k h1 h2 => by omega, Ext.refl _⟩
  case round =>
    obtain ⟨x, y, hxy, hy, rfl, rfl, hlo, hhi, hx⟩ := hrel
    by_cases hlt : x < y
    case neg =>
      obtain rfl : x = y := by omega
      have e := HU.out x hy hlo (fun h => hhi x (Nat.le_refl _) h)
      subst e
      clear hlo hhi
      go_wp2
      go_ret
      exact ⟨rfl, hx⟩
    have hltI : (x : Int) < (y : Int) := by omega
    have C := HF.out ((x + y) / 2) (by omega) wr hx
    have HX := Lib.hid hx
    have HLO := Lib.hid hlo
    have HHI := Lib.hid hhi
    have hmid : (((x + y) / 2 : Nat) : Int) = ((x : Int) + (y : Int)) / 2 := by omega
    rw [hmid] at C
    have hm0 : x ≤ (x + y) / 2 := by omega
    have hm1 : (x + y) / 2 < y := by omega
    have HC := Lib.hid C
    clear hlo hhi hx C
    cases hp : p ((x + y) / 2)
    · rw [hp] at HC
      have HL2 : Hid (∀ k, k < (x + y) / 2 + 1 → p k = false) := Lib.hid (fun k hk => by
        cases hpk : p k
        · rfl
        · by_cases e : k = (x + y) / 2
          · subst e; rw [hp] at hpk; cases hpk
          · have := HM.out k ((x + y) / 2) (by omega) (by omega) hpk
            rw [hp] at this
            cases this)
      generalize hmd : (x + y) / 2 = md at *
      go_wp2_with fail
      refine HC.out.mono ?_
      rintro e w2 ⟨rfl, X2⟩
      have HX2 := Lib.hid (HX.out.trans X2)
      clear X2
      go_wp2
      exact ⟨⟨md + 1, y, by omega, hy, congrArg (Value.int .i64) (by omega), rfl, HL2.out, HHI.out, HX2.out⟩, by simp [intOf]; omega⟩
    · rw [hp] at HC
      have HL2 : Hid (∀ k, (x + y) / 2 ≤ k → k < N → p k = true) := Lib.hid (fun k hk hkN => by
        by_cases e : k = (x + y) / 2
        · subst e; exact hp
        · exact HM.out ((x + y) / 2) k (by omega) hkN hp)
      generalize hmd : (x + y) / 2 = md at *
      go_wp2_with fail
      refine HC.out.mono ?_
      rintro e w2 ⟨rfl, X2⟩
      have HX2 := Lib.hid (HX.out.trans X2)
      clear X2
      go_wp2
      exact ⟨⟨x, md, by omega, by omega, rfl, congrArg (Value.int .i64) (by omega), HLO.out, HL2.out, HX2.out⟩, by simp [intOf]; omega⟩
/-- the closure: does the access j not know the k-th of some places? -/
theorem closure (n : Nat) (ls : List Acc) (L j : Nat) (pl : List Int) (k p : Nat) (v u pv : Value) (bl bk bj bp : Nat) (w : World) (h : AccV w v ls) (hc : CkV w u (ck n ls L)) (R : RL n ls) (hL : L ≤ ls.length) (hj : j < L)
    (ql : w.cell? ⟨bl, 0, none⟩ = some v) (qk : w.cell? ⟨bk, 0, none⟩ = some u) (qj : w.cell? ⟨bj, 0, none⟩ = some (.int .i64 j)) (qp : w.cell? ⟨bp, 0, none⟩ = some pv) (hp : IntsV w pv pl) (hk : k < pl.length) (hlen : pl.length ≤ 1000) (ep : pl.getD k 0 = p) (hpL : p < L) :
    Calls Try.prog 54 #[.int .i64 k, .pointer (some ⟨bl, 0, none⟩), .pointer (some ⟨bk, 0, none⟩), .pointer (some ⟨bj, 0, none⟩), .pointer (some ⟨bp, 0, none⟩)] w fun e w' => e = .returned (.bool (!kn n ls j p)) ∧ Ext w w' := by
  have C := Lib.hid (fun W (hx : Ext w W) => oKnows n v u ls L j p W (h.ext hx) (hc.ext hx) R hL hj hpL)
  obtain ⟨b, off, cap, rfl, hcell⟩ := hp.full (by omega)
  have qc := hcell k hk
  rw [ep] at qc
  obtain ⟨a, capl, rfl, _, _⟩ := h.form
  obtain ⟨a2, cap2, rfl⟩ := hc.form
  have hk' : (k : Int) < (pl.length : Int) := by omega
  generalize hKK : kn n ls j p = K at *
  generalize pl.length = M at *
  generalize hLL : ls.length = LL at *
  generalize hCC : (ck n ls L).length = CC at *
  clear h hc R hcell hp
  go_enter Try.func54, Try.ntmps54
  go_upto_region 1 with (fail)
  refine settle_wp ?_
  intro w1 hb1
  replace ql := hb1.cell ql
  replace qk := hb1.cell qk
  replace qj := hb1.cell qj
  replace qp := hb1.cell qp
  replace qc := hb1.cell qc
  refine wp_region_later (by kernel_rfl) (by kernel_rfl) ?_
  have l_l := fun (g : Later w1) => g.ok.cell ql
  have l_k := fun (g : Later w1) => g.ok.cell qk
  have l_j := fun (g : Later w1) => g.ok.cell qj
  have l_p := fun (g : Later w1) => g.ok.cell qp
  have l_c := fun (g : Later w1) => g.ok.cell qc
  repeat (go_big_quiet_step ((fail)))
  go_big_quiet_step ((go_at_call 40; exact laterC (C.out _ (hb1.trans (Later.ok _)))))
  repeat (go_big_quiet_step ((fail)))
  refine wpQuiet_nil ?_
  intro w2 hl2
  have X2 := hb1.trans (laters_ext hl2)
  clear hl2 l_l l_k l_j l_p l_c
  go_wp2
  first
    | (go_ret; exact ⟨rfl, X2⟩)
    | exact ⟨rfl, X2⟩
end Go.Proofs.Ytoaifbengichbaa

/- Layer 7: the walk of OctetWrites. -/
import Derived.Test.YtkikiehgkggfmaaLawOctB
import Derived.Test.YtkikiehgkggfmaaGrow
import Derived.Deep.DeepCutAuto
import Derived.Laws.Closers25b
namespace Go.Proofs.Ytkikiehgkggfmaa
open Go.RowKit
set_option linter.unusedVariables false
set_option maxHeartbeats 4000000
attribute [local go_sem] later_cell later_frozen later_const
/-- a call's fresh bytes, as a text, in any later world -/
theorem cv_later {W w2 : World} {v : Value} {bs : List UInt8} (R : RB w2 W.heap.size v bs) : ∀ w'', Ext w2 w'' → (convert 24 9 v).run Try.prog w'' = .ok (.string (tx bs)) w'' := fun w'' h => conv_bytes (R.bytes.ext h)
set_option maxRecDepth 100000 in
theorem writes_rest (x : Nat) (a : Option Addr) (n cap : Nat) (pu : Option Addr) (cu : Nat) (z : Int) (bs es qs ls : List UInt8) (q : Nat) (k : Int) (w : World) (hn : n ≤ 300) (hbs : bs.length ≤ 1000) (hg : es.length ≤ 10) (hqs : 1 ≤ qs.length) (hqs2 : qs.length ≤ 10) (hls : ls.length ≤ 10000)
    (hz : (n = 0 ∧ z = 0) ∨ (0 < n ∧ ∃ b off, a = some ⟨b, off, none⟩ ∧ w.cell? ⟨b, off, none⟩ = some (.int .i64 z)))
    (hu : ∀ w', Ext w w' → BytesV w' (.slice pu bs.length cu) bs)
    (C1 : ∀ w', Ext w w' → Calls Try.prog 8 #[.slice pu bs.length cu, .int .u64 (x : Nat)] w' (PutsB w' (bs ++ es)))
    (C2 : ∀ w', Ext w w' → Calls Try.prog 9 #[.int .u64 (x : Nat)] w' (PutsB w' es))
    (C3 : ∀ w', Ext w w' → Calls Try.prog 10 #[.int .u64 (x : Nat)] w' fun e w'' => e = .returned (.int .i64 (es.length : Nat)) ∧ w' = w'')
    (C4 : ∀ w', Ext w w' → Calls Try.prog 11 #[.int .i64 z] w' fun e w'' => e = .returned (.int .u64 (q : Nat)) ∧ w' = w'')
    (C5 : ∀ w', Ext w w' → Calls Try.prog 12 #[.int .i64 z] w' fun e w'' => e = .returned (.int .u64 (q : Nat)) ∧ w' = w'')
    (C6 : ∀ w', Ext w w' → Calls Try.prog 13 #[.int .u64 (x : Nat)] w' fun e w'' => e = .returned (.int .i64 k) ∧ w' = w'')
    (C7 : ∀ w', Ext w w' → Calls Try.prog 14 #[.int .u64 (x : Nat)] w' fun e w'' => e = .returned (.int .i64 k) ∧ w' = w'')
    (C8 : ∀ w', Ext w w' → Calls Try.prog 15 #[.slice pu bs.length cu, .int .i64 z] w' (PutsB w' (bs ++ qs)))
    (C9 : ∀ w', Ext w w' → Calls Try.prog 9 #[.int .u64 (q : Nat)] w' (PutsB w' qs))
    (C10 : ∀ w', Ext w w' → Calls Try.prog 16 #[.slice pu bs.length cu, .slice a n cap] w' (PutsB w' (bs ++ ls)))
    (C11 : ∀ w', Ext w w' → Calls Try.prog 17 #[.slice a n cap] w' (PutsB w' ls)) :
    Calls Try.prog 3 #[.int .u64 (x : Nat), .slice a n cap, .slice pu bs.length cu] w fun e w' => e = .returned (.bool true) ∧ Ext w w' := by
  have d1 : decide (300 < (n : Int)) = false := by simp; omega
  have d2 : decide (1000 < (bs.length : Int)) = false := by simp; omega
  have g0 := conv_bytes (hu w (Ext.refl w))
  have K1 := Lib.hid C1; have K2 := Lib.hid C2; have K3 := Lib.hid C3; have K4 := Lib.hid C4; have K5 := Lib.hid C5; have K6 := Lib.hid C6; have K7 := Lib.hid C7; have K8 := Lib.hid C8; have K9 := Lib.hid C9; have K10 := Lib.hid C10; have K11 := Lib.hid C11
  have a1 : tx bs ++ tx es = tx (bs ++ es) := (tx_append _ _).symm
  have a2 : tx bs ++ tx qs = tx (bs ++ qs) := (tx_append _ _).symm
  have a3 : tx bs ++ tx ls = tx (bs ++ ls) := (tx_append _ _).symm
  have b1 : ¬ 9223372036854775807 < (tx bs).size + (tx es).size := by rw [tx_size, tx_size]; omega
  have b2 : ¬ 9223372036854775807 < (tx bs).size + (tx qs).size := by rw [tx_size, tx_size]; omega
  have b3 : ¬ 9223372036854775807 < (tx bs).size + (tx ls).size := by rw [tx_size, tx_size]; omega
  have hq0 : tx (bs ++ qs) ≠ ByteArray.empty := fun e => by
    have := congrArg ByteArray.size e
    rw [tx_size, List.length_append, ByteArray.size_empty] at this
    omega
  have hq1 : ¬ (tx (bs ++ qs)).toList = [] := fun h => hq0 ((toList_nil_iff_emptyBytes _).1 h)
  have hq2 : ((tx (bs ++ qs)).toList == []) = false := by simpa using hq1
  have hq3 : (tx (bs ++ qs)).toList.isEmpty = false := by simpa using hq1
  clear C1 C2 C3 C4 C5 C6 C7 C8 C9 C10 C11 hqs hbs hqs2 hls hg
  go_enter Try.func3, Try.ntmps3
  go_upto_if 22 with fail
  go_cut [8] (fun c wx => c = .int .i64 z ∧ w = wx)
  case first =>
    rcases hz with ⟨z1, z2⟩ | ⟨z1, b, off, z2, z3⟩
    · subst z2
      have d3 : decide (0 < (n : Int)) = false := by simp; omega
      have d4 : decide (0 < n) = false := by simp; omega
      have d5 : ¬ 0 < n := by omega
      clear z1
      go_wp2_with fail
      go_meet
      exact ⟨rfl, rfl⟩
    · subst z2
      have d3 : decide (0 < (n : Int)) = true := by simp; omega
      have d4 : decide (0 < n) = true := by simp; omega
      have d5 : (0 : Int) < (n : Int) := by omega
      go_wp2_with fail
      go_meet
      exact ⟨rfl, rfl⟩
  case rest =>
    obtain ⟨rfl, rfl⟩ := hcut
    go_upto_region 7 with fail
    refine wp_region_held_drew (S := fun w' => Ext w w') (by kernel_rfl) ?hbeg (fun hHeld => ?_)
    case hbeg => exact (Ext.refl w).drew
    have hHeld0 : Ext w w := by first | exact Ext.refl _ | assumption
    first
      | (refine take_at (i := 0) (v := ?_) rfl rfl (by kernel_rfl) (by kernel_rfl) (by kernel_rfl) (fun _ _ _ h => h) (Or.inl ⟨by rfl, ?hy⟩) (by assumption) ?_
         case hy => (intro wz hSw; (try dsimp only at hSw); go_simp <;> with_reducible rfl)
         simp only [List.setIfInBounds_toArray, List.set_cons_zero, List.set_cons_succ])
      | (refine take_at (i := 0) (v := undef) rfl rfl (by kernel_rfl) (by kernel_rfl) (by kernel_rfl) (fun _ _ _ h => h) (Or.inr ⟨by rfl, rfl⟩) (by assumption) ?_
         simp only [List.setIfInBounds_toArray, List.set_cons_zero, List.set_cons_succ])
    first
      | (refine take_at (i := 1) (v := ?_) rfl rfl (by kernel_rfl) (by kernel_rfl) (by kernel_rfl) (fun _ _ _ h => h) (Or.inl ⟨by rfl, ?hy⟩) (by assumption) ?_
         case hy => (intro wz hSw; (try dsimp only at hSw); go_simp <;> with_reducible rfl)
         simp only [List.setIfInBounds_toArray, List.set_cons_zero, List.set_cons_succ])
      | (refine take_at (i := 1) (v := undef) rfl rfl (by kernel_rfl) (by kernel_rfl) (by kernel_rfl) (fun _ _ _ h => h) (Or.inr ⟨by rfl, rfl⟩) (by assumption) ?_
         simp only [List.setIfInBounds_toArray, List.set_cons_zero, List.set_cons_succ])
    first
      | (refine take_at (i := 4) (v := ?_) rfl rfl (by kernel_rfl) (by kernel_rfl) (by kernel_rfl) (fun _ _ _ h => h) (Or.inl ⟨by rfl, ?hy⟩) (by assumption) ?_
         case hy => (intro wz hSw; (try dsimp only at hSw); go_simp <;> with_reducible rfl)
         simp only [List.setIfInBounds_toArray, List.set_cons_zero, List.set_cons_succ])
      | (refine take_at (i := 4) (v := undef) rfl rfl (by kernel_rfl) (by kernel_rfl) (by kernel_rfl) (fun _ _ _ h => h) (Or.inr ⟨by rfl, rfl⟩) (by assumption) ?_
         simp only [List.setIfInBounds_toArray, List.set_cons_zero, List.set_cons_succ])
    first
      | (refine take_at (i := 5) (v := ?_) rfl rfl (by kernel_rfl) (by kernel_rfl) (by kernel_rfl) (fun _ _ _ h => h) (Or.inl ⟨by rfl, ?hy⟩) (by assumption) ?_
         case hy => (intro wz hSw; (try dsimp only at hSw); go_simp <;> with_reducible rfl)
         simp only [List.setIfInBounds_toArray, List.set_cons_zero, List.set_cons_succ])
      | (refine take_at (i := 5) (v := undef) rfl rfl (by kernel_rfl) (by kernel_rfl) (by kernel_rfl) (fun _ _ _ h => h) (Or.inr ⟨by rfl, rfl⟩) (by assumption) ?_
         simp only [List.setIfInBounds_toArray, List.set_cons_zero, List.set_cons_succ])
    refine call_at (i := 2) (F := 8) (K1.out _ (by repeat (first | with_reducible exact Ext.refl _ | with_reducible assumption | with_reducible refine Ext.alloc ?_ _ | with_reducible refine Ext.drew ?_ | with_reducible refine Ext.drewN ?_ _ | with_reducible refine Ext.setCell ?_ (by simp <;> omega) _ | with_reducible refine Ext.trans ?_ (by assumption)))) rfl rfl (by kernel_rfl) (by rfl) (by first | rfl | (go_simp <;> rfl)) ?_
    rintro e wq1 ⟨vq1, rfl, Rq1, Xq1⟩
    have Yq1 := Ext.trans hHeld Xq1
    refine ⟨_, rfl, Yq1, wpAnyH_strong (S' := fun w' => Ext wq1 w') (fun w' h => Ext.trans Yq1 h) _ _ _ _ ?_⟩
    simp only [List.setIfInBounds_toArray, List.set_cons_zero, List.set_cons_succ]
    have Zq1 : Ext w wq1 := Ext.trans (by assumption) Yq1
    clear hHeld Xq1 Yq1
    have hHeld := Ext.refl wq1
    have cvq1 := fun w'' (h : Ext wq1 w'') => conv_bytes (Rq1.bytes.ext h)
    obtain ⟨pq1, cq1, eq1⟩ := Rq1.bytes.form
    subst eq1
    try simp only [List.length_append] at cvq1
    clear Rq1
    first
      | (refine take_at (i := 3) (v := ?_) rfl rfl (by kernel_rfl) (by kernel_rfl) (by kernel_rfl) (fun _ _ _ h => h) (Or.inl ⟨by rfl, ?hy⟩) (by assumption) ?_
         case hy => (intro wz hSw; (try dsimp only at hSw); go_simp <;> with_reducible rfl)
         simp only [List.setIfInBounds_toArray, List.set_cons_zero, List.set_cons_succ])
      | (refine take_at (i := 3) (v := undef) rfl rfl (by kernel_rfl) (by kernel_rfl) (by kernel_rfl) (fun _ _ _ h => h) (Or.inr ⟨by rfl, rfl⟩) (by assumption) ?_
         simp only [List.setIfInBounds_toArray, List.set_cons_zero, List.set_cons_succ])
    refine call_at (i := 6) (F := 9) (K2.out _ (by repeat (first | with_reducible exact Ext.refl _ | with_reducible assumption | with_reducible refine Ext.alloc ?_ _ | with_reducible refine Ext.drew ?_ | with_reducible refine Ext.drewN ?_ _ | with_reducible refine Ext.setCell ?_ (by simp <;> omega) _ | with_reducible refine Ext.trans ?_ (by assumption)))) rfl rfl (by kernel_rfl) (by rfl) (by first | rfl | (go_simp <;> rfl)) ?_
    rintro e wq2 ⟨vq2, rfl, Rq2, Xq2⟩
    have Yq2 := Ext.trans hHeld Xq2
    refine ⟨_, rfl, Yq2, wpAnyH_strong (S' := fun w' => Ext wq2 w') (fun w' h => Ext.trans Yq2 h) _ _ _ _ ?_⟩
    simp only [List.setIfInBounds_toArray, List.set_cons_zero, List.set_cons_succ]
    have Zq2 : Ext w wq2 := Ext.trans (by assumption) Yq2
    clear hHeld Xq2 Yq2
    have hHeld := Ext.refl wq2
    have cvq2 := fun w'' (h : Ext wq2 w'') => conv_bytes (Rq2.bytes.ext h)
    obtain ⟨pq2, cq2, eq2⟩ := Rq2.bytes.form
    subst eq2
    try simp only [List.length_append] at cvq2
    clear Rq2
    first
      | (refine take_at (i := 7) (v := ?_) rfl rfl (by kernel_rfl) (by kernel_rfl) (by kernel_rfl) (fun _ _ _ h => h) (Or.inl ⟨by rfl, ?hy⟩) (by assumption) ?_
         case hy => (intro wz hSw; (try dsimp only at hSw); go_simp <;> with_reducible rfl)
         simp only [List.setIfInBounds_toArray, List.set_cons_zero, List.set_cons_succ])
      | (refine take_at (i := 7) (v := undef) rfl rfl (by kernel_rfl) (by kernel_rfl) (by kernel_rfl) (fun _ _ _ h => h) (Or.inr ⟨by rfl, rfl⟩) (by assumption) ?_
         simp only [List.setIfInBounds_toArray, List.set_cons_zero, List.set_cons_succ])
    first
      | (refine take_at (i := 8) (v := ?_) rfl rfl (by kernel_rfl) (by kernel_rfl) (by kernel_rfl) (fun _ _ _ h => h) (Or.inl ⟨by rfl, ?hy⟩) (by assumption) ?_
         case hy => (intro wz hSw; (try dsimp only at hSw); go_simp <;> with_reducible rfl)
         simp only [List.setIfInBounds_toArray, List.set_cons_zero, List.set_cons_succ])
      | (refine take_at (i := 8) (v := undef) rfl rfl (by kernel_rfl) (by kernel_rfl) (by kernel_rfl) (fun _ _ _ h => h) (Or.inr ⟨by rfl, rfl⟩) (by assumption) ?_
         simp only [List.setIfInBounds_toArray, List.set_cons_zero, List.set_cons_succ])
    first
      | (refine take_at (i := 9) (v := ?_) rfl rfl (by kernel_rfl) (by kernel_rfl) (by kernel_rfl) (fun _ _ _ h => h) (Or.inl ⟨by rfl, ?hy⟩) (by assumption) ?_
         case hy => (intro wz hSw; (try dsimp only at hSw); go_simp <;> with_reducible rfl)
         simp only [List.setIfInBounds_toArray, List.set_cons_zero, List.set_cons_succ])
      | (refine take_at (i := 9) (v := undef) rfl rfl (by kernel_rfl) (by kernel_rfl) (by kernel_rfl) (fun _ _ _ h => h) (Or.inr ⟨by rfl, rfl⟩) (by assumption) ?_
         simp only [List.setIfInBounds_toArray, List.set_cons_zero, List.set_cons_succ])
    first
      | (refine take_at (i := 10) (v := ?_) rfl rfl (by kernel_rfl) (by kernel_rfl) (by kernel_rfl) (fun _ _ _ h => h) (Or.inl ⟨by rfl, ?hy⟩) (by assumption) ?_
         case hy => (intro wz hSw; (try dsimp only at hSw); go_simp <;> with_reducible rfl)
         simp only [List.setIfInBounds_toArray, List.set_cons_zero, List.set_cons_succ])
      | (refine take_at (i := 10) (v := undef) rfl rfl (by kernel_rfl) (by kernel_rfl) (by kernel_rfl) (fun _ _ _ h => h) (Or.inr ⟨by rfl, rfl⟩) (by assumption) ?_
         simp only [List.setIfInBounds_toArray, List.set_cons_zero, List.set_cons_succ])
    first
      | (refine take_at (i := 11) (v := ?_) rfl rfl (by kernel_rfl) (by kernel_rfl) (by kernel_rfl) (fun _ _ _ h => h) (Or.inl ⟨by rfl, ?hy⟩) (by assumption) ?_
         case hy => (intro wz hSw; (try dsimp only at hSw); go_simp <;> with_reducible rfl)
         simp only [List.setIfInBounds_toArray, List.set_cons_zero, List.set_cons_succ])
      | (refine take_at (i := 11) (v := undef) rfl rfl (by kernel_rfl) (by kernel_rfl) (by kernel_rfl) (fun _ _ _ h => h) (Or.inr ⟨by rfl, rfl⟩) (by assumption) ?_
         simp only [List.setIfInBounds_toArray, List.set_cons_zero, List.set_cons_succ])
    first
      | (refine take_at (i := 13) (v := ?_) rfl rfl (by kernel_rfl) (by kernel_rfl) (by kernel_rfl) (fun _ _ _ h => h) (Or.inl ⟨by rfl, ?hy⟩) (by assumption) ?_
         case hy => (intro wz hSw; (try dsimp only at hSw); go_simp <;> with_reducible rfl)
         simp only [List.setIfInBounds_toArray, List.set_cons_zero, List.set_cons_succ])
      | (refine take_at (i := 13) (v := undef) rfl rfl (by kernel_rfl) (by kernel_rfl) (by kernel_rfl) (fun _ _ _ h => h) (Or.inr ⟨by rfl, rfl⟩) (by assumption) ?_
         simp only [List.setIfInBounds_toArray, List.set_cons_zero, List.set_cons_succ])
    refine call_at (i := 12) (F := 10) (K3.out _ (by repeat (first | with_reducible exact Ext.refl _ | with_reducible assumption | with_reducible refine Ext.alloc ?_ _ | with_reducible refine Ext.drew ?_ | with_reducible refine Ext.drewN ?_ _ | with_reducible refine Ext.setCell ?_ (by simp <;> omega) _ | with_reducible refine Ext.trans ?_ (by assumption)))) rfl rfl (by kernel_rfl) (by rfl) (by first | rfl | (go_simp <;> rfl)) ?_
    rintro e w' ⟨rfl, rfl⟩
    refine ⟨_, rfl, by assumption, ?_⟩
    simp only [List.setIfInBounds_toArray, List.set_cons_zero, List.set_cons_succ]
    refine call_at (i := 14) (F := 9) (K2.out _ (by repeat (first | with_reducible exact Ext.refl _ | with_reducible assumption | with_reducible refine Ext.alloc ?_ _ | with_reducible refine Ext.drew ?_ | with_reducible refine Ext.drewN ?_ _ | with_reducible refine Ext.setCell ?_ (by simp <;> omega) _ | with_reducible refine Ext.trans ?_ (by assumption)))) rfl rfl (by kernel_rfl) (by rfl) (by first | rfl | (go_simp <;> rfl)) ?_
    rintro e wq4 ⟨vq4, rfl, Rq4, Xq4⟩
    have Yq4 := Ext.trans hHeld Xq4
    refine ⟨_, rfl, Yq4, wpAnyH_strong (S' := fun w' => Ext wq4 w') (fun w' h => Ext.trans Yq4 h) _ _ _ _ ?_⟩
    simp only [List.setIfInBounds_toArray, List.set_cons_zero, List.set_cons_succ]
    have Zq4 : Ext w wq4 := Ext.trans (by assumption) Yq4
    clear hHeld Xq4 Yq4
    have hHeld := Ext.refl wq4
    have cvq4 := fun w'' (h : Ext wq4 w'') => conv_bytes (Rq4.bytes.ext h)
    obtain ⟨pq4, cq4, eq4⟩ := Rq4.bytes.form
    subst eq4
    try simp only [List.length_append] at cvq4
    clear Rq4
    first
      | (refine take_at (i := 15) (v := ?_) rfl rfl (by kernel_rfl) (by kernel_rfl) (by kernel_rfl) (fun _ _ _ h => h) (Or.inl ⟨by rfl, ?hy⟩) (by assumption) ?_
         case hy => (intro wz hSw; (try dsimp only at hSw); go_simp <;> with_reducible rfl)
         simp only [List.setIfInBounds_toArray, List.set_cons_zero, List.set_cons_succ])
      | (refine take_at (i := 15) (v := undef) rfl rfl (by kernel_rfl) (by kernel_rfl) (by kernel_rfl) (fun _ _ _ h => h) (Or.inr ⟨by rfl, rfl⟩) (by assumption) ?_
         simp only [List.setIfInBounds_toArray, List.set_cons_zero, List.set_cons_succ])
    first
      | (refine take_at (i := 16) (v := ?_) rfl rfl (by kernel_rfl) (by kernel_rfl) (by kernel_rfl) (fun _ _ _ h => h) (Or.inl ⟨by rfl, ?hy⟩) (by assumption) ?_
         case hy => (intro wz hSw; (try dsimp only at hSw); go_simp <;> with_reducible rfl)
         simp only [List.setIfInBounds_toArray, List.set_cons_zero, List.set_cons_succ])
      | (refine take_at (i := 16) (v := undef) rfl rfl (by kernel_rfl) (by kernel_rfl) (by kernel_rfl) (fun _ _ _ h => h) (Or.inr ⟨by rfl, rfl⟩) (by assumption) ?_
         simp only [List.setIfInBounds_toArray, List.set_cons_zero, List.set_cons_succ])
    first
      | (refine take_at (i := 17) (v := ?_) rfl rfl (by kernel_rfl) (by kernel_rfl) (by kernel_rfl) (fun _ _ _ h => h) (Or.inl ⟨by rfl, ?hy⟩) (by assumption) ?_
         case hy => (intro wz hSw; (try dsimp only at hSw); go_simp <;> with_reducible rfl)
         simp only [List.setIfInBounds_toArray, List.set_cons_zero, List.set_cons_succ])
      | (refine take_at (i := 17) (v := undef) rfl rfl (by kernel_rfl) (by kernel_rfl) (by kernel_rfl) (fun _ _ _ h => h) (Or.inr ⟨by rfl, rfl⟩) (by assumption) ?_
         simp only [List.setIfInBounds_toArray, List.set_cons_zero, List.set_cons_succ])
    first
      | (refine take_at (i := 18) (v := ?_) rfl rfl (by kernel_rfl) (by kernel_rfl) (by kernel_rfl) (fun _ _ _ h => h) (Or.inl ⟨by rfl, ?hy⟩) (by assumption) ?_
         case hy => (intro wz hSw; (try dsimp only at hSw); go_simp <;> with_reducible rfl)
         simp only [List.setIfInBounds_toArray, List.set_cons_zero, List.set_cons_succ])
      | (refine take_at (i := 18) (v := undef) rfl rfl (by kernel_rfl) (by kernel_rfl) (by kernel_rfl) (fun _ _ _ h => h) (Or.inr ⟨by rfl, rfl⟩) (by assumption) ?_
         simp only [List.setIfInBounds_toArray, List.set_cons_zero, List.set_cons_succ])
    first
      | (refine take_at (i := 19) (v := ?_) rfl rfl (by kernel_rfl) (by kernel_rfl) (by kernel_rfl) (fun _ _ _ h => h) (Or.inl ⟨by rfl, ?hy⟩) (by assumption) ?_
         case hy => (intro wz hSw; (try dsimp only at hSw); go_simp <;> with_reducible rfl)
         simp only [List.setIfInBounds_toArray, List.set_cons_zero, List.set_cons_succ])
      | (refine take_at (i := 19) (v := undef) rfl rfl (by kernel_rfl) (by kernel_rfl) (by kernel_rfl) (fun _ _ _ h => h) (Or.inr ⟨by rfl, rfl⟩) (by assumption) ?_
         simp only [List.setIfInBounds_toArray, List.set_cons_zero, List.set_cons_succ])
    first
      | (refine take_at (i := 21) (v := ?_) rfl rfl (by kernel_rfl) (by kernel_rfl) (by kernel_rfl) (fun _ _ _ h => h) (Or.inl ⟨by rfl, ?hy⟩) (by assumption) ?_
         case hy => (intro wz hSw; (try dsimp only at hSw); go_simp <;> with_reducible rfl)
         simp only [List.setIfInBounds_toArray, List.set_cons_zero, List.set_cons_succ])
      | (refine take_at (i := 21) (v := undef) rfl rfl (by kernel_rfl) (by kernel_rfl) (by kernel_rfl) (fun _ _ _ h => h) (Or.inr ⟨by rfl, rfl⟩) (by assumption) ?_
         simp only [List.setIfInBounds_toArray, List.set_cons_zero, List.set_cons_succ])
    refine call_at (i := 20) (F := 11) (K4.out _ (by repeat (first | with_reducible exact Ext.refl _ | with_reducible assumption | with_reducible refine Ext.alloc ?_ _ | with_reducible refine Ext.drew ?_ | with_reducible refine Ext.drewN ?_ _ | with_reducible refine Ext.setCell ?_ (by simp <;> omega) _ | with_reducible refine Ext.trans ?_ (by assumption)))) rfl rfl (by kernel_rfl) (by rfl) (by first | rfl | (go_simp <;> rfl)) ?_
    rintro e w' ⟨rfl, rfl⟩
    refine ⟨_, rfl, by assumption, ?_⟩
    simp only [List.setIfInBounds_toArray, List.set_cons_zero, List.set_cons_succ]
    refine call_at (i := 22) (F := 12) (K5.out _ (by repeat (first | with_reducible exact Ext.refl _ | with_reducible assumption | with_reducible refine Ext.alloc ?_ _ | with_reducible refine Ext.drew ?_ | with_reducible refine Ext.drewN ?_ _ | with_reducible refine Ext.setCell ?_ (by simp <;> omega) _ | with_reducible refine Ext.trans ?_ (by assumption)))) rfl rfl (by kernel_rfl) (by rfl) (by first | rfl | (go_simp <;> rfl)) ?_
    rintro e w' ⟨rfl, rfl⟩
    refine ⟨_, rfl, by assumption, ?_⟩
    simp only [List.setIfInBounds_toArray, List.set_cons_zero, List.set_cons_succ]
    first
      | (refine take_at (i := 23) (v := ?_) rfl rfl (by kernel_rfl) (by kernel_rfl) (by kernel_rfl) (fun _ _ _ h => h) (Or.inl ⟨by rfl, ?hy⟩) (by assumption) ?_
         case hy => (intro wz hSw; (try dsimp only at hSw); go_simp <;> with_reducible rfl)
         simp only [List.setIfInBounds_toArray, List.set_cons_zero, List.set_cons_succ])
      | (refine take_at (i := 23) (v := undef) rfl rfl (by kernel_rfl) (by kernel_rfl) (by kernel_rfl) (fun _ _ _ h => h) (Or.inr ⟨by rfl, rfl⟩) (by assumption) ?_
         simp only [List.setIfInBounds_toArray, List.set_cons_zero, List.set_cons_succ])
    first
      | (refine take_at (i := 24) (v := ?_) rfl rfl (by kernel_rfl) (by kernel_rfl) (by kernel_rfl) (fun _ _ _ h => h) (Or.inl ⟨by rfl, ?hy⟩) (by assumption) ?_
         case hy => (intro wz hSw; (try dsimp only at hSw); go_simp <;> with_reducible rfl)
         simp only [List.setIfInBounds_toArray, List.set_cons_zero, List.set_cons_succ])
      | (refine take_at (i := 24) (v := undef) rfl rfl (by kernel_rfl) (by kernel_rfl) (by kernel_rfl) (fun _ _ _ h => h) (Or.inr ⟨by rfl, rfl⟩) (by assumption) ?_
         simp only [List.setIfInBounds_toArray, List.set_cons_zero, List.set_cons_succ])
    first
      | (refine take_at (i := 25) (v := ?_) rfl rfl (by kernel_rfl) (by kernel_rfl) (by kernel_rfl) (fun _ _ _ h => h) (Or.inl ⟨by rfl, ?hy⟩) (by assumption) ?_
         case hy => (intro wz hSw; (try dsimp only at hSw); go_simp <;> with_reducible rfl)
         simp only [List.setIfInBounds_toArray, List.set_cons_zero, List.set_cons_succ])
      | (refine take_at (i := 25) (v := undef) rfl rfl (by kernel_rfl) (by kernel_rfl) (by kernel_rfl) (fun _ _ _ h => h) (Or.inr ⟨by rfl, rfl⟩) (by assumption) ?_
         simp only [List.setIfInBounds_toArray, List.set_cons_zero, List.set_cons_succ])
    first
      | (refine take_at (i := 26) (v := ?_) rfl rfl (by kernel_rfl) (by kernel_rfl) (by kernel_rfl) (fun _ _ _ h => h) (Or.inl ⟨by rfl, ?hy⟩) (by assumption) ?_
         case hy => (intro wz hSw; (try dsimp only at hSw); go_simp <;> with_reducible rfl)
         simp only [List.setIfInBounds_toArray, List.set_cons_zero, List.set_cons_succ])
      | (refine take_at (i := 26) (v := undef) rfl rfl (by kernel_rfl) (by kernel_rfl) (by kernel_rfl) (fun _ _ _ h => h) (Or.inr ⟨by rfl, rfl⟩) (by assumption) ?_
         simp only [List.setIfInBounds_toArray, List.set_cons_zero, List.set_cons_succ])
    first
      | (refine take_at (i := 28) (v := ?_) rfl rfl (by kernel_rfl) (by kernel_rfl) (by kernel_rfl) (fun _ _ _ h => h) (Or.inl ⟨by rfl, ?hy⟩) (by assumption) ?_
         case hy => (intro wz hSw; (try dsimp only at hSw); go_simp <;> with_reducible rfl)
         simp only [List.setIfInBounds_toArray, List.set_cons_zero, List.set_cons_succ])
      | (refine take_at (i := 28) (v := undef) rfl rfl (by kernel_rfl) (by kernel_rfl) (by kernel_rfl) (fun _ _ _ h => h) (Or.inr ⟨by rfl, rfl⟩) (by assumption) ?_
         simp only [List.setIfInBounds_toArray, List.set_cons_zero, List.set_cons_succ])
    refine call_at (i := 27) (F := 13) (K6.out _ (by repeat (first | with_reducible exact Ext.refl _ | with_reducible assumption | with_reducible refine Ext.alloc ?_ _ | with_reducible refine Ext.drew ?_ | with_reducible refine Ext.drewN ?_ _ | with_reducible refine Ext.setCell ?_ (by simp <;> omega) _ | with_reducible refine Ext.trans ?_ (by assumption)))) rfl rfl (by kernel_rfl) (by rfl) (by first | rfl | (go_simp <;> rfl)) ?_
    rintro e w' ⟨rfl, rfl⟩
    refine ⟨_, rfl, by assumption, ?_⟩
    simp only [List.setIfInBounds_toArray, List.set_cons_zero, List.set_cons_succ]
    refine call_at (i := 29) (F := 14) (K7.out _ (by repeat (first | with_reducible exact Ext.refl _ | with_reducible assumption | with_reducible refine Ext.alloc ?_ _ | with_reducible refine Ext.drew ?_ | with_reducible refine Ext.drewN ?_ _ | with_reducible refine Ext.setCell ?_ (by simp <;> omega) _ | with_reducible refine Ext.trans ?_ (by assumption)))) rfl rfl (by kernel_rfl) (by rfl) (by first | rfl | (go_simp <;> rfl)) ?_
    rintro e w' ⟨rfl, rfl⟩
    refine ⟨_, rfl, by assumption, ?_⟩
    simp only [List.setIfInBounds_toArray, List.set_cons_zero, List.set_cons_succ]
    first
      | (refine take_at (i := 30) (v := ?_) rfl rfl (by kernel_rfl) (by kernel_rfl) (by kernel_rfl) (fun _ _ _ h => h) (Or.inl ⟨by rfl, ?hy⟩) (by assumption) ?_
         case hy => (intro wz hSw; (try dsimp only at hSw); go_simp <;> with_reducible rfl)
         simp only [List.setIfInBounds_toArray, List.set_cons_zero, List.set_cons_succ])
      | (refine take_at (i := 30) (v := undef) rfl rfl (by kernel_rfl) (by kernel_rfl) (by kernel_rfl) (fun _ _ _ h => h) (Or.inr ⟨by rfl, rfl⟩) (by assumption) ?_
         simp only [List.setIfInBounds_toArray, List.set_cons_zero, List.set_cons_succ])
    first
      | (refine take_at (i := 31) (v := ?_) rfl rfl (by kernel_rfl) (by kernel_rfl) (by kernel_rfl) (fun _ _ _ h => h) (Or.inl ⟨by rfl, ?hy⟩) (by assumption) ?_
         case hy => (intro wz hSw; (try dsimp only at hSw); go_simp <;> with_reducible rfl)
         simp only [List.setIfInBounds_toArray, List.set_cons_zero, List.set_cons_succ])
      | (refine take_at (i := 31) (v := undef) rfl rfl (by kernel_rfl) (by kernel_rfl) (by kernel_rfl) (fun _ _ _ h => h) (Or.inr ⟨by rfl, rfl⟩) (by assumption) ?_
         simp only [List.setIfInBounds_toArray, List.set_cons_zero, List.set_cons_succ])
    refine wpAnyH_done (by kernel_rfl) ?_ _
    clear cvq1 cvq2 cvq4 hHeld
    go_upto_region 9 with fail
    refine wp_region_held_drew (S := fun w' => Ext wq4 w') (by kernel_rfl) ?hbeg (fun hHeld => ?_)
    case hbeg => exact (Ext.refl wq4).drew
    have hHeld0 : Ext w wq4 := by first | exact Ext.refl _ | assumption
    first
      | (refine take_at (i := 0) (v := ?_) rfl rfl (by kernel_rfl) (by kernel_rfl) (by kernel_rfl) (fun _ _ _ h => h) (Or.inl ⟨by rfl, ?hy⟩) (by assumption) ?_
         case hy => (intro wz hSw; (try dsimp only at hSw); go_simp <;> with_reducible rfl)
         simp only [List.setIfInBounds_toArray, List.set_cons_zero, List.set_cons_succ])
      | (refine take_at (i := 0) (v := undef) rfl rfl (by kernel_rfl) (by kernel_rfl) (by kernel_rfl) (fun _ _ _ h => h) (Or.inr ⟨by rfl, rfl⟩) (by assumption) ?_
         simp only [List.setIfInBounds_toArray, List.set_cons_zero, List.set_cons_succ])
    first
      | (refine take_at (i := 1) (v := ?_) rfl rfl (by kernel_rfl) (by kernel_rfl) (by kernel_rfl) (fun _ _ _ h => h) (Or.inl ⟨by rfl, ?hy⟩) (by assumption) ?_
         case hy => (intro wz hSw; (try dsimp only at hSw); go_simp <;> with_reducible rfl)
         simp only [List.setIfInBounds_toArray, List.set_cons_zero, List.set_cons_succ])
      | (refine take_at (i := 1) (v := undef) rfl rfl (by kernel_rfl) (by kernel_rfl) (by kernel_rfl) (fun _ _ _ h => h) (Or.inr ⟨by rfl, rfl⟩) (by assumption) ?_
         simp only [List.setIfInBounds_toArray, List.set_cons_zero, List.set_cons_succ])
    refine call_at (i := 2) (F := 15) (K8.out _ (by repeat (first | with_reducible exact Ext.refl _ | with_reducible assumption | with_reducible refine Ext.alloc ?_ _ | with_reducible refine Ext.drew ?_ | with_reducible refine Ext.drewN ?_ _ | with_reducible refine Ext.setCell ?_ (by simp <;> omega) _ | with_reducible refine Ext.trans ?_ (by assumption)))) rfl rfl (by kernel_rfl) (by rfl) (by first | rfl | (go_simp <;> rfl)) ?_
    rintro e wq9 ⟨vq9, rfl, Rq9, Xq9⟩
    have Yq9 := Ext.trans hHeld Xq9
    refine ⟨_, rfl, Yq9, wpAnyH_strong (S' := fun w' => Ext wq9 w') (fun w' h => Ext.trans Yq9 h) _ _ _ _ ?_⟩
    simp only [List.setIfInBounds_toArray, List.set_cons_zero, List.set_cons_succ]
    have Zq9 : Ext w wq9 := Ext.trans (by assumption) Yq9
    clear hHeld Xq9 Yq9
    have hHeld := Ext.refl wq9
    have cvq9 := fun w'' (h : Ext wq9 w'') => conv_bytes (Rq9.bytes.ext h)
    obtain ⟨pq9, cq9, eq9⟩ := Rq9.bytes.form
    subst eq9
    try simp only [List.length_append] at cvq9
    clear Rq9
    first
      | (refine take_at (i := 3) (v := ?_) rfl rfl (by kernel_rfl) (by kernel_rfl) (by kernel_rfl) (fun _ _ _ h => h) (Or.inl ⟨by rfl, ?hy⟩) (by assumption) ?_
         case hy => (intro wz hSw; (try dsimp only at hSw); go_simp <;> with_reducible rfl)
         simp only [List.setIfInBounds_toArray, List.set_cons_zero, List.set_cons_succ])
      | (refine take_at (i := 3) (v := undef) rfl rfl (by kernel_rfl) (by kernel_rfl) (by kernel_rfl) (fun _ _ _ h => h) (Or.inr ⟨by rfl, rfl⟩) (by assumption) ?_
         simp only [List.setIfInBounds_toArray, List.set_cons_zero, List.set_cons_succ])
    first
      | (refine take_at (i := 4) (v := ?_) rfl rfl (by kernel_rfl) (by kernel_rfl) (by kernel_rfl) (fun _ _ _ h => h) (Or.inl ⟨by rfl, ?hy⟩) (by assumption) ?_
         case hy => (intro wz hSw; (try dsimp only at hSw); go_simp <;> with_reducible rfl)
         simp only [List.setIfInBounds_toArray, List.set_cons_zero, List.set_cons_succ])
      | (refine take_at (i := 4) (v := undef) rfl rfl (by kernel_rfl) (by kernel_rfl) (by kernel_rfl) (fun _ _ _ h => h) (Or.inr ⟨by rfl, rfl⟩) (by assumption) ?_
         simp only [List.setIfInBounds_toArray, List.set_cons_zero, List.set_cons_succ])
    first
      | (refine take_at (i := 5) (v := ?_) rfl rfl (by kernel_rfl) (by kernel_rfl) (by kernel_rfl) (fun _ _ _ h => h) (Or.inl ⟨by rfl, ?hy⟩) (by assumption) ?_
         case hy => (intro wz hSw; (try dsimp only at hSw); go_simp <;> with_reducible rfl)
         simp only [List.setIfInBounds_toArray, List.set_cons_zero, List.set_cons_succ])
      | (refine take_at (i := 5) (v := undef) rfl rfl (by kernel_rfl) (by kernel_rfl) (by kernel_rfl) (fun _ _ _ h => h) (Or.inr ⟨by rfl, rfl⟩) (by assumption) ?_
         simp only [List.setIfInBounds_toArray, List.set_cons_zero, List.set_cons_succ])
    first
      | (refine take_at (i := 6) (v := ?_) rfl rfl (by kernel_rfl) (by kernel_rfl) (by kernel_rfl) (fun _ _ _ h => h) (Or.inl ⟨by rfl, ?hy⟩) (by assumption) ?_
         case hy => (intro wz hSw; (try dsimp only at hSw); go_simp <;> with_reducible rfl)
         simp only [List.setIfInBounds_toArray, List.set_cons_zero, List.set_cons_succ])
      | (refine take_at (i := 6) (v := undef) rfl rfl (by kernel_rfl) (by kernel_rfl) (by kernel_rfl) (fun _ _ _ h => h) (Or.inr ⟨by rfl, rfl⟩) (by assumption) ?_
         simp only [List.setIfInBounds_toArray, List.set_cons_zero, List.set_cons_succ])
    first
      | (refine take_at (i := 7) (v := ?_) rfl rfl (by kernel_rfl) (by kernel_rfl) (by kernel_rfl) (fun _ _ _ h => h) (Or.inl ⟨by rfl, ?hy⟩) (by assumption) ?_
         case hy => (intro wz hSw; (try dsimp only at hSw); go_simp <;> with_reducible rfl)
         simp only [List.setIfInBounds_toArray, List.set_cons_zero, List.set_cons_succ])
      | (refine take_at (i := 7) (v := undef) rfl rfl (by kernel_rfl) (by kernel_rfl) (by kernel_rfl) (fun _ _ _ h => h) (Or.inr ⟨by rfl, rfl⟩) (by assumption) ?_
         simp only [List.setIfInBounds_toArray, List.set_cons_zero, List.set_cons_succ])
    first
      | (refine take_at (i := 10) (v := ?_) rfl rfl (by kernel_rfl) (by kernel_rfl) (by kernel_rfl) (fun _ _ _ h => h) (Or.inl ⟨by rfl, ?hy⟩) (by assumption) ?_
         case hy => (intro wz hSw; (try dsimp only at hSw); go_simp <;> with_reducible rfl)
         simp only [List.setIfInBounds_toArray, List.set_cons_zero, List.set_cons_succ])
      | (refine take_at (i := 10) (v := undef) rfl rfl (by kernel_rfl) (by kernel_rfl) (by kernel_rfl) (fun _ _ _ h => h) (Or.inr ⟨by rfl, rfl⟩) (by assumption) ?_
         simp only [List.setIfInBounds_toArray, List.set_cons_zero, List.set_cons_succ])
    first
      | (refine take_at (i := 11) (v := ?_) rfl rfl (by kernel_rfl) (by kernel_rfl) (by kernel_rfl) (fun _ _ _ h => h) (Or.inl ⟨by rfl, ?hy⟩) (by assumption) ?_
         case hy => (intro wz hSw; (try dsimp only at hSw); go_simp <;> with_reducible rfl)
         simp only [List.setIfInBounds_toArray, List.set_cons_zero, List.set_cons_succ])
      | (refine take_at (i := 11) (v := undef) rfl rfl (by kernel_rfl) (by kernel_rfl) (by kernel_rfl) (fun _ _ _ h => h) (Or.inr ⟨by rfl, rfl⟩) (by assumption) ?_
         simp only [List.setIfInBounds_toArray, List.set_cons_zero, List.set_cons_succ])
    refine call_at (i := 8) (F := 15) (K8.out _ (by repeat (first | with_reducible exact Ext.refl _ | with_reducible assumption | with_reducible refine Ext.alloc ?_ _ | with_reducible refine Ext.drew ?_ | with_reducible refine Ext.drewN ?_ _ | with_reducible refine Ext.setCell ?_ (by simp <;> omega) _ | with_reducible refine Ext.trans ?_ (by assumption)))) rfl rfl (by kernel_rfl) (by rfl) (by first | rfl | (go_simp <;> rfl)) ?_
    rintro e wq10 ⟨vq10, rfl, Rq10, Xq10⟩
    have Yq10 := Ext.trans hHeld Xq10
    refine ⟨_, rfl, Yq10, wpAnyH_strong (S' := fun w' => Ext wq10 w') (fun w' h => Ext.trans Yq10 h) _ _ _ _ ?_⟩
    simp only [List.setIfInBounds_toArray, List.set_cons_zero, List.set_cons_succ]
    have Zq10 : Ext w wq10 := Ext.trans (by assumption) Yq10
    clear hHeld Xq10 Yq10
    have hHeld := Ext.refl wq10
    have cvq10 := fun w'' (h : Ext wq10 w'') => conv_bytes (Rq10.bytes.ext h)
    obtain ⟨pq10, cq10, eq10⟩ := Rq10.bytes.form
    subst eq10
    try simp only [List.length_append] at cvq10
    clear Rq10
    first
      | (refine take_at (i := 9) (v := ?_) rfl rfl (by kernel_rfl) (by kernel_rfl) (by kernel_rfl) (fun _ _ _ h => h) (Or.inl ⟨by rfl, ?hy⟩) (by assumption) ?_
         case hy => (intro wz hSw; (try dsimp only at hSw); go_simp <;> with_reducible rfl)
         simp only [List.setIfInBounds_toArray, List.set_cons_zero, List.set_cons_succ])
      | (refine take_at (i := 9) (v := undef) rfl rfl (by kernel_rfl) (by kernel_rfl) (by kernel_rfl) (fun _ _ _ h => h) (Or.inr ⟨by rfl, rfl⟩) (by assumption) ?_
         simp only [List.setIfInBounds_toArray, List.set_cons_zero, List.set_cons_succ])
    refine call_at (i := 12) (F := 12) (K5.out _ (by repeat (first | with_reducible exact Ext.refl _ | with_reducible assumption | with_reducible refine Ext.alloc ?_ _ | with_reducible refine Ext.drew ?_ | with_reducible refine Ext.drewN ?_ _ | with_reducible refine Ext.setCell ?_ (by simp <;> omega) _ | with_reducible refine Ext.trans ?_ (by assumption)))) rfl rfl (by kernel_rfl) (by rfl) (by first | rfl | (go_simp <;> rfl)) ?_
    rintro e w' ⟨rfl, rfl⟩
    refine ⟨_, rfl, by assumption, ?_⟩
    simp only [List.setIfInBounds_toArray, List.set_cons_zero, List.set_cons_succ]
    refine call_at (i := 13) (F := 9) (K9.out _ (by repeat (first | with_reducible exact Ext.refl _ | with_reducible assumption | with_reducible refine Ext.alloc ?_ _ | with_reducible refine Ext.drew ?_ | with_reducible refine Ext.drewN ?_ _ | with_reducible refine Ext.setCell ?_ (by simp <;> omega) _ | with_reducible refine Ext.trans ?_ (by assumption)))) rfl rfl (by kernel_rfl) (by rfl) (by first | rfl | (go_simp <;> rfl)) ?_
    rintro e wq12 ⟨vq12, rfl, Rq12, Xq12⟩
    have Yq12 := Ext.trans hHeld Xq12
    refine ⟨_, rfl, Yq12, wpAnyH_strong (S' := fun w' => Ext wq12 w') (fun w' h => Ext.trans Yq12 h) _ _ _ _ ?_⟩
    simp only [List.setIfInBounds_toArray, List.set_cons_zero, List.set_cons_succ]
    have Zq12 : Ext w wq12 := Ext.trans (by assumption) Yq12
    clear hHeld Xq12 Yq12
    have hHeld := Ext.refl wq12
    have cvq12 := fun w'' (h : Ext wq12 w'') => conv_bytes (Rq12.bytes.ext h)
    obtain ⟨pq12, cq12, eq12⟩ := Rq12.bytes.form
    subst eq12
    try simp only [List.length_append] at cvq12
    clear Rq12
    first
      | (refine take_at (i := 14) (v := ?_) rfl rfl (by kernel_rfl) (by kernel_rfl) (by kernel_rfl) (fun _ _ _ h => h) (Or.inl ⟨by rfl, ?hy⟩) (by assumption) ?_
         case hy => (intro wz hSw; (try dsimp only at hSw); go_simp <;> with_reducible rfl)
         simp only [List.setIfInBounds_toArray, List.set_cons_zero, List.set_cons_succ])
      | (refine take_at (i := 14) (v := undef) rfl rfl (by kernel_rfl) (by kernel_rfl) (by kernel_rfl) (fun _ _ _ h => h) (Or.inr ⟨by rfl, rfl⟩) (by assumption) ?_
         simp only [List.setIfInBounds_toArray, List.set_cons_zero, List.set_cons_succ])
    first
      | (refine take_at (i := 15) (v := ?_) rfl rfl (by kernel_rfl) (by kernel_rfl) (by kernel_rfl) (fun _ _ _ h => h) (Or.inl ⟨by rfl, ?hy⟩) (by assumption) ?_
         case hy => (intro wz hSw; (try dsimp only at hSw); go_simp <;> with_reducible rfl)
         simp only [List.setIfInBounds_toArray, List.set_cons_zero, List.set_cons_succ])
      | (refine take_at (i := 15) (v := undef) rfl rfl (by kernel_rfl) (by kernel_rfl) (by kernel_rfl) (fun _ _ _ h => h) (Or.inr ⟨by rfl, rfl⟩) (by assumption) ?_
         simp only [List.setIfInBounds_toArray, List.set_cons_zero, List.set_cons_succ])
    first
      | (refine take_at (i := 16) (v := ?_) rfl rfl (by kernel_rfl) (by kernel_rfl) (by kernel_rfl) (fun _ _ _ h => h) (Or.inl ⟨by rfl, ?hy⟩) (by assumption) ?_
         case hy => (intro wz hSw; (try dsimp only at hSw); go_simp <;> with_reducible rfl)
         simp only [List.setIfInBounds_toArray, List.set_cons_zero, List.set_cons_succ])
      | (refine take_at (i := 16) (v := undef) rfl rfl (by kernel_rfl) (by kernel_rfl) (by kernel_rfl) (fun _ _ _ h => h) (Or.inr ⟨by rfl, rfl⟩) (by assumption) ?_
         simp only [List.setIfInBounds_toArray, List.set_cons_zero, List.set_cons_succ])
    first
      | (refine take_at (i := 17) (v := ?_) rfl rfl (by kernel_rfl) (by kernel_rfl) (by kernel_rfl) (fun _ _ _ h => h) (Or.inl ⟨by rfl, ?hy⟩) (by assumption) ?_
         case hy => (intro wz hSw; (try dsimp only at hSw); go_simp <;> with_reducible rfl)
         simp only [List.setIfInBounds_toArray, List.set_cons_zero, List.set_cons_succ])
      | (refine take_at (i := 17) (v := undef) rfl rfl (by kernel_rfl) (by kernel_rfl) (by kernel_rfl) (fun _ _ _ h => h) (Or.inr ⟨by rfl, rfl⟩) (by assumption) ?_
         simp only [List.setIfInBounds_toArray, List.set_cons_zero, List.set_cons_succ])
    first
      | (refine take_at (i := 18) (v := ?_) rfl rfl (by kernel_rfl) (by kernel_rfl) (by kernel_rfl) (fun _ _ _ h => h) (Or.inl ⟨by rfl, ?hy⟩) (by assumption) ?_
         case hy => (intro wz hSw; (try dsimp only at hSw); go_simp <;> with_reducible rfl)
         simp only [List.setIfInBounds_toArray, List.set_cons_zero, List.set_cons_succ])
      | (refine take_at (i := 18) (v := undef) rfl rfl (by kernel_rfl) (by kernel_rfl) (by kernel_rfl) (fun _ _ _ h => h) (Or.inr ⟨by rfl, rfl⟩) (by assumption) ?_
         simp only [List.setIfInBounds_toArray, List.set_cons_zero, List.set_cons_succ])
    first
      | (refine take_at (i := 19) (v := ?_) rfl rfl (by kernel_rfl) (by kernel_rfl) (by kernel_rfl) (fun _ _ _ h => h) (Or.inl ⟨by rfl, ?hy⟩) (by assumption) ?_
         case hy => (intro wz hSw; (try dsimp only at hSw); go_simp <;> with_reducible rfl)
         simp only [List.setIfInBounds_toArray, List.set_cons_zero, List.set_cons_succ])
      | (refine take_at (i := 19) (v := undef) rfl rfl (by kernel_rfl) (by kernel_rfl) (by kernel_rfl) (fun _ _ _ h => h) (Or.inr ⟨by rfl, rfl⟩) (by assumption) ?_
         simp only [List.setIfInBounds_toArray, List.set_cons_zero, List.set_cons_succ])
    first
      | (refine take_at (i := 20) (v := ?_) rfl rfl (by kernel_rfl) (by kernel_rfl) (by kernel_rfl) (fun _ _ _ h => h) (Or.inl ⟨by rfl, ?hy⟩) (by assumption) ?_
         case hy => (intro wz hSw; (try dsimp only at hSw); go_simp <;> with_reducible rfl)
         simp only [List.setIfInBounds_toArray, List.set_cons_zero, List.set_cons_succ])
      | (refine take_at (i := 20) (v := undef) rfl rfl (by kernel_rfl) (by kernel_rfl) (by kernel_rfl) (fun _ _ _ h => h) (Or.inr ⟨by rfl, rfl⟩) (by assumption) ?_
         simp only [List.setIfInBounds_toArray, List.set_cons_zero, List.set_cons_succ])
    first
      | (refine take_at (i := 23) (v := ?_) rfl rfl (by kernel_rfl) (by kernel_rfl) (by kernel_rfl) (fun _ _ _ h => h) (Or.inl ⟨by rfl, ?hy⟩) (by assumption) ?_
         case hy => (intro wz hSw; (try dsimp only at hSw); go_simp <;> with_reducible rfl)
         simp only [List.setIfInBounds_toArray, List.set_cons_zero, List.set_cons_succ])
      | (refine take_at (i := 23) (v := undef) rfl rfl (by kernel_rfl) (by kernel_rfl) (by kernel_rfl) (fun _ _ _ h => h) (Or.inr ⟨by rfl, rfl⟩) (by assumption) ?_
         simp only [List.setIfInBounds_toArray, List.set_cons_zero, List.set_cons_succ])
    first
      | (refine take_at (i := 24) (v := ?_) rfl rfl (by kernel_rfl) (by kernel_rfl) (by kernel_rfl) (fun _ _ _ h => h) (Or.inl ⟨by rfl, ?hy⟩) (by assumption) ?_
         case hy => (intro wz hSw; (try dsimp only at hSw); go_simp <;> with_reducible rfl)
         simp only [List.setIfInBounds_toArray, List.set_cons_zero, List.set_cons_succ])
      | (refine take_at (i := 24) (v := undef) rfl rfl (by kernel_rfl) (by kernel_rfl) (by kernel_rfl) (fun _ _ _ h => h) (Or.inr ⟨by rfl, rfl⟩) (by assumption) ?_
         simp only [List.setIfInBounds_toArray, List.set_cons_zero, List.set_cons_succ])
    refine call_at (i := 21) (F := 16) (K10.out _ (by repeat (first | with_reducible exact Ext.refl _ | with_reducible assumption | with_reducible refine Ext.alloc ?_ _ | with_reducible refine Ext.drew ?_ | with_reducible refine Ext.drewN ?_ _ | with_reducible refine Ext.setCell ?_ (by simp <;> omega) _ | with_reducible refine Ext.trans ?_ (by assumption)))) rfl rfl (by kernel_rfl) (by rfl) (by first | rfl | (go_simp <;> rfl)) ?_
    rintro e wq13 ⟨vq13, rfl, Rq13, Xq13⟩
    have Yq13 := Ext.trans hHeld Xq13
    refine ⟨_, rfl, Yq13, wpAnyH_strong (S' := fun w' => Ext wq13 w') (fun w' h => Ext.trans Yq13 h) _ _ _ _ ?_⟩
    simp only [List.setIfInBounds_toArray, List.set_cons_zero, List.set_cons_succ]
    have Zq13 : Ext w wq13 := Ext.trans (by assumption) Yq13
    clear hHeld Xq13 Yq13
    have hHeld := Ext.refl wq13
    have cvq13 := fun w'' (h : Ext wq13 w'') => conv_bytes (Rq13.bytes.ext h)
    obtain ⟨pq13, cq13, eq13⟩ := Rq13.bytes.form
    subst eq13
    try simp only [List.length_append] at cvq13
    clear Rq13
    first
      | (refine take_at (i := 22) (v := ?_) rfl rfl (by kernel_rfl) (by kernel_rfl) (by kernel_rfl) (fun _ _ _ h => h) (Or.inl ⟨by rfl, ?hy⟩) (by assumption) ?_
         case hy => (intro wz hSw; (try dsimp only at hSw); go_simp <;> with_reducible rfl)
         simp only [List.setIfInBounds_toArray, List.set_cons_zero, List.set_cons_succ])
      | (refine take_at (i := 22) (v := undef) rfl rfl (by kernel_rfl) (by kernel_rfl) (by kernel_rfl) (fun _ _ _ h => h) (Or.inr ⟨by rfl, rfl⟩) (by assumption) ?_
         simp only [List.setIfInBounds_toArray, List.set_cons_zero, List.set_cons_succ])
    refine call_at (i := 25) (F := 17) (K11.out _ (by repeat (first | with_reducible exact Ext.refl _ | with_reducible assumption | with_reducible refine Ext.alloc ?_ _ | with_reducible refine Ext.drew ?_ | with_reducible refine Ext.drewN ?_ _ | with_reducible refine Ext.setCell ?_ (by simp <;> omega) _ | with_reducible refine Ext.trans ?_ (by assumption)))) rfl rfl (by kernel_rfl) (by rfl) (by first | rfl | (go_simp <;> rfl)) ?_
    rintro e wq14 ⟨vq14, rfl, Rq14, Xq14⟩
    have Yq14 := Ext.trans hHeld Xq14
    refine ⟨_, rfl, Yq14, wpAnyH_strong (S' := fun w' => Ext wq14 w') (fun w' h => Ext.trans Yq14 h) _ _ _ _ ?_⟩
    simp only [List.setIfInBounds_toArray, List.set_cons_zero, List.set_cons_succ]
    have Zq14 : Ext w wq14 := Ext.trans (by assumption) Yq14
    clear hHeld Xq14 Yq14
    have hHeld := Ext.refl wq14
    have cvq14 := fun w'' (h : Ext wq14 w'') => conv_bytes (Rq14.bytes.ext h)
    obtain ⟨pq14, cq14, eq14⟩ := Rq14.bytes.form
    subst eq14
    try simp only [List.length_append] at cvq14
    clear Rq14
    first
      | (refine take_at (i := 26) (v := ?_) rfl rfl (by kernel_rfl) (by kernel_rfl) (by kernel_rfl) (fun _ _ _ h => h) (Or.inl ⟨by rfl, ?hy⟩) (by assumption) ?_
         case hy => (intro wz hSw; (try dsimp only at hSw); go_simp <;> with_reducible rfl)
         simp only [List.setIfInBounds_toArray, List.set_cons_zero, List.set_cons_succ])
      | (refine take_at (i := 26) (v := undef) rfl rfl (by kernel_rfl) (by kernel_rfl) (by kernel_rfl) (fun _ _ _ h => h) (Or.inr ⟨by rfl, rfl⟩) (by assumption) ?_
         simp only [List.setIfInBounds_toArray, List.set_cons_zero, List.set_cons_succ])
    first
      | (refine take_at (i := 27) (v := ?_) rfl rfl (by kernel_rfl) (by kernel_rfl) (by kernel_rfl) (fun _ _ _ h => h) (Or.inl ⟨by rfl, ?hy⟩) (by assumption) ?_
         case hy => (intro wz hSw; (try dsimp only at hSw); go_simp <;> with_reducible rfl)
         simp only [List.setIfInBounds_toArray, List.set_cons_zero, List.set_cons_succ])
      | (refine take_at (i := 27) (v := undef) rfl rfl (by kernel_rfl) (by kernel_rfl) (by kernel_rfl) (fun _ _ _ h => h) (Or.inr ⟨by rfl, rfl⟩) (by assumption) ?_
         simp only [List.setIfInBounds_toArray, List.set_cons_zero, List.set_cons_succ])
    first
      | (refine take_at (i := 28) (v := ?_) rfl rfl (by kernel_rfl) (by kernel_rfl) (by kernel_rfl) (fun _ _ _ h => h) (Or.inl ⟨by rfl, ?hy⟩) (by assumption) ?_
         case hy => (intro wz hSw; (try dsimp only at hSw); go_simp <;> with_reducible rfl)
         simp only [List.setIfInBounds_toArray, List.set_cons_zero, List.set_cons_succ])
      | (refine take_at (i := 28) (v := undef) rfl rfl (by kernel_rfl) (by kernel_rfl) (by kernel_rfl) (fun _ _ _ h => h) (Or.inr ⟨by rfl, rfl⟩) (by assumption) ?_
         simp only [List.setIfInBounds_toArray, List.set_cons_zero, List.set_cons_succ])
    first
      | (refine take_at (i := 29) (v := ?_) rfl rfl (by kernel_rfl) (by kernel_rfl) (by kernel_rfl) (fun _ _ _ h => h) (Or.inl ⟨by rfl, ?hy⟩) (by assumption) ?_
         case hy => (intro wz hSw; (try dsimp only at hSw); go_simp <;> with_reducible rfl)
         simp only [List.setIfInBounds_toArray, List.set_cons_zero, List.set_cons_succ])
      | (refine take_at (i := 29) (v := undef) rfl rfl (by kernel_rfl) (by kernel_rfl) (by kernel_rfl) (fun _ _ _ h => h) (Or.inr ⟨by rfl, rfl⟩) (by assumption) ?_
         simp only [List.setIfInBounds_toArray, List.set_cons_zero, List.set_cons_succ])
    first
      | (refine take_at (i := 30) (v := ?_) rfl rfl (by kernel_rfl) (by kernel_rfl) (by kernel_rfl) (fun _ _ _ h => h) (Or.inl ⟨by rfl, ?hy⟩) (by assumption) ?_
         case hy => (intro wz hSw; (try dsimp only at hSw); go_simp <;> with_reducible rfl)
         simp only [List.setIfInBounds_toArray, List.set_cons_zero, List.set_cons_succ])
      | (refine take_at (i := 30) (v := undef) rfl rfl (by kernel_rfl) (by kernel_rfl) (by kernel_rfl) (fun _ _ _ h => h) (Or.inr ⟨by rfl, rfl⟩) (by assumption) ?_
         simp only [List.setIfInBounds_toArray, List.set_cons_zero, List.set_cons_succ])
    refine call_at (i := 31) (F := 7) (live7 _) rfl rfl (by kernel_rfl) (by rfl) (by first | rfl | (go_simp <;> rfl)) ?_
    rintro e wq15 ⟨rfl, Xq15⟩
    have Yq15 := Ext.trans hHeld Xq15
    refine ⟨_, rfl, Yq15, wpAnyH_strong (S' := fun w' => Ext wq15 w') (fun w' h => Ext.trans Yq15 h) _ _ _ _ ?_⟩
    simp only [List.setIfInBounds_toArray, List.set_cons_zero, List.set_cons_succ]
    have Zq15 : Ext w wq15 := Ext.trans (by assumption) Yq15
    clear hHeld Xq15 Yq15
    have hHeld := Ext.refl wq15
    first
      | (refine take_at (i := 32) (v := ?_) rfl rfl (by kernel_rfl) (by kernel_rfl) (by kernel_rfl) (fun _ _ _ h => h) (Or.inl ⟨by rfl, ?hy⟩) (by assumption) ?_
         case hy => (intro wz hSw; (try dsimp only at hSw); go_simp <;> with_reducible rfl)
         simp only [List.setIfInBounds_toArray, List.set_cons_zero, List.set_cons_succ])
      | (refine take_at (i := 32) (v := undef) rfl rfl (by kernel_rfl) (by kernel_rfl) (by kernel_rfl) (fun _ _ _ h => h) (Or.inr ⟨by rfl, rfl⟩) (by assumption) ?_
         simp only [List.setIfInBounds_toArray, List.set_cons_zero, List.set_cons_succ])
    first
      | (refine take_at (i := 33) (v := ?_) rfl rfl (by kernel_rfl) (by kernel_rfl) (by kernel_rfl) (fun _ _ _ h => h) (Or.inl ⟨by rfl, ?hy⟩) (by assumption) ?_
         case hy => (intro wz hSw; (try dsimp only at hSw); go_simp <;> with_reducible rfl)
         simp only [List.setIfInBounds_toArray, List.set_cons_zero, List.set_cons_succ])
      | (refine take_at (i := 33) (v := undef) rfl rfl (by kernel_rfl) (by kernel_rfl) (by kernel_rfl) (fun _ _ _ h => h) (Or.inr ⟨by rfl, rfl⟩) (by assumption) ?_
         simp only [List.setIfInBounds_toArray, List.set_cons_zero, List.set_cons_succ])
    refine wpAnyH_done (by kernel_rfl) ?_ _
    go_wp2
    go_ret
    exact ⟨rfl, by assumption⟩
end Go.Proofs.Ytkikiehgkggfmaa

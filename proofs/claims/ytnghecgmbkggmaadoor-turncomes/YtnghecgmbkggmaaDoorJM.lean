import Derived.Test.YtnghecgmbkggmaaDoorJT
/- The walk of TurnComes. -/
namespace Go.Proofs.YtnghecgmbkggmaaDoor
open Go.RowKit
set_option linter.unusedVariables false
set_option linter.unusedSimpArgs false
set_option maxHeartbeats 4000000
attribute [local go_sem] later_cell later_frozen later_const
theorem info_pF : (Tryd.prog.info? 56).map (fun i => (i.zero, i.size, i.bytes)) = some (some (.pointer none), 1, 8) := by kernel_rfl
def ptrs (fb : Nat → Nat) (k : Nat) : List Value := (List.range k).map fun j => .pointer (some ⟨fb j, 0, none⟩)
theorem ptrs_snoc (fb : Nat → Nat) (k : Nat) : ptrs fb (k + 1) = ptrs fb k ++ [.pointer (some ⟨fb k, 0, none⟩)] := by
  unfold ptrs
  rw [List.range_succ, List.map_append]
  rfl
theorem ptrs_congr {fb fb' : Nat → Nat} {k : Nat} (h : ∀ j, j < k → fb j = fb' j) : ptrs fb k = ptrs fb' k := by
  unfold ptrs
  apply List.map_congr_left
  intro j hj
  rw [h j (by simpa using hj)]
theorem ptrs_at (fb : Nat → Nat) {j k : Nat} (h : j < k) : (ptrs fb k)[j]? = some (.pointer (some ⟨fb j, 0, none⟩)) := by simp [ptrs, h]
/-- a row of frames, in a block apart from them -/
structure Rw (w : World) (v : Value) (fb : Nat → Nat) (k : Nat) : Prop where
  row : w.ownsRow 0 56 1 v k (ptrs fb k)
  ne : ∀ j, j < k → v.ownBlock ≠ some (fb j)
theorem Rw.cell {w : World} {v : Value} {fb : Nat → Nat} {k j : Nat} (h : Rw w v fb k) (hj : j < k) : ∃ g cap, v = .slice (some ⟨g, 0, none⟩) k cap ∧ w.cell? ⟨g, j, none⟩ = some (.pointer (some ⟨fb j, 0, none⟩)) := by
  rcases h.row.2 with ⟨_, e2⟩ | ⟨g, cap, cur, e1, _, h3, h4, h5, h6, h7⟩
  · omega
  · refine ⟨g, cap, e1, ?_⟩
    have hx := ptrs_at fb hj
    rw [← h7, List.getElem?_take] at hx
    split at hx
    · simp only [World.cell?, h3]
      simp only [Array.getElem?_toList] at hx
      simpa using hx
    · cases hx
theorem row_tagP {w : World} {v : Value} {n : Nat} {xs : List Value} (h : w.ownsRow 0 56 1 v n xs) {k : Nat} (hk : v.ownBlock = some k) : Tag w k 56 := by
  rcases h.2 with ⟨e1, _⟩ | ⟨g', cap', cur, e1, _, hgo, _⟩
  · rw [e1] at hk; cases hk
  · rw [e1] at hk; cases hk; exact ⟨_, hgo⟩
/-- a lock's board, a row of frames, the frames from k0 on -/
structure LS (w0 w : World) (b g : Nat) (y : LY) (lv v : Value) (fb : Nat → Nat) (k0 k : Nat) (p o : Nat → Int) (T S L : Nat) : Prop where
  lk : Lk w b g y lv T S L
  rw : Rw w v fb k
  fr : ∀ j, k0 ≤ j → j < k → Fr w b g lv (fb j) (p j) (o j)
  inj : ∀ i j, i < k → j < k → fb i = fb j → i = j
  ex : Ext w0 w
  ob : ∀ k, Own b g lv k → w0.heap.size ≤ k
  of : ∀ j, j < k → w0.heap.size ≤ fb j
  ol : ∀ j, j < k → fb j < w.heap.size
theorem LS.ext {w0 w w' : World} {b g : Nat} {y : LY} {lv v : Value} {fb : Nat → Nat} {k0 k : Nat} {p o : Nat → Int} {T S L : Nat} (h : LS w0 w b g y lv v fb k0 k p o T S L) (hx : Ext w w') : LS w0 w' b g y lv v fb k0 k p o T S L :=
  ⟨h.lk.ext hx, ⟨hx.row h.rw.row, h.rw.ne⟩, fun j h1 h2 => (h.fr j h1 h2).ext hx, h.inj, h.ex.trans hx, h.ob, h.of, fun j hj => Nat.lt_of_lt_of_le (h.ol j hj) hx.size⟩
theorem LS.rowOut {w0 w : World} {b g : Nat} {y : LY} {lv v : Value} {fb : Nat → Nat} {k0 k : Nat} {p o : Nat → Int} {T S L : Nat} (h : LS w0 w b g y lv v fb k0 k p o T S L) {q : Nat} (hq : v.ownBlock = some q) : ¬ Own b g lv q :=
  (h.lk.aside (row_tagP h.rw.row hq) (by decide) (by decide) (by decide)).out
theorem LS.after {w0 w w' : World} {b g : Nat} {y : LY} {lv v : Value} {fb : Nat → Nat} {k0 k0' k i : Nat} {p o p' o' : Nat → Int} {T S L T' S' L' : Nat} {r : Bool} {Pc Ow : Int} {e : Ending} (h : LS w0 w b g y lv v fb k0 k p o T S L) (hi : i < k) (hk : ∀ j, k0' ≤ j → j < k → j ≠ i → k0 ≤ j ∧ p' j = p j ∧ o' j = o j) (hpi : k0' ≤ i → p' i = Pc ∧ o' i = Ow)
    (hD : LkDoes b g (fb i) 0 y lv r T' S' L' Pc Ow w e w') : e = .returned (.bool r) ∧ ∃ lv', LS w0 w' b g y lv' v fb k0' k p' o' T' S' L' := by
  obtain ⟨he, lv', hL, hF, hX, -, hN, hA⟩ := hD
  refine ⟨he, lv', hL, ⟨hN.row h.rw.row (fun q hq hs => hs.elim (h.rowOut hq) (fun e => h.rw.ne i hi (by rw [hq, e]))), h.rw.ne⟩, fun j h1 h2 => ?_, h.inj, But.ext h.ex hN (fun q hq => hq.elim (h.ob q) (fun e => by rw [e]; exact h.of i hi)), own_new h.ob h.ex.size hA, h.of, fun j hj => Nat.lt_of_lt_of_le (h.ol j hj) hN.size⟩
  by_cases e : j = i
  · subst e
    obtain ⟨e1, e2⟩ := hpi h1
    rw [e1, e2]
    exact ⟨hF, hX⟩
  · obtain ⟨h3, e1, e2⟩ := hk j h1 h2 e
    rw [e1, e2]
    exact (h.fr j h3 h2).other hN hA (fun e' => e (h.inj _ _ h2 hi e'))
theorem LS.left {w0 w w' : World} {b g : Nat} {y : LY} {lv v : Value} {fb : Nat → Nat} {k0 k : Nat} {p o : Nat → Int} {T S L T' S' L' : Nat} {e : Ending} (h : LS w0 w b g y lv v fb k0 k p o T S L) (hD : LkLeft b g y lv T' S' L' w e w') : e = .returned (.tuple #[]) ∧ ∃ lv', LS w0 w' b g y lv' v fb k0 k p o T' S' L' := by
  obtain ⟨he, lv', hL, hN, hA⟩ := hD
  exact ⟨he, lv', hL, ⟨hN.row h.rw.row (fun q hq => h.rowOut hq), h.rw.ne⟩, fun j h1 h2 => (h.fr j h1 h2).left hN hA, h.inj, But.ext h.ex hN h.ob, own_new h.ob h.ex.size hA, h.of, fun j hj => Nat.lt_of_lt_of_le (h.ol j hj) hN.size⟩
/-- one more frame, new, behind the row -/
theorem LS.push {w0 w w1 w2 : World} {b g : Nat} {y : LY} {lv v v' : Value} {fb : Nat → Nat} {k : Nat} {p o : Nat → Int} {T S L nb : Nat} (h : LS w0 w b g y lv v fb 0 k p o T S L) (hx : Ext w w1) (hnb : w.heap.size ≤ nb) (hc : w1.heap[nb]? = some (.cells #[.int .i64 0, .int .i64 0, .int .i64 0, .int .i64 0, .int .i64 0, .int .i64 0, .int .u32 0, .int .u32 0, .int .u32 0, .int .u32 0, .slice none 0 0] 51 (0, 0)))
    (hr : w2.ownsRow 0 56 1 v' (k + 1) (ptrs fb k ++ [.pointer (some ⟨nb, 0, none⟩)])) (hg : w1.grownBy w2 v.ownBlock) (hat : v'.ownBlock = v.ownBlock ∨ v'.ownBlock = some w1.heap.size) (hb : ∀ q, v.ownBlock = some q → w0.heap.size ≤ q) :
    LS w0 w2 b g y lv v' (fun j => if j = k then nb else fb j) 0 (k + 1) (fun j => if j = k then 0 else p j) (fun j => if j = k then 0 else o j) T S L ∧ (∀ q, v'.ownBlock = some q → w0.heap.size ≤ q) := by
  have h1 := h.ext hx
  have B2 := but_grown hg
  have hn1 : nb < w1.heap.size := (Array.getElem?_eq_some_iff.1 hc).1
  have rt := fun q (hq : v.ownBlock = some q) => row_tagP h1.rw.row hq
  have nrow : v.ownBlock ≠ some nb := fun e => tag_ne (rt nb e) ⟨_, hc⟩ (by decide) rfl
  have hL2 : Lk w2 b g y lv T S L := h1.lk.but B2 (fun q hq e => h1.rowOut e hq) (fun q hq _ => ⟨_, rt q hq, by decide, by decide⟩)
  have hbig : ∀ j, j < k → fb j ≠ nb := fun j hj e => by have := h.ol j hj; omega
  have pe : ptrs fb k ++ [.pointer (some ⟨nb, 0, none⟩)] = ptrs (fun j => if j = k then nb else fb j) (k + 1) := by
    rw [ptrs_snoc, ptrs_congr (fb' := fun j => if j = k then nb else fb j) (fun j hj => by rw [if_neg (by omega)])]
    simp
  refine ⟨⟨hL2, ⟨by rw [← pe]; exact hr, fun j hj => ?_⟩, fun j _ hj => ?_, fun i j hi hj e => ?_, ?_, h.ob, fun j hj => ?_, fun j hj => ?_⟩, fun q hq => ?_⟩
  · by_cases e : j = k
    · simp only [e, if_true]
      rcases hat with e' | e'
      · rw [e']; exact nrow
      · rw [e']; intro e2; have := Option.some.inj e2; omega
    · simp only [if_neg e]
      have h3 := h1.ol j (by omega)
      rcases hat with e' | e'
      · rw [e']; exact h.rw.ne j (by omega)
      · rw [e']; intro e2; have := Option.some.inj e2; omega
  · by_cases e : j = k
    · simp only [e, if_true]
      exact fr_new (w := w) hL2 (B2.heap hc nrow)
    · simp only [if_neg e]
      have h3 := h1.fr j (Nat.zero_le _) (by omega)
      exact ⟨h3.F.but B2 (h.rw.ne j (by omega)), ⟨h3.X.out, Nat.lt_of_lt_of_le h3.X.lt B2.size⟩⟩
  · by_cases e1 : i = k
    · by_cases e2 : j = k
      · omega
      · simp only [e1, if_true, if_neg e2] at e
        exact absurd e.symm (hbig j (by omega))
    · by_cases e2 : j = k
      · simp only [e2, if_true, if_neg e1] at e
        exact absurd e (hbig i (by omega))
      · simp only [if_neg e1, if_neg e2] at e
        exact h.inj i j (by omega) (by omega) e
  · exact But.ext h1.ex B2 hb
  · by_cases e : j = k
    · simp only [e, if_true]
      have := h.ex.size
      omega
    · simp only [if_neg e]
      exact h.of j (by omega)
  · by_cases e : j = k
    · simp only [e, if_true]
      exact Nat.lt_of_lt_of_le hn1 B2.size
    · simp only [if_neg e]
      exact Nat.lt_of_lt_of_le (h1.ol j (by omega)) B2.size
  · rcases hat with e' | e'
    · exact hb q (by rw [← e']; exact hq)
    · rw [e'] at hq
      have e2 := Option.some.inj hq
      have := h1.ex.size
      omega
set_option maxRecDepth 100000 in
theorem turnComes_walk (k0 : Int) (w : World) (wk : (Lit.int .u8 k0).wf = true) (E : Parts w) :
    Calls Tryd.prog 5 #[.int .u8 k0] w fun e w' => e = .returned (.bool true) ∧ Below w.heap.size w w' := by
  obtain ⟨n, hn, hn2⟩ : ∃ n : Nat, n < 200 ∧ k0 % 200 = (n : Int) := ⟨(k0 % 200).toNat, by omega, by omega⟩
  have HE := Lib.hid (fun w' (hx : Ext w w') => E.ext hx)
  have CV := Lib.hid (fun w' (hx : Ext w w') => live18 w' (E.ext hx))
  obtain ⟨hk1, hk2⟩ : 0 ≤ k0 ∧ k0 < 256 := by simp [Lit.wf, IntKind.min, IntKind.max, IntKind.signed, IntKind.bits] at wk; omega
  obtain ⟨i0, hi, hz0, hz1, hz2⟩ := info_parts info_pF
  clear E wk
  go_enter Tryd.func5, Tryd.ntmps5
  go_upto_region 2 with (fail)
  rw [hn2]
  clear hn2
  go_wp2_with fail
  refine (locked _).mono ?_
  rintro e w1 ⟨b, g, y, rfl, Y, L1, X1, hb1, hg1⟩
  have HY := Lib.hid Y
  have H0 : Hid (LS w w1 b g y (.slice none 0 0) (.slice none 0 0) (fun _ => 0) 0 0 (fun _ => 1) (fun j => j) 0 0 0) := Lib.hid ⟨L1, ⟨World.ownsRow_nil _ _ _ _, fun j hj => by omega⟩, fun j _ hj => by omega, fun i j hi => by omega, X1, ownGe hb1 hg1, fun j hj => by omega, fun j hj => by omega⟩
  clear L1 X1 hb1 hg1 Y
  go_wp2
  go_loopw [5, 6] (fun v i wr => ∃ k : Nat, k ≤ n + 1 ∧ i = .int .i64 k ∧ ∃ lv fb, LS w wr b g y lv v fb 0 k (fun _ => 1) (fun j => j) k 0 k ∧ (∀ q, v.ownBlock = some q → w.heap.size ≤ q)) (fun _ i _ => n + 1 - (intOf i).toNat)
  case atStart => exact ⟨0, Nat.zero_le _, rfl, _, _, H0.out, fun q hq => by cases hq⟩
  case round =>
    obtain ⟨k, hk, rfl, lv, fb, hS, hq⟩ := hrel
    obtain ⟨vr, hvr⟩ : ∃ vr, vr = u5 := ⟨_, rfl⟩
    rw [← hvr] at hS hq ⊢
    clear hvr
    by_cases hlt : k ≤ n
    · have hkn : (k : Int) ≤ (n : Int) := by omega
      have HS := Lib.hid hS
      have HQ := Lib.hid hq
      clear hS hq
      go_wp2_with (at_builtin; refine wpList_append_own_at _ rfl _ _ 58 rfl 0 56 i0 (.pointer none) 1 8 Tryd.underlying58 hi hz0 hz1 hz2 rfl (by decide) vr k (ptrs fb k) rfl ((((Ext.refl wr).alloc _).alloc _).row HS.out.rw.row) ⟨wr.heap.size + 1, 0, none⟩ 1 1 [.pointer (some ⟨wr.heap.size, 0, none⟩)] rfl rfl ?c1 ?c2 ?c3 ?c4 ?c5 ?_)
      case c1 =>
        intro j u hu
        match j, hu with
        | 0, hu => simp at hu; subst hu; simp [go_sem, Addr.add]
        | j + 1, hu => simp at hu
      case c2 => intro u hu; simp at hu; subst hu; rfl
      case c3 => unfold maxLen; omega
      case c4 => omega
      case c5 => exact Nat.zero_le _
      intro v4 w4 R4 G4 _ A4
      have hnew : ((wr.alloc (.cells #[.int .i64 0, .int .i64 0, .int .i64 0, .int .i64 0, .int .i64 0, .int .i64 0, .int .u32 0, .int .u32 0, .int .u32 0, .int .u32 0, .slice none 0 0] 51)).alloc (.cells #[.pointer (some ⟨wr.heap.size, 0, none⟩)] 56)).heap[wr.heap.size]? = some (.cells #[.int .i64 0, .int .i64 0, .int .i64 0, .int .i64 0, .int .i64 0, .int .i64 0, .int .u32 0, .int .u32 0, .int .u32 0, .int .u32 0, .slice none 0 0] 51 (0, 0)) :=
        (((Ext.refl _).alloc _).block _ (by simp)).trans (World.alloc_heap_new wr _)
      obtain ⟨hS4, hq4⟩ := HS.out.push (((Ext.refl wr).alloc _).alloc _) (Nat.le_refl _) hnew R4 G4 (A4.imp id (fun h => by simpa using h)) HQ.out
      obtain ⟨gq, cq, ev, c4⟩ := hS4.rw.cell (j := k) (by omega)
      simp only [if_true] at c4
      have F4 := hS4.fr k (Nat.zero_le _) (by omega)
      simp only [if_true] at F4
      have HF4 := Lib.hid F4
      have HS4 := Lib.hid hS4
      have HQ4 := Lib.hid hq4
      have hk1 : (k : Int) < ((k + 1 : Nat) : Int) := by omega
      subst ev
      generalize hfk : wr.heap.size = fk at *
      clear R4 G4 A4 hnew hS4 hq4 F4 HS HQ
      go_wp2_with fail
      refine (lk_take b g fk 0 y lv _ _ k 0 k w4 HY.out HS4.out.lk (HE.out _ HS4.out.ex) HF4.out.F HF4.out.X (by omega) (by omega)).mono ?_
      intro e w5 hD
      obtain ⟨rfl, lv5, hS5⟩ := HS4.out.after (i := k) (k0' := 0) (p' := fun _ => 1) (o' := fun j => j) (by omega) (fun j _ hj hne => ⟨Nat.zero_le _, by simp [hne], by simp [hne]⟩) (fun _ => ⟨rfl, rfl⟩) (by simpa using hD)
      have HS5 := Lib.hid hS5
      clear hD hS5 c4
      go_wp2
      exact ⟨⟨k + 1, by omega, by go_num, lv5, _, HS5.out, HQ4.out⟩, by simp [intOf]; omega⟩
    · obtain rfl : k = n + 1 := by omega
      have hkn : ¬ ((n + 1 : Nat) : Int) ≤ (n : Int) := by omega
      have HS := Lib.hid hS
      obtain ⟨gq, cq, ev, -⟩ := hS.rw.cell (j := 0) (by omega)
      clear hS hq
      subst ev
      go_wp2
      go_loopw [7] (fun i wr2 => ∃ m : Nat, m ≤ n + 1 ∧ i = .int .i64 m ∧ ∃ lv L, L ≤ n + 1 + 3 * m ∧ LS w wr2 b g y lv (.slice (some ⟨gq, 0, none⟩) (n + 1) cq) fb m (n + 1) (fun _ => 1) (fun j => j) (n + 1) m L) (fun i _ => n + 1 - (intOf i).toNat)
      case atStart => exact ⟨0, Nat.zero_le _, rfl, lv, n + 1, by omega, HS.out⟩
      case round =>
        obtain ⟨m, hm, rfl, lv2, L, hL, hS2⟩ := hrel
        by_cases hle : m ≤ n
        · have hmn : (m : Int) ≤ (n : Int) := by omega
          have hmn1 : (m : Int) < ((n + 1 : Nat) : Int) := by omega
          have hnn1 : (n : Int) < ((n + 1 : Nat) : Int) := by omega
          have HS2 := Lib.hid hS2
          clear hS2 HS
          go_wp2_with fail
          refine (lk_waiting b g y lv2 (n + 1) m L _ HY.out HS2.out.lk (HE.out _ HS2.out.ex) (by omega) (by omega)).mono ?_
          rintro e w3 ⟨rfl, X3⟩
          have HS3 := Lib.hid (HS2.out.ext X3)
          clear X3 HS2
          have hsame : (((n + 1 : Nat) : Int) - (m : Int)) = (n : Int) + 1 - m := by omega
          rw [hsame]
          obtain ⟨gq', cq', ev, cn⟩ := HS3.out.rw.cell (j := n) (by omega)
          obtain ⟨rfl, rfl⟩ : gq' = gq ∧ cq' = cq := by cases ev; exact ⟨rfl, rfl⟩
          obtain ⟨gq2, cq2, ev2, cm⟩ := HS3.out.rw.cell (j := m) (by omega)
          obtain ⟨rfl, rfl⟩ : gq2 = gq' ∧ cq2 = cq' := by cases ev2; exact ⟨rfl, rfl⟩
          clear ev ev2
          have HIN : Hid (∀ lv L wx, L ≤ n + 1 + 3 * m + 1 → LS w wx b g y lv (.slice (some ⟨gq2, 0, none⟩) (n + 1) cq2) fb m (n + 1) (fun _ => 1) (fun j => j) (n + 1) m L → Calls Tryd.prog 20 #[.pointer (some ⟨b, 0, none⟩), .int .i64 m, .pointer (some ⟨fb m, 0, none⟩)] wx fun e w' => e = .returned (.bool true) ∧ ∃ lv', LS w w' b g y lv' (.slice (some ⟨gq2, 0, none⟩) (n + 1) cq2) fb (m + 1) (n + 1) (fun _ => 1) (fun j => j) (n + 1) m (L + 1)) := Lib.hid (fun lv L wx hL h => by
            refine (lk_in b g (fb m) 0 y lv m 1 (n + 1) m L wx HY.out h.lk (HE.out _ h.ex) (h.fr m (Nat.le_refl _) (by omega)).F (h.fr m (Nat.le_refl _) (by omega)).X (by decide) (by omega) (by omega)).mono ?_
            intro e w' hD
            exact h.after (i := m) (k0' := m + 1) (by omega) (fun j h1 h2 _ => ⟨by omega, rfl, rfl⟩) (fun h1 => by omega) hD)
          by_cases hlt2 : m < n
          · have dl : (m : Int) < (n : Int) := by omega
            go_wp2_with fail
            refine (lk_wait b g (fb n) 0 y lv2 n 1 (n + 1) m L n _ HY.out HS3.out.lk (HE.out _ HS3.out.ex) (HS3.out.fr n (by omega) (by omega)).F (HS3.out.fr n (by omega) (by omega)).X (by decide) (by omega) (by omega) (by omega)).mono ?_
            intro e w4 hD
            obtain ⟨rfl, lv4, hS4⟩ := HS3.out.after (i := n) (k0' := m) (p' := fun _ => 1) (o' := fun j => j) (by omega) (fun j h1 h2 _ => ⟨h1, rfl, rfl⟩) (fun _ => ⟨rfl, rfl⟩) hD
            have HS4 := Lib.hid hS4
            obtain ⟨_, _, ev, cm4⟩ := hS4.rw.cell (j := m) (by omega)
            cases ev
            clear hD hS4 HS3 cn cm
            go_wp2_with fail
            refine (HIN.out lv4 (L + 1) _ (by omega) HS4.out).mono ?_
            rintro e w5 ⟨rfl, lv5, hS5⟩
            have HS5 := Lib.hid hS5
            clear hS5 HS4 cm4
            go_wp2_with fail
            refine (lk_leave b g y lv5 m (n + 1) m (L + 1 + 1) _ HY.out HS5.out.lk (HE.out _ HS5.out.ex) (by omega) (by omega)).mono ?_
            intro e w6 hD
            obtain ⟨rfl, lv6, hS6⟩ := HS5.out.left hD
            have HS6 := Lib.hid hS6
            clear hD hS6 HS5
            go_wp2
            exact ⟨⟨m + 1, by omega, by go_num, lv6, _, by omega, HS6.out⟩, by simp [intOf]; omega⟩
          · obtain rfl : m = n := by omega
            have dl : ¬ (m : Int) < (m : Int) := by omega
            go_wp2_with fail
            refine (HIN.out lv2 L _ (by omega) HS3.out).mono ?_
            rintro e w5 ⟨rfl, lv5, hS5⟩
            have HS5 := Lib.hid hS5
            clear hS5 HS3 cn cm
            go_wp2_with fail
            refine (lk_leave b g y lv5 m (m + 1) m (L + 1) _ HY.out HS5.out.lk (HE.out _ HS5.out.ex) (by omega) (by omega)).mono ?_
            intro e w6 hD
            obtain ⟨rfl, lv6, hS6⟩ := HS5.out.left hD
            have HS6 := Lib.hid hS6
            clear hD hS6 HS5
            go_wp2
            exact ⟨⟨m + 1, by omega, by go_num, lv6, _, by omega, HS6.out⟩, by simp [intOf] <;> omega⟩
        · obtain rfl : m = n + 1 := by omega
          have hmn : ¬ ((n + 1 : Nat) : Int) ≤ (n : Int) := by omega
          have HS2 := Lib.hid hS2
          clear hS2 HS
          go_wp2_with fail
          refine (lk_waiting b g y lv2 (n + 1) (n + 1) L _ HY.out HS2.out.lk (HE.out _ HS2.out.ex) (by omega) (by omega)).mono ?_
          rintro e w3 ⟨rfl, X3⟩
          rw [show (((n + 1 : Nat) : Int) - ((n + 1 : Nat) : Int)) = 0 by omega]
          have HX3 := Lib.hid (HS2.out.ex.trans X3)
          clear X3 HS2
          go_wp2_with fail
          refine (CV.out _ HX3.out).mono ?_
          rintro e w4 ⟨rfl, X4⟩
          have HX4 := Lib.hid (HX3.out.trans X4)
          clear X4
          go_wp2
          go_ret
          exact ⟨rfl, Ext.below HX4.out⟩
end Go.Proofs.YtnghecgmbkggmaaDoor

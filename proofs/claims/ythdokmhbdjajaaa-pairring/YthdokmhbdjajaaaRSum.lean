/- The document's Sum of layer 4. -/
import Derived.Test.YthdokmhbdjajaaaMade
namespace Go.Proofs.Ythdokmhbdjajaaa
open Go.RowKit
set_option linter.unusedVariables false
set_option maxHeartbeats 2000000
attribute [local go_sem] later_cell later_frozen later_const
/-- a block of three cells of the call's own: two numbers -/
structure SBox (w : World) (b : Nat) (x y : Int) : Prop where
  c0 : w.cell? ⟨b, 0, none⟩ = some (.int .i64 x)
  c1 : w.cell? ⟨b, 1, none⟩ = some (.int .i64 y)
  c2 : w.cell? ⟨b, 2, none⟩ = some (.bool false)
  f0 : w.frozen? ⟨b, 0, none⟩ = false
  f1 : w.frozen? ⟨b, 1, none⟩ = false
  f2 : w.frozen? ⟨b, 2, none⟩ = false
theorem SBox.ext {w w' : World} {b : Nat} {x y : Int} (h : SBox w b x y) (hx : Ext w w') : SBox w' b x y :=
  ⟨hx.cell h.c0, hx.cell h.c1, hx.cell h.c2, hx.frozen h.c0 h.f0, hx.frozen h.c1 h.f1, hx.frozen h.c2 h.f2⟩
theorem SBox.set0 {w : World} {b : Nat} {x y : Int} (h : SBox w b x y) (z : Int) : SBox (w.setCell ⟨b, 0, none⟩ (.int .i64 z)) b z y := by
  obtain ⟨c0, c1, c2, f0, f1, f2⟩ := h
  constructor <;> simp [go_sem, c0, c1, c2, f0, f1, f2]
theorem SBox.set1 {w : World} {b : Nat} {x y : Int} (h : SBox w b x y) (z : Int) : SBox (w.setCell ⟨b, 1, none⟩ (.int .i64 z)) b x z := by
  obtain ⟨c0, c1, c2, f0, f1, f2⟩ := h
  constructor <;> simp [go_sem, c0, c1, c2, f0, f1, f2]
theorem SBox.off {w : World} {b b' : Nat} {x y : Int} (h : SBox w b x y) (hne : b' ≠ b) (o : Nat) (z : Value) : SBox (w.setCell ⟨b', o, none⟩ z) b x y := by
  obtain ⟨c0, c1, c2, f0, f1, f2⟩ := h
  have hne' : b ≠ b' := fun e => hne e.symm
  constructor
  · simp [go_sem, c0]
  · simp [go_sem, c1]
  · simp [go_sem, c2]
  · simp [go_sem, f0]
  · simp [go_sem, f1]
  · simp [go_sem, f2]
theorem rowP_get (zs : List (Int × Int)) (n k : Nat) (hn : n ≤ zs.length) (h : k < n) : (rowP zs n)[k * 3]? = some (.int .i64 (cl (zs.getD k (0, 0))).1) ∧ (rowP zs n)[k * 3 + 1]? = some (.int .i64 (cl (zs.getD k (0, 0))).2) := by
  have hlen : ∀ n, n ≤ zs.length → (rowP zs n).length = n * 3 := by
    intro n
    induction n with
    | zero => intro _; simp [rowP]
    | succ n ih =>
      intro hn
      rw [rowP_snoc zs n hn, List.length_append, ih (by omega)]
      simp [pV]; omega
  induction n with
  | zero => omega
  | succ n ih =>
    rw [rowP_snoc zs n hn]
    have hl := hlen n (by omega)
    by_cases hk : k < n
    · have := ih (by omega) hk
      rw [List.getElem?_append_left (by omega), List.getElem?_append_left (by omega)]
      exact this
    · have e : k = n := by omega
      subst e
      rw [List.getElem?_append_right (by omega), List.getElem?_append_right (by omega), hl]
      simp [pV]
/-- a slice of the document's pairs -/
def PsAt (w : World) (v : Value) (xs : List (Int × Int)) : Prop :=
  (v = .slice none 0 0 ∧ xs = []) ∨ ∃ b cap, v = .slice (some ⟨b, 0, none⟩) xs.length cap ∧ ∀ k, k < xs.length → w.cell? ⟨b, k * 3, none⟩ = some (.int .i64 (xs.getD k (0, 0)).1) ∧ w.cell? ⟨b, k * 3 + 1, none⟩ = some (.int .i64 (xs.getD k (0, 0)).2)
theorem ps_of_row {w : World} {base e : Nat} {v : Value} {zs : List (Int × Int)} (h : w.ownsRow base e 3 v zs.length (rowP zs zs.length)) : PsAt w v (zs.map cl) := by
  have hl := h.1
  rcases h.2 with ⟨h1, h2⟩ | ⟨g, cap, cur, h1, hb, hg, hc, hm, hs, ht⟩
  · exact .inl ⟨h1, by simpa using h2⟩
  · refine .inr ⟨g, cap, by simpa using h1, fun k hk => ?_⟩
    subst h1
    have hk' : k < zs.length := by simpa using hk
    have g1 := rowP_get zs zs.length k (Nat.le_refl _) hk'
    have e : (zs.map cl).getD k (0, 0) = cl (zs.getD k (0, 0)) := by simp [hk']
    rw [e]
    exact ⟨(h.cellAt (k * 3) (by omega)).trans g1.1, (h.cellAt (k * 3 + 1) (by omega)).trans g1.2⟩
def AllIn (xs : List (Int × Int)) : Prop := ∀ p ∈ xs, inB p.1 = true ∧ inB p.2 = true
theorem allIn_cl (zs : List (Int × Int)) : AllIn (zs.map cl) := by
  intro p hp
  simp at hp
  obtain ⟨a, b, _, rfl⟩ := hp
  exact cl_in _
def SumDoes (w : World) (xs : List (Int × Int)) (e : Ending) (w' : World) : Prop :=
  ((Way xs ∧ e = .returned (.agg #[.int .i64 (sumA xs), .int .i64 (sumB xs), .bool false])) ∨ (¬ Way xs ∧ e = .returned (.agg #[.int .i64 0, .int .i64 0, .bool false]))) ∧ Ext w w'
theorem way_nil : Way [] := by
  intro k hk
  have : k = 0 := by simpa using hk
  subst this
  exact ⟨rfl, rfl⟩
theorem way_at0 (xs : List (Int × Int)) (j : Nat) (hj : j ≤ 0) : inB (sumA (xs.take j)) = true ∧ inB (sumB (xs.take j)) = true := by
  have : j = 0 := by omega
  subst this
  exact ⟨rfl, rfl⟩
theorem way_on (xs : List (Int × Int)) (k : Nat) (h : ∀ j, j ≤ k → inB (sumA (xs.take j)) = true ∧ inB (sumB (xs.take j)) = true) (h1 : inB (sumA (xs.take (k + 1))) = true) (h2 : inB (sumB (xs.take (k + 1))) = true) : ∀ j, j ≤ k + 1 → inB (sumA (xs.take j)) = true ∧ inB (sumB (xs.take j)) = true := by
  intro j hj
  by_cases e : j = k + 1
  · subst e; exact ⟨h1, h2⟩
  · exact h j (by omega)
theorem sum_none {w w' : World} {xs : List (Int × Int)} (k : Nat) (hk : k ≤ xs.length) (h : inB (sumA (xs.take k)) = false ∨ inB (sumB (xs.take k)) = false) (hx : Ext w w') : SumDoes w xs (.returned (.agg #[.int .i64 0, .int .i64 0, .bool false])) w' := by
  refine ⟨.inr ⟨fun hw => ?_, rfl⟩, hx⟩
  have := hw k hk
  rcases h with h | h
  · rw [h] at this; exact absurd this.1 (by decide)
  · rw [h] at this; exact absurd this.2 (by decide)
theorem rSum4 (v : Value) (xs : List (Int × Int)) (w : World) (h : PsAt w v xs) (hl : xs.length ≤ 1000) (hin : AllIn xs) : Calls Try.prog 20 #[v] w (SumDoes w xs) := by
  rcases h with ⟨rfl, rfl⟩ | ⟨b, cap, rfl, hz⟩
  · have hd : SumDoes w [] (.returned (.agg #[.int .i64 0, .int .i64 0, .bool false])) = fun w' => Ext w w' := by
      funext w'
      unfold SumDoes
      simp [way_nil, sumA, sumB]
    have HD := Lib.hid hd
    clear hd
    go_enter Try.func20, Try.ntmps20
    go_wp2
    refine wp_loop_rounds 1 ?_
    rw [rounds_succ]
    go_wp2
    refine bodyPost_ret (v := .agg #[.int .i64 0, .int .i64 0, .bool false]) (by simp [results, Try.results20, go_sem]) rfl ?_
    rw [HD.out]
    repeat (first | with_reducible exact Ext.refl _ | with_reducible assumption | with_reducible refine Ext.alloc ?_ _ | with_reducible refine Ext.drew ?_ | with_reducible refine Ext.drewN ?_ _ | with_reducible refine Ext.setCell ?_ (by simp <;> omega) _ | with_reducible refine Ext.trans ?_ (by assumption))
  · have HZ := Lib.hid hz
    have HI := Lib.hid hin
    obtain ⟨n, hn⟩ : ∃ n, n = xs.length := ⟨_, rfl⟩
    rw [← hn]
    have HN := Lib.hid hn
    have hl2 : n ≤ 1000 := by omega
    clear hn hl hz hin
    go_enter Try.func20, Try.ntmps20
    go_wp2
    refine settle_wp ?_
    intro w1 hb1
    have b2 : SBox w1 w.heap.size 0 0 := by constructor <;> first | exact (hb1.cells.1 _ _ (by simp <;> omega)).trans (by simp [go_sem]) | exact (hb1.cells.2 _ _ (by simp <;> omega)).trans (by simp [go_sem])
    have b3 : SBox w1 (w.heap.size + 1) 0 0 := by constructor <;> first | exact (hb1.cells.1 _ _ (by simp <;> omega)).trans (by simp [go_sem]) | exact (hb1.cells.2 _ _ (by simp <;> omega)).trans (by simp [go_sem])
    have X1 : Ext w w1 := by repeat (first | with_reducible exact Ext.refl _ | with_reducible assumption | with_reducible refine Ext.alloc ?_ _ | with_reducible refine Ext.drew ?_ | with_reducible refine Ext.drewN ?_ _ | with_reducible refine Ext.setCell ?_ (by simp <;> omega) _ | with_reducible refine Ext.trans ?_ (by assumption))
    clear hb1
    go_loopw [4] (fun i wr => ∃ k : Nat, k ≤ n ∧ i = .int .i64 k ∧ SBox wr w.heap.size 0 0 ∧ SBox wr (w.heap.size + 1) (sumA (xs.take k)) (sumB (xs.take k)) ∧ Ext w wr ∧ Hid (∀ j, j ≤ k → inB (sumA (xs.take j)) = true ∧ inB (sumB (xs.take j)) = true)) (fun i _ => n - (intOf i).toNat)
    case atStart => exact ⟨0, Nat.zero_le _, rfl, b2, b3, X1, Lib.hid fun j hj => way_at0 xs j hj⟩
    case round =>
      obtain ⟨k, hk, rfl, B2, B3, hx, HA⟩ := hrel
      clear b2 b3 X1
      by_cases hlt : k < n
      · have hkx : k < xs.length := by have := HN.out; omega
        have hp : xs.getD k (0, 0) ∈ xs := by simp [hkx]
        have hi1 := (HI.out _ hp).1
        have hi2 := (HI.out _ hp).2
        rw [inB_iff] at hi1 hi2
        have c0 := hx.cell (HZ.out k hkx).1
        have c1 := hx.cell (HZ.out k hkx).2
        have hzw := Lib.hid (HZ.out k hkx)
        have gb : b < w.heap.size := World.block_lt_of_cell? w ⟨b, k * 3, none⟩ (HZ.out k hkx).1
        have S1 := sumA_snoc xs k hkx
        have S2 := sumB_snoc xs k hkx
        have hA := (HA.out k (Nat.le_refl _)).1
        have hB := (HA.out k (Nat.le_refl _)).2
        rw [inB_iff] at hA hB
        generalize xs.getD k (0, 0) = q at *
        generalize sumA (xs.take k) = sa at *
        generalize sumB (xs.take k) = sb at *
        have HS1 := Lib.hid S1
        have HS2 := Lib.hid S2
        have hkn : (k : Int) < (n : Int) := by omega
        clear S1 S2 hp hkx
        have t0 := B3.c0
        have t1 := B3.c1
        go_wp2
        refine wp_region_later_tail 9 (by kernel_rfl) (by kernel_rfl) ?_
        simp only [List.take_succ_cons, List.take_zero, List.drop_succ_cons, List.drop_zero]
        have l0 := fun (g : Later wr) => g.ok.cell c0
        have l1 := fun (g : Later wr) => g.ok.cell t0
        repeat (go_big_quiet_step ((fail)))
        refine wpQuiet_nil ?_
        intro w6 hl6
        have X6 := laters_ext hl6
        clear hl6 l0 l1
        have C3 := B3.ext X6
        have C2 := B2.ext X6
        have t2 := C3.c0
        have t3 := C3.f0
        go_wp2
        have D3 := C3.set0 (sa + q.1)
        have D2 := C2.off (b' := w.heap.size + 1) (by omega) 0 (.int .i64 (sa + q.1))
        have X7 : Ext w (w6.setCell ⟨w.heap.size + 1, 0, none⟩ (.int .i64 (sa + q.1))) := (hx.trans X6).setCell (by simp) _
        clear B3 B2 C3 C2 c0 c1 t0 t1 t2 t3 X6 hx
        generalize w6.setCell ⟨w.heap.size + 1, 0, none⟩ (.int .i64 (sa + q.1)) = w7 at *
        have c1 := X7.cell hzw.out.2
        have t0 := D3.c0
        have t1 := D3.c1
        refine wp_region_later_tail 9 (by kernel_rfl) (by kernel_rfl) ?_
        simp only [List.take_succ_cons, List.take_zero, List.drop_succ_cons, List.drop_zero]
        have l0 := fun (g : Later w7) => g.ok.cell c1
        have l1 := fun (g : Later w7) => g.ok.cell t1
        repeat (go_big_quiet_step ((fail)))
        refine wpQuiet_nil ?_
        intro w8 hl8
        have X8 := laters_ext hl8
        clear hl8 l0 l1
        have C3 := D3.ext X8
        have C2 := D2.ext X8
        have t2 := C3.c1
        have t3 := C3.f1
        have t4 := C3.c0
        go_wp2_with fail
        have E3 := C3.set1 (sb + q.2)
        have E2 := C2.off (b' := w.heap.size + 1) (by omega) 1 (.int .i64 (sb + q.2))
        have X9 : Ext w (w8.setCell ⟨w.heap.size + 1, 1, none⟩ (.int .i64 (sb + q.2))) := (X7.trans X8).setCell (by simp) _
        clear D3 D2 C3 C2 c1 t0 t1 t2 t3 X8 X7
        generalize w8.setCell ⟨w.heap.size + 1, 1, none⟩ (.int .i64 (sb + q.2)) = w9 at *
        clear t4
        have t4 := E3.c0
        have t5 := E3.c1
        refine (count4 _ _).mono ?_
        rintro e w' ⟨rfl, rfl⟩
        cases ha : inB (sa + q.1)
        · have r0 := E2.c0
          have r1 := E2.c1
          have r2 := E2.c2
          have r3 := E2.f0
          have r4 := E2.f1
          have r5 := E2.f2
          go_wp2
          refine bodyPost_ret (v := .agg #[.int .i64 0, .int .i64 0, .bool false]) (by simp [results, Try.results20, go_sem, r0, r1, r2]) rfl ?_
          refine sum_none (k + 1) (by have := HN.out; omega) (.inl (by rw [HS1.out]; exact ha)) ?_
          exact ((X9.setCell (by simp) _).setCell (by simp) _).setCell (by simp) _
        · go_wp2_with fail
          refine (count4 _ _).mono ?_
          rintro e w' ⟨rfl, rfl⟩
          cases hb : inB (sb + q.2)
          · have r0 := E2.c0
            have r1 := E2.c1
            have r2 := E2.c2
            have r3 := E2.f0
            have r4 := E2.f1
            have r5 := E2.f2
            go_wp2
            refine bodyPost_ret (v := .agg #[.int .i64 0, .int .i64 0, .bool false]) (by simp [results, Try.results20, go_sem, r0, r1, r2]) rfl ?_
            refine sum_none (k + 1) (by have := HN.out; omega) (.inr (by rw [HS2.out]; exact hb)) ?_
            exact ((X9.setCell (by simp) _).setCell (by simp) _).setCell (by simp) _
          · rw [← HS1.out] at ha E3
            rw [← HS2.out] at hb E3
            have HA2 := Lib.hid (way_on xs k HA.out ha hb)
            clear ha hb HA
            go_wp2
            exact ⟨⟨k + 1, by omega, by go_num, E2, E3, X9, HA2⟩, by simp [intOf]; omega⟩
      · have e : xs.take k = xs := List.take_of_length_le (by have := HN.out; omega)
        rw [e] at B3
        have hw : Way xs := fun j hj => HA.out j (by have := HN.out; omega)
        have HW := Lib.hid hw
        clear e hw
        have t0 := B3.c0
        have t1 := B3.c1
        have t2 := B3.c2
        have r0 := B2.c0
        have r1 := B2.c1
        have r2 := B2.c2
        have r3 := B2.f0
        have r4 := B2.f1
        have r5 := B2.f2
        go_wp2
        refine bodyPost_ret (v := .agg #[.int .i64 (sumA xs), .int .i64 (sumB xs), .bool false]) (by simp [results, Try.results20, go_sem, r0, r1, r2]) rfl ⟨.inl ⟨HW.out, rfl⟩, ?_⟩
        exact ((hx.setCell (by simp) _).setCell (by simp) _).setCell (by simp) _
end Go.Proofs.Ythdokmhbdjajaaa

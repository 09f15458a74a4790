/- The library's insertion sort of a few numbers; graph's Order. -/
import Derived.Test.YtlalkefbcddbfaaDoorGrO
namespace Go.Proofs.YtlalkefbcddbfaaDoor
open Go.RowKit
set_option linter.unusedVariables false
set_option maxHeartbeats 1000000
attribute [local go_sem] later_cell later_frozen later_const
def listI (L : List Nat) : List Int := L.map fun (i : Nat) => (i : Int)
theorem listI_len (L : List Nat) : (listI L).length = L.length := by simp [listI]
theorem RI.cells {w : World} {base g n cap : Nat} {L : List Nat} (h : RI w base (.slice (some ⟨g, 0, none⟩) n cap) (listI L)) {j x : Nat} (hj : L[j]? = some x) : w.cell? ⟨g, j, none⟩ = some (.int .i64 (x : Int)) ∧ w.frozen? ⟨g, j, none⟩ = false := by
  obtain ⟨a, cp, e, hf⟩ := h.ints.form
  cases e
  have hl : j < L.length := (List.getElem?_eq_some_iff.1 hj).1
  obtain ⟨b, off, e, hc⟩ := hf j (by rw [listI_len]; exact hl)
  cases e
  rw [Nat.zero_add] at hc
  have hv : (listI L).getD j 0 = (x : Int) := by
    unfold listI
    rw [List.getD_eq_getElem?_getD, List.getElem?_map, hj]
    rfl
  rw [hv] at hc
  refine ⟨hc, ?_⟩
  rcases h.2 with ⟨e, _⟩ | ⟨g', cap', cur, e, _, hg, _⟩
  · cases e
  · cases e
    simp only [World.frozen?, hg]
    simp
theorem RI.store {w : World} {base g n cap : Nat} {L : List Nat} (h : RI w base (.slice (some ⟨g, 0, none⟩) n cap) (listI L)) (k x : Nat) : RI (w.setCell ⟨g, k, none⟩ (.int .i64 (x : Int))) base (.slice (some ⟨g, 0, none⟩) n cap) (listI (L.set k x)) := by
  have hn : n = (listI L).length := by
    rcases h.2 with ⟨e, _⟩ | ⟨g', cap', cur, e, _⟩
    · cases e
    · cases e; rfl
  subst hn
  have := (World.ownsRow.stored h k (.int .i64 (x : Int))).1
  unfold RI
  have e : listI (L.set k x) = (listI L).set k (x : Int) := by unfold listI; rw [List.map_set]
  rw [e, List.length_set, List.map_set]
  exact this
theorem SI.lenL {d : Nat → Nat} {n i j : Nat} {L P1 P2 : List Nat} (h : SI d n i j L P1 P2) (hi : i < n) : L.length = n := by
  have h2 := h.len2
  rw [h.eq]
  simp at h2 ⊢
  omega
theorem cmp_neg (x y : Nat) : decide (cmpI (x : Int) (y : Int) < 0) = decide (x < y) := by
  unfold cmpI
  rw [decide_eq_decide]
  by_cases h : (x : Int) < (y : Int)
  · rw [if_pos h]; constructor
    · intro _; omega
    · intro _; decide
  · rw [if_neg h]
    by_cases h2 : (y : Int) < (x : Int)
    · rw [if_pos h2]; constructor
      · intro h3; exact absurd h3 (by decide)
      · intro h3; omega
    · rw [if_neg h2]; constructor
      · intro h3; exact absurd h3 (by decide)
      · intro h3; omega
set_option maxRecDepth 100000 in
theorem insSort (ups : List (List Int)) (rt : Rt ups) (vL : Value) (w0 : World) (hL : ListsV w0 vL ups) (hll : ∀ l ∈ ups, l.length ≤ 1000000) (ub : Nat) (hub : w0.cell? ⟨ub, 0, none⟩ = some vL) (n : Nat) (hn : n = ups.length) (g cap : Nat) (W : World) (hE : Ext w0 W)
    (hR : RI W w0.heap.size (.slice (some ⟨g, 0, none⟩) n cap) (listI (List.range n))) :
    Calls Tryd.prog 57 #[.slice (some ⟨g, 0, none⟩) n cap, .int .i64 0, .int .i64 n, .func (.func 37) #[] #[.pointer (some ⟨ub, 0, none⟩)]] W fun e W' => (∃ v, e = .returned v) ∧ RI W' w0.heap.size (.slice (some ⟨g, 0, none⟩) n cap) (listI (ordN (dep ups) n)) ∧ Ext w0 W' := by
  have h6 : n ≤ 6 := by rw [hn]; exact rt.six
  have h1 : 1 ≤ n := by rw [hn]; exact rt.pos
  have hgb : w0.heap.size ≤ g := (World.ownsRow.lt hR g rfl).1
  have C := Lib.hid (fun (x y : Nat) (hx : x < n) (hy : y < n) w' (hw : Ext w0 w') => ordCmp ups rt vL w' ub (hw.cell hub) (hL.ext hw) hll x y (by omega) (by omega))
  have HF : Hid (∀ L P, SO (dep ups) n n L P → L = ordN (dep ups) n) := Lib.hid (fun L P h => h.final fun i hi => dep_five rt (by omega))
  have HR := Lib.hid hR
  have HE := Lib.hid hE
  clear hR hE hL hll hub rt hn
  generalize dep ups = d at *
  have HS := Lib.hid (SO.start d n h1)
  go_enter Tryd.func57, Tryd.ntmps57
  go_wp2
  go_loopw [8] (fun i wr => ∃ k : Nat, 1 ≤ k ∧ k ≤ n ∧ i = .int .i64 k ∧ ∃ L P, SO d n k L P ∧ RI wr w0.heap.size (.slice (some ⟨g, 0, none⟩) n cap) (listI L) ∧ Ext w0 wr) (fun i _ => n - (intOf i).toNat)
  case atStart => exact ⟨1, Nat.le_refl _, h1, rfl, _, _, HS.out, HR.out, HE.out⟩
  case round =>
    obtain ⟨i, hi1, hin, rfl, L, P, hS, hR, hX⟩ := hrel
    clear HR HE HS
    by_cases hlt : i < n
    · have hltn : (i : Int) < (n : Int) := by omega
      have HSI := Lib.hid (hS.enter hlt)
      have HR := Lib.hid hR
      have HX := Lib.hid hX
      clear hS hR hX
      go_wp2
      go_loopw [9] (fun jj wr => ∃ j : Nat, j ≤ i ∧ jj = .int .i64 j ∧ ∃ L P1 P2, SI d n i j L P1 P2 ∧ RI wr w0.heap.size (.slice (some ⟨g, 0, none⟩) n cap) (listI L) ∧ Ext w0 wr) (fun jj _ => (intOf jj).toNat)
      case atStart => exact ⟨i, Nat.le_refl _, rfl, _, _, _, HSI.out, HR.out, HX.out⟩
      case round =>
        obtain ⟨j, hj, rfl, L, P1, P2, hSI, hR, hX⟩ := hrel
        clear HSI HR HX
        cases j with
        | zero =>
          have HDN := Lib.hid (hSI.done (fun A y e => by have := hSI.len; rw [e] at this; simp at this))
          have HR := Lib.hid hR
          have HX := Lib.hid hX
          clear hSI hR hX
          go_wp2
          refine wp_region_later (by kernel_rfl) (by kernel_rfl) ?_
          repeat (go_big_quiet_step ((fail)))
          refine wpQuiet_nil ?_
          intro w6 hl6
          have X6 := laters_ext hl6
          clear hl6
          go_wp2
          exact ⟨⟨i + 1, by omega, by omega, by go_num, _, _, HDN.out, HR.out.ext X6, HX.out.trans X6⟩, by simp [intOf]; omega⟩
        | succ j =>
          obtain ⟨A, y, hA, hl, hy, hyi⟩ := hSI.split
          have hq := hR.cells hSI.at
          have hq2 := hR.cells hy
          have hLn := hSI.lenL hlt
          have q1 := hq.1
          have z1 := hq.2
          have q2 := hq2.1
          have z2 := hq2.2
          have HC := Lib.hid (C.out i y hlt (by omega))
          have hcm := cmp_neg (d i) (d y)
          have hjn : ((j + 1 : Nat) : Int) < (n : Int) := by omega
          have hjn' : (j : Int) < (n : Int) := by omega
          have hj1 : (((j + 1 : Nat) : Int)) - 1 = (j : Int) := by omega
          have hj0 : decide (0 < ((j + 1 : Nat) : Int)) = true := decide_eq_true (by omega)
          have HSIx := Lib.hid hSI
          have HR := Lib.hid hR
          have HX := Lib.hid hX
          have HY := Lib.hid hy
          clear hq hq2 hSI hR hX hy
          by_cases hd : d i < d y
          · have HDN := Lib.hid (HSIx.out.down hA hl hd)
            rw [show decide (d i < d y) = true by simpa using hd] at hcm
            generalize cmpI ((d i : Nat) : Int) ((d y : Nat) : Int) = cv at *
            go_wp2
            refine wp_region_later (by kernel_rfl) (by kernel_rfl) ?_
            have l1 := fun (g : Later wr) => g.ok.cell q1
            have l2 := fun (g : Later wr) => g.ok.cell q2
            repeat (go_big_quiet_step ((fail)))
            go_big_quiet_step ((go_at_call 37; exact laterC (HC.out _ (HX.out.trans (Later.ok _)))))
            repeat (go_big_quiet_step ((fail)))
            refine wpQuiet_nil ?_
            intro w6 hl6
            have X6 := laters_ext hl6
            clear hl6 l1 l2
            have R6 := HR.out.ext X6
            have E6 := HX.out.trans X6
            replace q1 := X6.cell q1
            replace q2 := X6.cell q2
            clear z1 z2 HR HX X6
            have HR6 := Lib.hid R6
            have HE6 := Lib.hid E6
            clear R6 E6
            have z1 := (HR6.out.cells HSIx.out.at).2
            have z2 := (HR6.out.cells HY.out).2
            go_wp2
            go_region
            have HR7 := Lib.hid (((HR6.out.ext ((Ext.refl w6).drew)).store (j + 1) y).store j i)
            have HE7 := Lib.hid ((HE6.out.drew.setCell (p := ⟨g, j + 1, none⟩) hgb (.int .i64 (y : Int))).setCell (p := ⟨g, j, none⟩) hgb (.int .i64 (i : Int)))
            go_wp2
            exact ⟨⟨j, by omega, by go_num, _, _, _, HDN.out, HR7.out, HE7.out⟩, by simp [intOf]⟩
          · have HDN := Lib.hid (HSIx.out.done (fun A' y' e => by
              have e2 : A ++ [y] = A' ++ [y'] := by rw [← hA, e]
              have := (List.append_inj' e2 rfl).2
              simp at this
              rw [← this]
              omega))
            rw [show decide (d i < d y) = false by simpa using hd] at hcm
            generalize cmpI ((d i : Nat) : Int) ((d y : Nat) : Int) = cv at *
            go_wp2
            refine wp_region_later (by kernel_rfl) (by kernel_rfl) ?_
            have l1 := fun (g : Later wr) => g.ok.cell q1
            have l2 := fun (g : Later wr) => g.ok.cell q2
            repeat (go_big_quiet_step ((fail)))
            go_big_quiet_step ((go_at_call 37; exact laterC (HC.out _ (HX.out.trans (Later.ok _)))))
            repeat (go_big_quiet_step ((fail)))
            refine wpQuiet_nil ?_
            intro w6 hl6
            have X6 := laters_ext hl6
            clear hl6 l1 l2 q1 z1 q2 z2
            go_wp2
            exact ⟨⟨i + 1, by omega, by omega, by go_num, _, _, HDN.out, HR.out.ext X6, HX.out.trans X6⟩, by simp [intOf]; omega⟩
    · obtain rfl : i = n := by omega
      have hL := HF.out _ _ hS
      rw [hL] at hR
      have HR := Lib.hid hR
      clear hL hR hS
      go_wp2
      go_end0
      exact ⟨⟨_, rfl⟩, HR.out, hX⟩
end Go.Proofs.YtlalkefbcddbfaaDoor

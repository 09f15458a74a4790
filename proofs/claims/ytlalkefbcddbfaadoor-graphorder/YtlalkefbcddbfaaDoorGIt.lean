/- A range over a group's All: the iterator with any invariant; the statement. -/
import Derived.Test.YtlalkefbcddbfaaDoorGrpIt
namespace Go.Proofs.YtlalkefbcddbfaaDoor
open Go.RowKit
set_option linter.unusedVariables false
set_option maxHeartbeats 1000000
theorem gItG (x cb l : Nat) (I : Nat → World → Prop) (W : World) (hx : x < 18446744073709551616) (hT : ∀ k W, I k W → Tab W) (hc : ∀ k W, I k W → W.cell? ⟨cb, 0, none⟩ = some (.int .u64 x)) (h0 : I 0 W)
    (hY : ∀ k (hk : k < (bitsOf x).length) (W : World), I k W → YieldAt Fence.wide 2 Tryd.prog l #[.int .i64 (((bitsOf x)[k] : Nat) : Int)] W (fun e W' => e = .returned (.bool true) ∧ I (k + 1) W')) :
    Calls Tryd.prog 48 #[.func (.yield l) #[] #[], .pointer (some ⟨cb, 0, none⟩)] W fun e W' => (∃ v, e = .returned v) ∧ I (bitsOf x).length W' := by
  have qc0 := hc 0 W h0
  have HI := Lib.hid h0
  have HY := Lib.hid hY
  have HT := Lib.hid hT
  have HC := Lib.hid hc
  have hlen := bits_len x
  have cl := fun w hT => gLeast x w hx hT
  have hd : (bitsOf x).head? = (bitsOf x)[0]? := by cases bitsOf x <;> rfl
  rw [hd] at cl
  have CL := Lib.hid cl
  have H0 : Hid (optV (bitsOf x)[0]? = .tuple #[.int .i64 (numI (bitsOf x)[0]?), .bool (decide (0 < (bitsOf x).length))]) := Lib.hid (by cases bitsOf x <;> rfl)
  clear cl hd h0 hY hT hc
  go_enter Tryd.func48, Tryd.ntmps48
  go_wp2_with fail
  refine (CL.out _ (HT.out _ _ HI.out)).mono ?_
  rw [H0.out]
  rintro e w' ⟨rfl, rfl⟩
  go_wp2
  go_loopw [3, 4] (fun n ok wr => ∃ k : Nat, k ≤ (bitsOf x).length ∧ n = .int .i64 (numI (bitsOf x)[k]?) ∧ ok = .bool (decide (k < (bitsOf x).length)) ∧ Hid (I k wr)) (fun n ok _ => restI n ok)
  case atStart => exact ⟨0, Nat.zero_le _, rfl, rfl, HI⟩
  case round =>
    obtain ⟨k, hk, rfl, rfl, HK⟩ := hrel
    clear qc0
    by_cases hlt : k < (bitsOf x).length
    · have hz := bits_lt hlt
      have hn : (bitsOf x)[k]? = some (bitsOf x)[k] := List.getElem?_eq_getElem hlt
      have N1 := nxt_at x k hlt
      have mono : ∀ h : k + 1 < (bitsOf x).length, (bitsOf x)[k] < (bitsOf x)[k + 1] := fun h => bits_mono h (by omega)
      have MONO := Lib.hid mono
      have HYK := Lib.hid (HY.out k hlt wr HK.out)
      rw [hn, show decide (k < (bitsOf x).length) = true by simpa using hlt]
      generalize hq : (bitsOf x)[k] = z at *
      have HN1 := Lib.hid N1
      clear mono N1 hq hn
      rw [show numI (some z) = (z : Int) from rfl]
      go_upto_region 3 with (fail)
      obtain ⟨fn, tmps, assign, body, hy, hR⟩ := HYK.out
      have HR := Lib.hid hR
      clear hR
      refine (wpIn_wide (n := 3)).1 ?_
      gi_wp2
      refine HR.out.mono ?_
      rintro e W1 ⟨rfl, hI1⟩
      have qc := HC.out _ _ hI1
      have HI1 := Lib.hid hI1
      clear hI1
      gi_wp2
      have c2 := fun w hT => gNext x (z : Int) w hx (by omega) (by omega) hT
      rw [HN1.out, opt_num] at c2
      have C2 := Lib.hid c2
      have RL := Lib.hid (rest_less x k z hz MONO.out)
      clear c2
      go_wp2_with fail
      refine (C2.out _ (HT.out _ _ HI1.out)).mono ?_
      rintro e w' ⟨rfl, rfl⟩
      go_wp2
      exact ⟨⟨k + 1, by omega, rfl, rfl, HI1⟩, RL.out⟩
    · obtain rfl : k = (bitsOf x).length := by omega
      rw [show decide ((bitsOf x).length < (bitsOf x).length) = false by simp]
      go_wp2
      go_end0
      exact ⟨⟨_, rfl⟩, HK.out⟩
/-- a round's body is left off its end, the loop's blocks as they were -/
def RP (w2 : World) (J : World → Prop) (W5 : World) : Exit → Act → World → Prop
  | .normal, _, W' => J W' ∧ W'.heap[w2.heap.size]? = W5.heap[w2.heap.size]? ∧ W'.heap[w2.heap.size + 1]? = W5.heap[w2.heap.size + 1]? ∧ W5.heap.size ≤ W'.heap.size
  | _, _, _ => False
theorem range_bits {g : Operand} {ps : Array Tmp} {assign body : Code} {Q : Exit → Act → World → Prop} {a : Act} {w2 : World} (x cb : Nat) (J : Nat → World → Prop)
    (hg : a.eval g = .func (.func 48) #[] #[.pointer (some ⟨cb, 0, none⟩)]) (hx : x < 18446744073709551616) (hps : ps.size = 1)
    (hT : ∀ k W, J k W → Tab W) (hc : ∀ k W, J k W → W.cell? ⟨cb, 0, none⟩ = some (.int .u64 x))
    (stab : ∀ k W W', J k W → But (fun b => w2.heap.size ≤ b) W W' → J k W') (h0 : J 0 w2)
    (hbody : ∀ k (hk : k < (bitsOf x).length) (W : World), J k W → w2.heap.size + 2 ≤ W.heap.size →
      assign.wpIn (Fence.wide.inRound (w2.heap.size + 1)) 2 Tryd.prog (Exit.then (fun a₁ w₁ => w₁ = W ∧ ∀ W5, J k W5 → w2.heap.size + 2 ≤ W5.heap.size → body.wpIn (Fence.wide.inRound (w2.heap.size + 1)) 2 Tryd.prog (RP w2 (J (k + 1)) W5) a₁ W5) (fun _ _ _ => False))
        { tmps := (ps.zip #[.int .i64 (((bitsOf x)[k] : Nat) : Int)]).foldl (fun t (p, v) => t.setIfInBounds p v) a.tmps, defers := [] } W)
    (hend : ∀ W', J (bitsOf x).length W' → W'.heap[w2.heap.size]? = some (.deferred (some [])) → Q .normal { a with defers := { target := .collected w2.heap.size, args := #[] } :: a.defers } W') :
    (Code.rangeFunc g ps assign body).wp Tryd.prog Q a w2 := by
  refine wp_range (gf := 48) hg (enters_of Tryd.func48 (by kernel_rfl) rfl) ?_
  intro fn rec hrec
  obtain ⟨W0, hW0⟩ : ∃ W0, (w2.alloc (.deferred (some []))).alloc (.loop rec) = W0 := ⟨_, rfl⟩
  rw [hW0]
  have X0 : Ext w2 W0 := by rw [← hW0]; exact ((Ext.refl _).alloc _).alloc _
  have hs0 : W0.heap.size = w2.heap.size + 2 := by rw [← hW0]; simp
  have hdef : rec.defers = w2.heap.size := by rw [hrec]; rfl
  have hst : rec.state = .ready := by rw [hrec]; rfl
  have hL0 : W0.heap[w2.heap.size + 1]? = some (.loop rec) := by rw [← hW0]; have := World.alloc_heap_new (w2.alloc (.deferred (some []))) (.loop rec); rwa [World.size_alloc] at this
  have hK0 : W0.heap[w2.heap.size]? = some (.deferred (some [])) := by rw [← hW0]; exact (Below.heap_alloc _ _ _ (by simp)).trans (World.alloc_heap_new w2 _)
  refine (gItG x cb (w2.heap.size + 1) (fun k W => J k W ∧ W.heap[w2.heap.size + 1]? = some (.loop rec) ∧ W.heap[w2.heap.size]? = some (.deferred (some [])) ∧ w2.heap.size + 2 ≤ W.heap.size) W0 hx (fun k W h => hT k W h.1) (fun k W h => hc k W h.1) ⟨stab 0 w2 W0 h0 (X0.but _), hL0, hK0, by omega⟩ ?_).mono ?_
  · rintro k hk W ⟨hJ, hL, hK, hs⟩
    have hy := run_yield (P := Tryd.prog) (args := #[.int .i64 (((bitsOf x)[k] : Nat) : Int)]) hL (by rw [hrec]; simp [recOf, hps])
    refine ⟨_, _, _, _, hy, roundIn_of_wpIn trivial ?_⟩
    have hb := hbody k hk W hJ hs
    have e1 : rec.assign = assign := by rw [hrec]; rfl
    have e2 : rec.body = body := by rw [hrec]; rfl
    have e3 : rec.params = ps := by rw [hrec]; rfl
    have e4 : rec.tmps = a.tmps := by rw [hrec]; rfl
    rw [e1, e2, e3, e4]
    refine wpIn_mono hb ?_
    intro e a₁ w₁ h
    cases e with
    | normal =>
      obtain ⟨rfl, hbd⟩ := h
      have hbu := but_putObj w₁ (w2.heap.size + 1) (.loop { rec with state := .busy })
      refine ⟨_, run_beginRound hL hst, wpIn_mono (hbd _ (stab k _ _ hJ (hbu.mono fun b _ e => by omega)) (by have := hbu.size; omega)) ?_⟩
      intro e a' W' hh
      cases e with
      | normal =>
        obtain ⟨hJ', hK', hL', hS'⟩ := hh
        have hlt : w2.heap.size + 1 < w₁.heap.size := by omega
        rw [World.putObj_heap_same hlt] at hL'
        rw [World.putObj_heap_other (by omega), hK] at hK'
        have hsz := hbu.size
        refine ⟨_, _, run_endRound none hL', rfl, ?_⟩
        have erec : ({ ({ rec with state := .busy } : Loop) with state := if (none : Option Code).isNone = true then LoopState.ready else LoopState.done, pending := none } : Loop) = rec := by rw [hrec]; rfl
        rw [erec]
        have BL := but_putObj W' (w2.heap.size + 1) (.loop rec)
        have hlt' : w2.heap.size + 1 < W'.heap.size := (Array.getElem?_eq_some_iff.1 hL').1
        exact ⟨stab _ _ _ hJ' (BL.mono fun b _ e => by omega), World.putObj_heap_same hlt', BL.heap hK' (by omega), by have := BL.size; omega⟩
      | _ => exact hh.elim
    | _ => exact h.elim
  · rintro e W3 ⟨hv, hJ, hL, hK, hs⟩
    refine ⟨hv, hL, fun W4 o4 hW4 => ?_⟩
    have B4 : But (· = w2.heap.size + 1) W3 W4 := by rw [hW4]; exact but_putObj _ _ _
    exact hend W4 (stab _ _ _ hJ (B4.mono fun b _ e => by omega)) (B4.heap hK (by omega))
end Go.Proofs.YtlalkefbcddbfaaDoor

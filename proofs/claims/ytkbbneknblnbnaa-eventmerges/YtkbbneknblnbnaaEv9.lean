/- The document's Shift; how long events are. -/
import Derived.Test.YtkbbneknblnbnaaEv7
import Derived.Test.YtkbbneknblnbnaaEv8
namespace Go.Proofs.Ytkbbneknblnbnaa
open Go.RowKit
set_option linter.unusedVariables false
set_option linter.unusedSimpArgs false
set_option maxHeartbeats 4000000
attribute [local go_sem] later_cell later_frozen later_const
theorem rGapx32 (a b : Int) (w : World) (ha : 0 ≤ a) (hb : 0 ≤ b) : Calls Try.prog 48 #[.int .i64 32, .int .u64 a, .int .u64 b] w fun e w' => e = .returned (.int .i64 (D32 (a - b))) ∧ w = w' := rGap_32 a b w ha hb
theorem rGapx64 (a b : Int) (w : World) (ha : 0 ≤ a) (hb : 0 ≤ b) : Calls Try.prog 48 #[.int .i64 64, .int .u64 a, .int .u64 b] w fun e w' => e = .returned (.int .i64 (D64 (a - b))) ∧ w = w' := rGap_64 a b w
def clB (e : Ev) : Bool := decide (e.k = 2) && (decide (e.o = 1) && decide (e.c = 0))
def rdB15 (e : Ev) : Bool := decide (e.k = 2) && (decide (e.o = 6) && decide (0 < e.n))
def shT (W f : Int) (L : List Ev) (k : Nat) : List Ev := (L.take k).map (sh W f)
theorem shT_len (W f : Int) (L : List Ev) (k : Nat) : (shT W f L k).length ≤ L.length := by simp [shT]; omega
theorem map_snoc (W f : Int) (L : List Ev) (k : Nat) (hk : k < L.length) : shT W f L (k + 1) = shT W f L k ++ [sh W f L[k]] := by
  unfold shT
  rw [List.take_succ_eq_append_getElem hk, List.map_append]
  rfl
set_option maxRecDepth 100000 in
theorem rShift32 {B : Nat} (f : Int) (v : Value) (L : List Ev) (w : World) (h : EvsV w B v L) (hBw : B ≤ w.heap.size) (hl : L.length ≤ 900000) (hp : ∀ e ∈ L, 0 ≤ e.p) (hf : 0 ≤ f) : Calls Try.prog 27 #[.int .i64 32, .int .u64 f, v] w (GivesR w (L.map (sh 32 f))) := by
  obtain ⟨a, cap, e, hm, fA⟩ := h.get3
  subst e
  have HA := Lib.hid fA
  have HPP := Lib.hid hp
  have HG : Hid (∀ v w', RE w' w.heap.size v (shT 32 f L L.length) → Ext w w' → GivesR w (L.map (sh 32 f)) (.returned v) w') := Lib.hid (fun v w' h1 h2 => ⟨v, rfl, by unfold shT at h1; rwa [List.take_length] at h1, h2⟩)
  have HS := Lib.hid (map_snoc 32 f L)
  generalize GivesR w (L.map (sh 32 f)) = G at *
  clear h fA hp
  go_enter Try.func27, Try.ntmps27
  go_wp2
  go_loopw [7, 8] (fun v i wr => ∃ k : Nat, k ≤ L.length ∧ i = .int .i64 k ∧ RE wr w.heap.size v (shT 32 f L k) ∧ Ext w wr) (fun _ i _ => L.length - (intOf i).toNat)
  case atStart => exact ⟨0, Nat.zero_le _, rfl, RE.nil _ _, Ext.refl _⟩
  case round =>
    obtain ⟨k, hk, rfl, hR, hx⟩ := hrel
    by_cases hlt : k < L.length
    case neg =>
      obtain rfl : k = L.length := by omega
      have HG2 := Lib.hid (HG.out _ wr hR hx)
      clear hR hx
      go_wp2
      exact HG2.out
    have hlt' : (k : Int) < (L.length : Int) := by omega
    obtain ⟨b, off, u, ea, A⟩ := HA.out wr hx k hlt
    subst ea
    have hpx := HPP.out L[k] (List.getElem_mem hlt)
    obtain ⟨ua, uc, eu⟩ := A.d.len
    have hs := HS.out k hlt
    generalize hxk : L[k] = x at *
    generalize hul : x.d.length = ul at eu
    subst eu
    have HSN := Lib.hid hs
    have HR := Lib.hid hR
    have HX := Lib.hid hx
    have HAD := Lib.hid A.d
    obtain ⟨c0, c1, c2, c3, c4, c5, c6, -⟩ := A
    clear hR hx hs hxk hul
    go_upto_region 6 with (fail)
    refine settle_wp ?_
    intro wA hbA
    have XA : Ext wr wA := Ext.trans (by repeat (first | with_reducible exact Ext.refl _ | with_reducible assumption | with_reducible refine Ext.alloc ?_ _ | with_reducible refine Ext.drew ?_ | with_reducible refine Ext.drewN ?_ _ | with_reducible refine Ext.setCell ?_ (by simp <;> omega) _ | with_reducible refine Ext.trans ?_ (by assumption))) hbA
    have HBE := Lib.hid ((BE.of (World.alloc_heap_new wr _)).ext hbA : BE wA wr.heap.size x.k x.t x.o x.n x.p x.c (.slice ua ul uc))
    have HXA := Lib.hid XA
    obtain ⟨q0, q1, q2, q3, q4, q5, q6, z0, z1, z2, z3, z4, z5, z6⟩ := HBE.out
    clear hbA XA c0 c1 c2 c3 c4 c5 c6 z0 z1 z2 z3 z5 z6
    go_cut [10] from 16 to 34 (fun c wx => c = .bool (clB x) ∧ wA = wx)
    case first =>
      by_cases h2 : x.k = 2
      case neg =>
        have e2 : (x.k == 2) = false := by simpa using h2
        have hv : clB x = false := by unfold clB; rw [decide_eq_false h2]; rfl
        go_wp2_with fail
        go_meet
        exact ⟨by rw [hv], rfl⟩
      have e2 : (x.k == 2) = true := by simpa using h2
      by_cases h1 : x.o = 1
      case neg =>
        have e1 : (x.o == 1) = false := by simpa using h1
        have hv : clB x = false := by unfold clB; rw [decide_eq_false h1]; simp
        go_wp2_with fail
        go_meet
        exact ⟨by rw [hv], rfl⟩
      have e1 : (x.o == 1) = true := by simpa using h1
      by_cases h0 : x.c = 0
      · have e0 : (x.c == 0) = true := by simpa using h0
        have hv : clB x = true := by unfold clB; simp [h0, h1, h2]
        go_wp2_with fail
        go_meet
        exact ⟨by rw [hv], rfl⟩
      · have e0 : (x.c == 0) = false := by simpa using h0
        have hv : clB x = false := by unfold clB; simp [h0]
        go_wp2_with fail
        go_meet
        exact ⟨by rw [hv], rfl⟩
    case rest =>
    obtain ⟨hc1, hw1⟩ := hcut
    cases hc1
    subst hw1
    go_upto_region 7 with (fail)
    go_cut [11] from 16 to 47 (fun c wx => c = .bool (rdB15 x) ∧ wA = wx)
    case first =>
      by_cases h2 : x.k = 2
      case neg =>
        have e2 : (x.k == 2) = false := by simpa using h2
        have hv : rdB15 x = false := by unfold rdB15; rw [decide_eq_false h2]; rfl
        go_wp2_with fail
        go_meet
        exact ⟨by rw [hv], rfl⟩
      have e2 : (x.k == 2) = true := by simpa using h2
      by_cases h1 : x.o = 6
      case neg =>
        have e1 : (x.o == 6) = false := by simpa using h1
        have hv : rdB15 x = false := by unfold rdB15; rw [decide_eq_false h1]; simp
        go_wp2_with fail
        go_meet
        exact ⟨by rw [hv], rfl⟩
      have e1 : (x.o == 6) = true := by simpa using h1
      by_cases h0 : 0 < x.n
      · have hv : rdB15 x = true := by unfold rdB15; simp [h0, h1, h2]
        go_wp2_with fail
        go_meet
        exact ⟨by rw [hv], rfl⟩
      · have hv : rdB15 x = false := by unfold rdB15; simp; omega
        go_wp2_with fail
        go_meet
        exact ⟨by rw [hv], rfl⟩
    case rest =>
    obtain ⟨hc1, hw1⟩ := hcut
    cases hc1
    subst hw1
    go_upto_region 8 with (fail)
    have hpl0 : plcd x = (decide (x.k = 3) || (decide (5 ≤ x.k) && decide (x.k ≤ 7)) || clB x || rdB15 x) := rfl
    generalize clB x = cl at *
    generalize rdB15 x = rd at *
    have HPL := Lib.hid hpl0
    clear hpl0
    go_cut [66] from 16 to 66 (fun c wx => c = .bool (plcd x) ∧ wA = wx)
    case first =>
      by_cases h3 : x.k = 3
      · have e3 : (x.k == 3) = true := by simpa using h3
        go_wp2_with fail
        go_meet
        exact ⟨by rw [HPL.out]; simp [h3], rfl⟩
      have e3 : (x.k == 3) = false := by simpa using h3
      by_cases h5 : 5 ≤ x.k
      · by_cases h7 : x.k ≤ 7
        · go_wp2_with fail
          go_meet
          exact ⟨by (rw [HPL.out]; simp [h3]; try omega), rfl⟩
        · cases cl <;> cases rd <;> (go_wp2_with fail; go_meet; exact ⟨by (rw [HPL.out]; simp [h3]; try omega), rfl⟩)
      · cases cl <;> cases rd <;> (go_wp2_with fail; go_meet; exact ⟨by (rw [HPL.out]; simp [h3]; try omega), rfl⟩)
    case rest =>
    obtain ⟨hc1, hw1⟩ := hcut
    cases hc1
    subst hw1
    have hsh1 : plcd x = false → sh 32 f x = x := fun h => by unfold sh; rw [h]; rfl
    have hsh2 : plcd x = true → sh 32 f x = { x with p := gapU 32 x.p f } := fun h => by unfold sh; rw [if_pos h]
    clear HPL
    generalize plcd x = pl at *
    cases pl
    case false =>
      rw [hsh1 rfl] at HSN
      clear hsh1 hsh2
      have hD := HAD.out.ext HXA.out
      have HD := Lib.hid (hD.up hBw)
      clear hD
      have hsz := HX.out.size
      have hsz2 := HXA.out.size
      have hll : (shT 32 f L k).length ≤ 900000 := Nat.le_trans (shT_len 32 f L k) hl
      go_wp2_with (at_builtin; refine appE _ rfl _ _ rfl w.heap.size u7 (shT 32 f L k) rfl ((HR.out.ext HXA.out).ext ((Ext.refl wA).alloc _)) (by simp; omega) wA.heap.size x (.slice ua ul uc) rfl (at_new HD.out) hll ?_)
      intro v9 w9 R9 G9 _
      have HX9 := Lib.hid (((HX.out.trans HXA.out).alloc _).grown G9 (fun q hq => (HR.out.lt hq).1))
      have HR9 := Lib.hid R9
      clear R9 G9 hsz hsz2 hll
      go_wp2
      exact ⟨⟨k + 1, by omega, by go_num, by rw [HSN.out]; exact HR9.out, HX9.out⟩, by simp [intOf]; omega⟩
    rw [hsh2 rfl] at HSN
    clear hsh1 hsh2
    have hg : U64 (D32 (x.p - f)) = gapU 32 x.p f := rfl
    go_wp2_with fail
    refine (rGapx32 _ _ _ hpx hf).mono ?_
    rintro e w' ⟨rfl, rfl⟩
    go_upto_region 10 with (fail)
    rw [wrapU64, hg]
    have E4 := HBE.out.set4 (gapU 32 x.p f)
    have X4 := HXA.out.setCell (p := ⟨wr.heap.size, 4, none⟩) (Nat.le_refl _) (.int .u64 (gapU 32 x.p f))
    generalize wA.setCell ⟨wr.heap.size, 4, none⟩ (.int .u64 (gapU 32 x.p f)) = w4 at *
    have hD := HAD.out.ext X4
    have HD := Lib.hid (hD.up hBw)
    have HX4 := Lib.hid X4
    clear hD q0 q1 q2 q3 q4 q5 q6 z4 hg HBE HXA X4
    obtain ⟨q0, q1, q2, q3, q4, q5, q6, -, -, -, -, -, -, -⟩ := E4
    have hsz := HX.out.size
    have hsz2 := HX4.out.size
    have hll : (shT 32 f L k).length ≤ 900000 := Nat.le_trans (shT_len 32 f L k) hl
    generalize gapU 32 x.p f = pp at *
    go_wp2_with (at_builtin; refine appE _ rfl _ _ rfl w.heap.size u7 (shT 32 f L k) rfl ((HR.out.ext HX4.out).ext ((Ext.refl w4).alloc _)) (by simp; omega) w4.heap.size { x with p := pp } (.slice ua ul uc) rfl (at_new (z := { x with p := pp }) HD.out) hll ?_)
    intro v9 w9 R9 G9 _
    have HX9 := Lib.hid (((HX.out.trans HX4.out).alloc _).grown G9 (fun q hq => (HR.out.lt hq).1))
    have HR9 := Lib.hid R9
    clear R9 G9 hsz hsz2 hll
    go_wp2
    exact ⟨⟨k + 1, by omega, by go_num, by rw [HSN.out]; exact HR9.out, HX9.out⟩, by simp [intOf]; omega⟩
set_option maxRecDepth 100000 in
theorem rShift64 {B : Nat} (f : Int) (v : Value) (L : List Ev) (w : World) (h : EvsV w B v L) (hBw : B ≤ w.heap.size) (hl : L.length ≤ 900000) (hp : ∀ e ∈ L, 0 ≤ e.p) (hf : 0 ≤ f) : Calls Try.prog 27 #[.int .i64 64, .int .u64 f, v] w (GivesR w (L.map (sh 64 f))) := by
  obtain ⟨a, cap, e, hm, fA⟩ := h.get3
  subst e
  have HA := Lib.hid fA
  have HPP := Lib.hid hp
  have HG : Hid (∀ v w', RE w' w.heap.size v (shT 64 f L L.length) → Ext w w' → GivesR w (L.map (sh 64 f)) (.returned v) w') := Lib.hid (fun v w' h1 h2 => ⟨v, rfl, by unfold shT at h1; rwa [List.take_length] at h1, h2⟩)
  have HS := Lib.hid (map_snoc 64 f L)
  generalize GivesR w (L.map (sh 64 f)) = G at *
  clear h fA hp
  go_enter Try.func27, Try.ntmps27
  go_wp2
  go_loopw [7, 8] (fun v i wr => ∃ k : Nat, k ≤ L.length ∧ i = .int .i64 k ∧ RE wr w.heap.size v (shT 64 f L k) ∧ Ext w wr) (fun _ i _ => L.length - (intOf i).toNat)
  case atStart => exact ⟨0, Nat.zero_le _, rfl, RE.nil _ _, Ext.refl _⟩
  case round =>
    obtain ⟨k, hk, rfl, hR, hx⟩ := hrel
    by_cases hlt : k < L.length
    case neg =>
      obtain rfl : k = L.length := by omega
      have HG2 := Lib.hid (HG.out _ wr hR hx)
      clear hR hx
      go_wp2
      exact HG2.out
    have hlt' : (k : Int) < (L.length : Int) := by omega
    obtain ⟨b, off, u, ea, A⟩ := HA.out wr hx k hlt
    subst ea
    have hpx := HPP.out L[k] (List.getElem_mem hlt)
    obtain ⟨ua, uc, eu⟩ := A.d.len
    have hs := HS.out k hlt
    generalize hxk : L[k] = x at *
    generalize hul : x.d.length = ul at eu
    subst eu
    have HSN := Lib.hid hs
    have HR := Lib.hid hR
    have HX := Lib.hid hx
    have HAD := Lib.hid A.d
    obtain ⟨c0, c1, c2, c3, c4, c5, c6, -⟩ := A
    clear hR hx hs hxk hul
    go_upto_region 6 with (fail)
    refine settle_wp ?_
    intro wA hbA
    have XA : Ext wr wA := Ext.trans (by repeat (first | with_reducible exact Ext.refl _ | with_reducible assumption | with_reducible refine Ext.alloc ?_ _ | with_reducible refine Ext.drew ?_ | with_reducible refine Ext.drewN ?_ _ | with_reducible refine Ext.setCell ?_ (by simp <;> omega) _ | with_reducible refine Ext.trans ?_ (by assumption))) hbA
    have HBE := Lib.hid ((BE.of (World.alloc_heap_new wr _)).ext hbA : BE wA wr.heap.size x.k x.t x.o x.n x.p x.c (.slice ua ul uc))
    have HXA := Lib.hid XA
    obtain ⟨q0, q1, q2, q3, q4, q5, q6, z0, z1, z2, z3, z4, z5, z6⟩ := HBE.out
    clear hbA XA c0 c1 c2 c3 c4 c5 c6 z0 z1 z2 z3 z5 z6
    go_cut [10] from 16 to 34 (fun c wx => c = .bool (clB x) ∧ wA = wx)
    case first =>
      by_cases h2 : x.k = 2
      case neg =>
        have e2 : (x.k == 2) = false := by simpa using h2
        have hv : clB x = false := by unfold clB; rw [decide_eq_false h2]; rfl
        go_wp2_with fail
        go_meet
        exact ⟨by rw [hv], rfl⟩
      have e2 : (x.k == 2) = true := by simpa using h2
      by_cases h1 : x.o = 1
      case neg =>
        have e1 : (x.o == 1) = false := by simpa using h1
        have hv : clB x = false := by unfold clB; rw [decide_eq_false h1]; simp
        go_wp2_with fail
        go_meet
        exact ⟨by rw [hv], rfl⟩
      have e1 : (x.o == 1) = true := by simpa using h1
      by_cases h0 : x.c = 0
      · have e0 : (x.c == 0) = true := by simpa using h0
        have hv : clB x = true := by unfold clB; simp [h0, h1, h2]
        go_wp2_with fail
        go_meet
        exact ⟨by rw [hv], rfl⟩
      · have e0 : (x.c == 0) = false := by simpa using h0
        have hv : clB x = false := by unfold clB; simp [h0]
        go_wp2_with fail
        go_meet
        exact ⟨by rw [hv], rfl⟩
    case rest =>
    obtain ⟨hc1, hw1⟩ := hcut
    cases hc1
    subst hw1
    go_upto_region 7 with (fail)
    go_cut [11] from 16 to 47 (fun c wx => c = .bool (rdB15 x) ∧ wA = wx)
    case first =>
      by_cases h2 : x.k = 2
      case neg =>
        have e2 : (x.k == 2) = false := by simpa using h2
        have hv : rdB15 x = false := by unfold rdB15; rw [decide_eq_false h2]; rfl
        go_wp2_with fail
        go_meet
        exact ⟨by rw [hv], rfl⟩
      have e2 : (x.k == 2) = true := by simpa using h2
      by_cases h1 : x.o = 6
      case neg =>
        have e1 : (x.o == 6) = false := by simpa using h1
        have hv : rdB15 x = false := by unfold rdB15; rw [decide_eq_false h1]; simp
        go_wp2_with fail
        go_meet
        exact ⟨by rw [hv], rfl⟩
      have e1 : (x.o == 6) = true := by simpa using h1
      by_cases h0 : 0 < x.n
      · have hv : rdB15 x = true := by unfold rdB15; simp [h0, h1, h2]
        go_wp2_with fail
        go_meet
        exact ⟨by rw [hv], rfl⟩
      · have hv : rdB15 x = false := by unfold rdB15; simp; omega
        go_wp2_with fail
        go_meet
        exact ⟨by rw [hv], rfl⟩
    case rest =>
    obtain ⟨hc1, hw1⟩ := hcut
    cases hc1
    subst hw1
    go_upto_region 8 with (fail)
    have hpl0 : plcd x = (decide (x.k = 3) || (decide (5 ≤ x.k) && decide (x.k ≤ 7)) || clB x || rdB15 x) := rfl
    generalize clB x = cl at *
    generalize rdB15 x = rd at *
    have HPL := Lib.hid hpl0
    clear hpl0
    go_cut [66] from 16 to 66 (fun c wx => c = .bool (plcd x) ∧ wA = wx)
    case first =>
      by_cases h3 : x.k = 3
      · have e3 : (x.k == 3) = true := by simpa using h3
        go_wp2_with fail
        go_meet
        exact ⟨by rw [HPL.out]; simp [h3], rfl⟩
      have e3 : (x.k == 3) = false := by simpa using h3
      by_cases h5 : 5 ≤ x.k
      · by_cases h7 : x.k ≤ 7
        · go_wp2_with fail
          go_meet
          exact ⟨by (rw [HPL.out]; simp [h3]; try omega), rfl⟩
        · cases cl <;> cases rd <;> (go_wp2_with fail; go_meet; exact ⟨by (rw [HPL.out]; simp [h3]; try omega), rfl⟩)
      · cases cl <;> cases rd <;> (go_wp2_with fail; go_meet; exact ⟨by (rw [HPL.out]; simp [h3]; try omega), rfl⟩)
    case rest =>
    obtain ⟨hc1, hw1⟩ := hcut
    cases hc1
    subst hw1
    have hsh1 : plcd x = false → sh 64 f x = x := fun h => by unfold sh; rw [h]; rfl
    have hsh2 : plcd x = true → sh 64 f x = { x with p := gapU 64 x.p f } := fun h => by unfold sh; rw [if_pos h]
    clear HPL
    generalize plcd x = pl at *
    cases pl
    case false =>
      rw [hsh1 rfl] at HSN
      clear hsh1 hsh2
      have hD := HAD.out.ext HXA.out
      have HD := Lib.hid (hD.up hBw)
      clear hD
      have hsz := HX.out.size
      have hsz2 := HXA.out.size
      have hll : (shT 64 f L k).length ≤ 900000 := Nat.le_trans (shT_len 64 f L k) hl
      go_wp2_with (at_builtin; refine appE _ rfl _ _ rfl w.heap.size u7 (shT 64 f L k) rfl ((HR.out.ext HXA.out).ext ((Ext.refl wA).alloc _)) (by simp; omega) wA.heap.size x (.slice ua ul uc) rfl (at_new HD.out) hll ?_)
      intro v9 w9 R9 G9 _
      have HX9 := Lib.hid (((HX.out.trans HXA.out).alloc _).grown G9 (fun q hq => (HR.out.lt hq).1))
      have HR9 := Lib.hid R9
      clear R9 G9 hsz hsz2 hll
      go_wp2
      exact ⟨⟨k + 1, by omega, by go_num, by rw [HSN.out]; exact HR9.out, HX9.out⟩, by simp [intOf]; omega⟩
    rw [hsh2 rfl] at HSN
    clear hsh1 hsh2
    have hg : U64 (D64 (x.p - f)) = gapU 64 x.p f := rfl
    go_wp2_with fail
    refine (rGapx64 _ _ _ hpx hf).mono ?_
    rintro e w' ⟨rfl, rfl⟩
    go_upto_region 10 with (fail)
    rw [wrapU64, hg]
    have E4 := HBE.out.set4 (gapU 64 x.p f)
    have X4 := HXA.out.setCell (p := ⟨wr.heap.size, 4, none⟩) (Nat.le_refl _) (.int .u64 (gapU 64 x.p f))
    generalize wA.setCell ⟨wr.heap.size, 4, none⟩ (.int .u64 (gapU 64 x.p f)) = w4 at *
    have hD := HAD.out.ext X4
    have HD := Lib.hid (hD.up hBw)
    have HX4 := Lib.hid X4
    clear hD q0 q1 q2 q3 q4 q5 q6 z4 hg HBE HXA X4
    obtain ⟨q0, q1, q2, q3, q4, q5, q6, -, -, -, -, -, -, -⟩ := E4
    have hsz := HX.out.size
    have hsz2 := HX4.out.size
    have hll : (shT 64 f L k).length ≤ 900000 := Nat.le_trans (shT_len 64 f L k) hl
    generalize gapU 64 x.p f = pp at *
    go_wp2_with (at_builtin; refine appE _ rfl _ _ rfl w.heap.size u7 (shT 64 f L k) rfl ((HR.out.ext HX4.out).ext ((Ext.refl w4).alloc _)) (by simp; omega) w4.heap.size { x with p := pp } (.slice ua ul uc) rfl (at_new (z := { x with p := pp }) HD.out) hll ?_)
    intro v9 w9 R9 G9 _
    have HX9 := Lib.hid (((HX.out.trans HX4.out).alloc _).grown G9 (fun q hq => (HR.out.lt hq).1))
    have HR9 := Lib.hid R9
    clear R9 G9 hsz hsz2 hll
    go_wp2
    exact ⟨⟨k + 1, by omega, by go_num, by rw [HSN.out]; exact HR9.out, HX9.out⟩, by simp [intOf]; omega⟩
end Go.Proofs.Ytkbbneknblnbnaa

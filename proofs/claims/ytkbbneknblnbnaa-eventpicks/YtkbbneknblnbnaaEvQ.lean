/- Events of some kinds by the document, where a call ends, the program's Same. -/
import Derived.Test.YtkbbneknblnbnaaEvP
namespace Go.Proofs.Ytkbbneknblnbnaa
open Go.RowKit
set_option linter.unusedVariables false
set_option linter.unusedSimpArgs false
set_option maxHeartbeats 4000000
attribute [local go_sem] later_cell later_frozen later_const
theorem any_snoc (p : Int → Bool) {l : List Int} {k : Nat} (hk : k < l.length) : (l.take (k + 1)).any p = ((l.take k).any p || p l[k]) := by
  rw [List.take_succ_eq_append_getElem hk, List.any_append]
  simp
set_option maxRecDepth 100000 in
theorem rOnly {B : Nat} (v : Value) (L : List Ev) (kv : Value) (xs : List Int) (w : World) (h : EvsV w B v L) (hBw : B ≤ w.heap.size) (hl : L.length ≤ 900000) (hk : IntsV w kv xs) (hxl : xs.length ≤ 1000000) : Calls Try.prog 20 #[v, kv] w (GivesR w (L.filter fun e => xs.any fun y => decide (e.k = y))) := by
  obtain ⟨a, cap, e, hm, f⟩ := h.get3
  subst e
  have HA := Lib.hid f
  obtain ⟨ka, kc, ek, kf⟩ := hk.form
  subst ek
  have HK := Lib.hid kf
  have HG : Hid (∀ v w', RE w' w.heap.size v ((L.take L.length).filter fun e => xs.any fun y => decide (e.k = y)) → Ext w w' → GivesR w (L.filter fun e => xs.any fun y => decide (e.k = y)) (.returned v) w') := Lib.hid (fun v w' h1 h2 => ⟨v, rfl, by rwa [List.take_length] at h1, h2⟩)
  have HS := Lib.hid (fun k hk => filter_snoc (fun e : Ev => xs.any fun y => decide (e.k = y)) (l := L) (k := k) hk)
  have HFL := Lib.hid (filter_len (fun e : Ev => xs.any fun y => decide (e.k = y)) L)
  generalize GivesR w (L.filter fun e => xs.any fun y => decide (e.k = y)) = G at *
  clear h f hk kf
  go_enter Try.func20, Try.ntmps20
  go_wp2
  go_loopw [5, 6] (fun v i wr => ∃ k : Nat, k ≤ L.length ∧ i = .int .i64 k ∧ RE wr w.heap.size v ((L.take k).filter fun e => xs.any fun y => decide (e.k = y)) ∧ Ext w wr) (fun _ i _ => L.length - (intOf i).toNat)
  case atStart => exact ⟨0, Nat.zero_le _, rfl, by rw [List.take_zero]; exact RE.nil _ _, Ext.refl _⟩
  case round =>
    obtain ⟨k, hk, rfl, hR, hx⟩ := hrel
    by_cases hlt : k < L.length
    case neg =>
      obtain rfl : k = L.length := by omega
      have HG2 := Lib.hid (HG.out _ wr hR hx)
      clear hR hx
      go_wp2
      exact HG2.out
    have hlt' : (k : Int) < (L.length : Int) := by omega
    obtain ⟨b, off, u, ea, A⟩ := HA.out wr hx k hlt
    subst ea
    obtain ⟨ua, uc, eu⟩ := A.d.len
    have hs := HS.out k hlt
    generalize L[k] = x at *
    generalize hul : x.d.length = ul at eu
    subst eu
    have HSN := Lib.hid hs
    have HR := Lib.hid hR
    have HX := Lib.hid hx
    have HAA := Lib.hid A
    have hfl := HFL.out k
    have HAN := Lib.hid (fun k hk => any_snoc (fun y => decide (x.k = y)) (l := xs) (k := k) hk)
    clear hR hx hs hul A
    obtain ⟨wo, hwo⟩ : ∃ wo, wo = wr := ⟨_, rfl⟩
    subst hwo
    go_wp2
    go_loopw [7, 8] (fun m j wr => ∃ q : Nat, q ≤ xs.length ∧ j = .int .i64 q ∧ m = .bool ((xs.take q).any fun y => decide (x.k = y)) ∧ Ext wo wr) (fun _ j _ => xs.length - (intOf j).toNat)
    case atStart => exact ⟨0, Nat.zero_le _, rfl, rfl, Ext.refl _⟩
    case round =>
      obtain ⟨q, hq, rfl, hmm, hx2⟩ := hrel
      by_cases hql : q < xs.length
      case pos =>
        have hql' : (q : Int) < (xs.length : Int) := by omega
        have hst := HAN.out q hql
        obtain ⟨kb, ko, ekb, kc0⟩ := HK.out q hql
        subst ekb
        have kc1 := hx2.cell (HX.out.cell kc0)
        rw [show xs[q] = xs.getD q 0 by simp [hql]] at hst
        have x0 := hx2.cell HAA.out.c0
        clear kc0
        generalize xs.getD q 0 = y at *
        cases hb : (xs.take q).any fun y => decide (x.k = y)
        case true =>
          rw [hb] at hst hmm
          subst hmm
          have HST := Lib.hid hst
          clear hst hb
          go_wp2
          refine wp_region_later (by kernel_rfl) (by kernel_rfl) ?_
          repeat (go_big_quiet_step ((fail)))
          refine wpQuiet_nil ?_
          intro w6 hl6
          have X6 := laters_ext hl6
          clear hl6
          go_wp2
          exact ⟨⟨q + 1, by omega, by go_num, by rw [HST.out]; rfl, hx2.trans X6⟩, by simp [intOf]; omega⟩
        case false =>
          rw [hb] at hst hmm
          subst hmm
          cases hd : decide (x.k = y)
          all_goals
            rw [hd] at hst
            have d : (y == x.k) = _ := (show (y == x.k) = decide (x.k = y) by rw [Bool.eq_iff_iff]; simp only [beq_iff_eq, decide_eq_true_eq]; exact eq_comm).trans hd
            have HST := Lib.hid hst
            clear hst hb hd
            go_wp2
            refine wp_region_later (by kernel_rfl) (by kernel_rfl) ?_
            have l0 := fun (g : Later wr) => g.ok.cell x0
            have l1 := fun (g : Later wr) => g.ok.cell kc1
            repeat (go_big_quiet_step ((fail)))
            refine wpQuiet_nil ?_
            intro w6 hl6
            have X6 := laters_ext hl6
            clear hl6 l0 l1
            go_wp2
            exact ⟨⟨q + 1, by omega, by go_num, by rw [HST.out]; rfl, hx2.trans X6⟩, by simp [intOf]; omega⟩
      obtain rfl : q = xs.length := by omega
      rw [List.take_length] at hmm
      have HX2 := Lib.hid hx2
      have HXW := Lib.hid (HX.out.trans hx2)
      obtain ⟨c0, c1, c2, c3, c4, c5, c6, hd⟩ := HAA.out.ext hx2
      have HAD := Lib.hid (hd.up hBw)
      have hb0 := World.block_lt_of_cell? wr ⟨b, off + k * 7, none⟩ c0
      have HRW := Lib.hid (HR.out.ext hx2)
      clear hx2 hd
      cases hp : xs.any fun y => decide (x.k = y)
      case false =>
        rw [hp] at hmm
        subst hmm
        have hsn : (L.take (k + 1)).filter (fun e => xs.any fun y => decide (e.k = y)) = (L.take k).filter (fun e => xs.any fun y => decide (e.k = y)) := HSN.out.trans (if_neg (by rw [hp]; decide))
        have HSN2 := Lib.hid hsn
        clear hsn HSN hp
        go_wp2
        exact ⟨⟨k + 1, by omega, by go_num, by rw [HSN2.out]; exact HRW.out, HXW.out⟩, by simp [intOf]; omega⟩
      case true =>
        rw [hp] at hmm
        subst hmm
        have hsn : (L.take (k + 1)).filter (fun e => xs.any fun y => decide (e.k = y)) = (L.take k).filter (fun e => xs.any fun y => decide (e.k = y)) ++ [x] := HSN.out.trans (if_pos hp)
        have HSN2 := Lib.hid hsn
        have hsz := HXW.out.size
        have hfl9 : ((L.take k).filter fun e => xs.any fun y => decide (e.k = y)).length ≤ 900000 := by omega
        clear hsn HSN hp hfl
        go_wp2_with (at_builtin; refine appE _ rfl _ _ rfl w.heap.size u5 ((L.take k).filter fun e => xs.any fun y => decide (e.k = y)) rfl (HRW.out.ext ((Ext.refl wr).alloc _)) (by simp; omega) wr.heap.size x (.slice ua ul uc) rfl (at_new HAD.out) hfl9 ?_)
        intro v4 w4 R4 G4 _
        have HX4 := Lib.hid ((HXW.out.alloc _).grown G4 (fun q hq => (HRW.out.lt hq).1))
        have HR4 := Lib.hid R4
        clear R4 G4 hsz hfl9
        go_wp2
        exact ⟨⟨k + 1, by omega, by go_num, by rw [HSN2.out]; exact HR4.out, HX4.out⟩, by simp [intOf]; omega⟩
/-- where the call at i ends; -1: nowhere -/
def endV (L : List Ev) (i : Int) : Int := if h : 0 ≤ i ∧ i.toNat < L.length then (if L[i.toNat].k = 1 then ixG (fun e => decide (e.k = 2) && decide (e.t = L[i.toNat].t)) (L.drop (i.toNat + 1)) (i.toNat + 1) else -1) else -1
set_option maxRecDepth 100000 in
theorem eEnds {B : Nat} (v : Value) (L : List Ev) (i : Int) (w : World) (h : EvsV w B v L) (hi : i ≤ 9223372036854775807) : Calls Try.prog 15 #[v, .int .i64 i] w fun e w' => e = .returned (.tuple #[.int .i64 (if endV L i < 0 then 0 else endV L i), .bool (decide (0 ≤ endV L i))]) ∧ Ext w w' := by
  obtain ⟨a, cap, e, hm, f⟩ := h.get3
  subst e
  have HA := Lib.hid f
  clear h f
  by_cases h0 : i < 0
  · rw [show endV L i = -1 from dif_neg (by omega)]
    go_enter Try.func15, Try.ntmps15
    go_wp2
    refine bodyPost_ret (v := .tuple #[.int .i64 0, .bool false]) (by simp [results, Try.results15, go_sem]) rfl ⟨rfl, Ext.refl _⟩
  obtain ⟨n, rfl⟩ : ∃ n : Nat, i = n := ⟨i.toNat, by omega⟩
  by_cases h1 : n < L.length
  case neg =>
    have h1' : (L.length : Int) ≤ (n : Int) := by omega
    rw [show endV L n = -1 from dif_neg (by simp; omega)]
    go_enter Try.func15, Try.ntmps15
    go_wp2
    refine bodyPost_ret (v := .tuple #[.int .i64 0, .bool false]) (by simp [results, Try.results15, go_sem]) rfl ⟨rfl, Ext.refl _⟩
  have h1' : ¬ (L.length : Int) ≤ (n : Int) := by omega
  have h1'' : (n : Int) < (L.length : Int) := by omega
  obtain ⟨b, off, u, ea, A⟩ := HA.out w (Ext.refl w) n h1
  subst ea
  have hv : endV L n = if L[n].k = 1 then ixG (fun e => decide (e.k = 2) && decide (e.t = L[n].t)) (L.drop (n + 1)) (n + 1) else -1 := by
    unfold endV
    rw [dif_pos ⟨by omega, by simpa using h1⟩]
    rfl
  rw [hv]
  clear hv
  have A0 := Lib.hid A
  have c0 := A.c0
  have c1 := A.c1
  clear A
  generalize L[n] = x at *
  by_cases h2 : x.k = 1
  case neg =>
    have e2 : (x.k == 1) = false := by simpa using h2
    have e3 : (x.k != 1) = true := by simpa using h2
    rw [if_neg h2]
    clear h2
    go_enter Try.func15, Try.ntmps15
    go_wp2
    refine bodyPost_ret (v := .tuple #[.int .i64 0, .bool false]) (by simp [results, Try.results15, go_sem]) rfl ⟨rfl, Ext.refl _⟩
  have e2 : (x.k == 1) = true := by simpa using h2
  have e3 : (x.k != 1) = false := by simpa using h2
  rw [if_pos h2]
  clear h2
  obtain ⟨V, hV⟩ : ∃ V, V = ixG (fun e => decide (e.k = 2) && decide (e.t = x.t)) (L.drop (n + 1)) (n + 1) := ⟨_, rfl⟩
  rw [← hV]
  have HV := Lib.hid hV
  have HS := Lib.hid (fun k hk => ixG_step (fun e : Ev => decide (e.k = 2) && decide (e.t = x.t)) (l := L) (k := k) hk)
  have HE := Lib.hid (fun k hk => ixG_end (fun e : Ev => decide (e.k = 2) && decide (e.t = x.t)) (l := L) (k := k) hk)
  clear hV
  go_enter Try.func15, Try.ntmps15
  go_wp2
  go_loopw [6] (fun i wr => ∃ k : Nat, n + 1 ≤ k ∧ k ≤ L.length ∧ i = .int .i64 k ∧ Ext w wr ∧ Hid (ixG (fun e => decide (e.k = 2) && decide (e.t = x.t)) (L.drop k) k = V)) (fun i _ => L.length - (intOf i).toNat)
  case atStart => exact ⟨n + 1, Nat.le_refl _, by omega, by go_num, Ext.refl _, Lib.hid HV.out.symm⟩
  case round =>
    obtain ⟨k, hk1, hk, rfl, hx, HP⟩ := hrel
    by_cases hlt : k < L.length
    case neg =>
      have e : -1 = V := (HE.out k (by omega)).symm.trans HP.out
      have hlt' : ¬ (k : Int) < (L.length : Int) := by omega
      subst e
      clear HV HP
      go_wp2
      refine bodyPost_ret (v := .tuple #[.int .i64 0, .bool false]) (by simp [results, Try.results15, go_sem]) rfl ⟨rfl, hx⟩
    have hlt' : (k : Int) < (L.length : Int) := by omega
    obtain ⟨b2, off2, u2, ea2, A2⟩ := HA.out wr hx k hlt
    cases ea2
    have p1 := hx.cell c1
    obtain ⟨d0, d1, -, -, -, -, -, -⟩ := A2
    have hp := (HS.out k hlt).symm.trans HP.out
    generalize L[k] = y at *
    by_cases g1 : y.k = 2
    case neg =>
      have e4 : (y.k == 2) = false := by simpa using g1
      have e : ixG (fun e => decide (e.k = 2) && decide (e.t = x.t)) (L.drop (k + 1)) (k + 1) = V := by rw [if_neg (by simp [g1])] at hp; exact hp
      have HE2 := Lib.hid e
      clear e HP hp g1
      go_wp2
      refine wp_region_later (by kernel_rfl) (by kernel_rfl) ?_
      have l0 := fun (g : Later wr) => g.ok.cell d0
      repeat (go_big_quiet_step ((fail)))
      refine wpQuiet_nil ?_
      intro w6 hl6
      have X6 := laters_ext hl6
      clear hl6 l0
      go_wp2
      exact ⟨⟨k + 1, by omega, by omega, by go_num, hx.trans X6, HE2⟩, by simp [intOf]; omega⟩
    have e4 : (y.k == 2) = true := by simpa using g1
    by_cases g2 : y.t = x.t
    case neg =>
      have e5 : (y.t == x.t) = false := by simpa using g2
      have e : ixG (fun e => decide (e.k = 2) && decide (e.t = x.t)) (L.drop (k + 1)) (k + 1) = V := by rw [if_neg (by simp [g2])] at hp; exact hp
      have HE2 := Lib.hid e
      clear e HP hp g1 g2
      go_wp2
      refine wp_region_later (by kernel_rfl) (by kernel_rfl) ?_
      have l0 := fun (g : Later wr) => g.ok.cell d0
      have l1 := fun (g : Later wr) => g.ok.cell d1
      have l2 := fun (g : Later wr) => g.ok.cell p1
      repeat (go_big_quiet_step ((fail)))
      refine wpQuiet_nil ?_
      intro w6 hl6
      have X6 := laters_ext hl6
      clear hl6 l0 l1 l2
      go_wp2
      exact ⟨⟨k + 1, by omega, by omega, by go_num, hx.trans X6, HE2⟩, by simp [intOf]; omega⟩
    have e5 : (y.t == x.t) = true := by simpa using g2
    have e : (k : Int) = V := by rw [if_pos (by simp [g1, g2])] at hp; exact hp
    subst e
    clear HV HP hp g1 g2
    go_wp2
    refine wp_region_later (by kernel_rfl) (by kernel_rfl) ?_
    have l0 := fun (g : Later wr) => g.ok.cell d0
    have l1 := fun (g : Later wr) => g.ok.cell d1
    have l2 := fun (g : Later wr) => g.ok.cell p1
    repeat (go_big_quiet_step ((fail)))
    refine wpQuiet_nil ?_
    intro w6 hl6
    have X6 := laters_ext hl6
    clear hl6 l0 l1 l2
    go_wp2
    refine bodyPost_ret (v := .tuple #[.int .i64 k, .bool true]) (by simp [results, Try.results15, go_sem]) rfl ⟨?_, hx.trans X6⟩
    rfl
set_option maxRecDepth 100000 in
theorem rEnds {B : Nat} (v : Value) (L : List Ev) (i : Int) (w : World) (h : EvsV w B v L) (hi : i ≤ 9223372036854775807) : Calls Try.prog 16 #[v, .int .i64 i] w fun e w' => e = .returned (.int .i64 (endV L i)) ∧ Ext w w' := by
  obtain ⟨a, cap, e, hm, f⟩ := h.get3
  subst e
  have HA := Lib.hid f
  clear h f
  by_cases h0 : i < 0
  · rw [show endV L i = -1 from dif_neg (by omega)]
    go_enter Try.func16, Try.ntmps16
    go_wp2
    go_ret
    exact ⟨rfl, Ext.refl _⟩
  obtain ⟨n, rfl⟩ : ∃ n : Nat, i = n := ⟨i.toNat, by omega⟩
  by_cases h1 : n < L.length
  case neg =>
    have h1' : (L.length : Int) ≤ (n : Int) := by omega
    rw [show endV L n = -1 from dif_neg (by simp; omega)]
    go_enter Try.func16, Try.ntmps16
    go_wp2
    go_ret
    exact ⟨rfl, Ext.refl _⟩
  have h1' : ¬ (L.length : Int) ≤ (n : Int) := by omega
  have h1'' : (n : Int) < (L.length : Int) := by omega
  obtain ⟨b, off, u, ea, A⟩ := HA.out w (Ext.refl w) n h1
  subst ea
  have hv : endV L n = if L[n].k = 1 then ixG (fun e => decide (e.k = 2) && decide (e.t = L[n].t)) (L.drop (n + 1)) (n + 1) else -1 := by
    unfold endV
    rw [dif_pos ⟨by omega, by simpa using h1⟩]
    rfl
  rw [hv]
  clear hv
  have A0 := Lib.hid A
  have c0 := A.c0
  have c1 := A.c1
  clear A
  generalize L[n] = x at *
  by_cases h2 : x.k = 1
  case neg =>
    have e2 : (x.k == 1) = false := by simpa using h2
    have e3 : (x.k != 1) = true := by simpa using h2
    rw [if_neg h2]
    clear h2
    go_enter Try.func16, Try.ntmps16
    go_wp2
    go_ret
    exact ⟨rfl, Ext.refl _⟩
  have e2 : (x.k == 1) = true := by simpa using h2
  have e3 : (x.k != 1) = false := by simpa using h2
  rw [if_pos h2]
  clear h2
  obtain ⟨V, hV⟩ : ∃ V, V = ixG (fun e => decide (e.k = 2) && decide (e.t = x.t)) (L.drop (n + 1)) (n + 1) := ⟨_, rfl⟩
  rw [← hV]
  have HV := Lib.hid hV
  have HS := Lib.hid (fun k hk => ixG_step (fun e : Ev => decide (e.k = 2) && decide (e.t = x.t)) (l := L) (k := k) hk)
  have HE := Lib.hid (fun k hk => ixG_end (fun e : Ev => decide (e.k = 2) && decide (e.t = x.t)) (l := L) (k := k) hk)
  clear hV
  go_enter Try.func16, Try.ntmps16
  go_wp2
  go_loopw [5] (fun i wr => ∃ k : Nat, n + 1 ≤ k ∧ k ≤ L.length ∧ i = .int .i64 k ∧ Ext w wr ∧ Hid (ixG (fun e => decide (e.k = 2) && decide (e.t = x.t)) (L.drop k) k = V)) (fun i _ => L.length - (intOf i).toNat)
  case atStart => exact ⟨n + 1, Nat.le_refl _, by omega, by go_num, Ext.refl _, Lib.hid HV.out.symm⟩
  case round =>
    obtain ⟨k, hk1, hk, rfl, hx, HP⟩ := hrel
    by_cases hlt : k < L.length
    case neg =>
      have e : -1 = V := (HE.out k (by omega)).symm.trans HP.out
      have hlt' : ¬ (k : Int) < (L.length : Int) := by omega
      subst e
      clear HV HP
      go_wp2
      go_ret
      exact ⟨rfl, hx⟩
    have hlt' : (k : Int) < (L.length : Int) := by omega
    obtain ⟨b2, off2, u2, ea2, A2⟩ := HA.out wr hx k hlt
    cases ea2
    have p1 := hx.cell c1
    obtain ⟨d0, d1, -, -, -, -, -, -⟩ := A2
    have hp := (HS.out k hlt).symm.trans HP.out
    generalize L[k] = y at *
    by_cases g1 : y.k = 2
    case neg =>
      have e4 : (y.k == 2) = false := by simpa using g1
      have e : ixG (fun e => decide (e.k = 2) && decide (e.t = x.t)) (L.drop (k + 1)) (k + 1) = V := by rw [if_neg (by simp [g1])] at hp; exact hp
      have HE2 := Lib.hid e
      clear e HP hp g1
      go_wp2
      refine wp_region_later (by kernel_rfl) (by kernel_rfl) ?_
      have l0 := fun (g : Later wr) => g.ok.cell d0
      repeat (go_big_quiet_step ((fail)))
      refine wpQuiet_nil ?_
      intro w6 hl6
      have X6 := laters_ext hl6
      clear hl6 l0
      go_wp2
      exact ⟨⟨k + 1, by omega, by omega, by go_num, hx.trans X6, HE2⟩, by simp [intOf]; omega⟩
    have e4 : (y.k == 2) = true := by simpa using g1
    by_cases g2 : y.t = x.t
    case neg =>
      have e5 : (y.t == x.t) = false := by simpa using g2
      have e : ixG (fun e => decide (e.k = 2) && decide (e.t = x.t)) (L.drop (k + 1)) (k + 1) = V := by rw [if_neg (by simp [g2])] at hp; exact hp
      have HE2 := Lib.hid e
      clear e HP hp g1 g2
      go_wp2
      refine wp_region_later (by kernel_rfl) (by kernel_rfl) ?_
      have l0 := fun (g : Later wr) => g.ok.cell d0
      have l1 := fun (g : Later wr) => g.ok.cell d1
      have l2 := fun (g : Later wr) => g.ok.cell p1
      repeat (go_big_quiet_step ((fail)))
      refine wpQuiet_nil ?_
      intro w6 hl6
      have X6 := laters_ext hl6
      clear hl6 l0 l1 l2
      go_wp2
      exact ⟨⟨k + 1, by omega, by omega, by go_num, hx.trans X6, HE2⟩, by simp [intOf]; omega⟩
    have e5 : (y.t == x.t) = true := by simpa using g2
    have e : (k : Int) = V := by rw [if_pos (by simp [g1, g2])] at hp; exact hp
    subst e
    clear HV HP hp g1 g2
    go_wp2
    refine wp_region_later (by kernel_rfl) (by kernel_rfl) ?_
    have l0 := fun (g : Later wr) => g.ok.cell d0
    have l1 := fun (g : Later wr) => g.ok.cell d1
    have l2 := fun (g : Later wr) => g.ok.cell p1
    repeat (go_big_quiet_step ((fail)))
    refine wpQuiet_nil ?_
    intro w6 hl6
    have X6 := laters_ext hl6
    clear hl6 l0 l1 l2
    go_wp2
    go_ret
    exact ⟨rfl, hx.trans X6⟩
end Go.Proofs.Ytkbbneknblnbnaa

import Derived.Test.YtkmfamidahlgiaaGreatDoorKI
/- The walk of OneAlone. -/
namespace Go.Proofs.YtkmfamidahlgiaaGreatDoor
open Go.RowKit
set_option linter.unusedVariables false
set_option linter.unusedSimpArgs false
set_option maxHeartbeats 8000000
attribute [local go_sem] later_cell later_frozen later_const
theorem fst_gate {y : LY} {ups : List (List Int)} (K : BK y ups) {c : Nat} (h : c < y.n) : fsC y.V y.W y.C y.S y.n c = cutS y.W y.S := by
  have hm := K.m
  have hk := (K.gate c h).2
  have : useN y.V y.n y.C c = (1, (c : Int)) := by
    unfold useN useL
    rw [if_neg (by omega), if_pos (by omega)]
  unfold fsC
  rw [this]
  exact if_pos (.inl rfl)
theorem d64_plus {P n : Int} (h0 : 0 ≤ n) (h1 : n ≤ 1000) : D64 (U64 (P + n) - P) = n := by unfold D64 U64; omega
theorem d64_zero (P : Int) : ¬ D64 (P - P) < 0 := by unfold D64; omega
/-- a claim of a thread that is alone: granted, or one gate further -/
theorem al_step {C : Int} {f : Nat → Int} {n : Nat} {xs : List Int} {P L nn : Int} {log log' : List Acc} {EL EL' : List Ev} {d : Bool} {x x' : Fm} {N' L' : Int} {j : Nat} (hx : Gts n xs) (hf : ∀ c, c < n → f c = P) (h1 : 1 ≤ nn) (h2 : nn ≤ C) (hC : C ≤ 64) (hxx : j = 0 ∧ x = ⟨nn, 0, 0, 0, 0, 0⟩ ∨ 0 < j ∧ x = ⟨nn, 1, j, P, P, 0⟩) (hj : j < xs.length) (h : ClRel64 C f xs 0 x P L log EL d x' N' L' log' EL') :
    log'.length ≤ log.length + 1 ∧ ((d = true ∧ x'.Fr = P ∧ x'.N = nn ∧ N' = U64 (P + nn) ∧ EL'.length = EL.length + 2) ∨ (d = false ∧ j + 1 < xs.length ∧ x' = ⟨nn, 1, (j + 1 : Nat), P, P, 0⟩ ∧ N' = P ∧ EL' = EL)) := by
  have hN : x.N = nn := by rcases hxx with ⟨-, rfl⟩ | ⟨-, rfl⟩ <;> rfl
  rcases h with ⟨hP, -, rfl, rfl, rfl, -, rfl, rfl⟩ | ⟨x1, sd, I', M', hf1, hsc, hres⟩
  · exact ⟨by omega, .inl ⟨rfl, rfl, hN, by rw [hN], by simp⟩⟩
  · obtain ⟨Mn, hMn, hx1⟩ : ∃ Mn, (j = 0 ∨ Mn = P) ∧ x1 = ⟨nn, 1, j, P, Mn, 0⟩ := by
      rcases hf1 with ⟨hp, rfl⟩ | ⟨hp, -, rfl⟩
      · rcases hxx with ⟨-, rfl⟩ | ⟨h0, rfl⟩
        · exact absurd hp (show ¬ ((0 : Int) = 1) by decide)
        · exact ⟨P, .inr rfl, rfl⟩
      · rcases hxx with ⟨rfl, rfl⟩ | ⟨h0, rfl⟩
        · exact ⟨0, .inl rfl, rfl⟩
        · exact absurd rfl hp
    subst hx1
    rcases hsc with ⟨h0, -⟩ | ⟨i, c, hI, hi, hc, rfl, rfl, rfl, rfl⟩
    · omega
    have hij : i = j := by have : (j : Int) = i := hI; omega
    subst hij
    obtain ⟨c', hc', hcn⟩ := hx.at_ i hi
    have hcc : c' = c := by omega
    subst hcc
    have hfc := hf c' hcn
    have hM : (if i = 0 ∨ D64 (f c' - (⟨nn, 1, i, P, Mn, 0⟩ : Fm).Mn) < 0 then f c' else (⟨nn, 1, i, P, Mn, 0⟩ : Fm).Mn) = P := by
      rw [hfc]
      rcases hMn with h0 | rfl
      · rw [if_pos (.inl h0)]
      · show (if i = 0 ∨ D64 (Mn - Mn) < 0 then Mn else Mn) = Mn
        split <;> rfl
    rw [hM] at hres
    refine ⟨by simp, ?_⟩
    rcases hres with ⟨hs, rfl, rfl, rfl, -, rfl⟩ | ⟨hs, hno, -⟩ | ⟨hs, -, rfl, rfl, rfl, -, rfl⟩
    · have hne : ¬ i + 1 = xs.length := by simpa using hs
      exact .inr ⟨rfl, by omega, by rw [if_neg hne]; rfl, rfl, rfl⟩
    · exact absurd (show D64 (U64 (P + nn) - P) ≤ C by rw [d64_plus (by omega) (by omega)]; exact h2) hno
    · exact .inl ⟨rfl, rfl, rfl, rfl, by simp⟩
/-- the configuration's own cells, beside a sequencer -/
structure CbQ (w : World) (b g : Nat) (lv : Value) (sb lb : Nat) (vL : Value) (cb : Nat) (C : Int) (a : Option Addr) (n cap : Nat) : Prop where
  c2 : w.cell? ⟨cb, 2, none⟩ = some (.int .i64 C)
  c3 : w.cell? ⟨cb, 3, none⟩ = some (.int .i64 1)
  c5 : w.cell? ⟨cb, 5, none⟩ = some (.slice a n cap)
  m : ¬ Mine b g lv sb lb vL cb
  l : cb < w.heap.size
theorem CbQ.step {S : Nat → Prop} {w w' : World} {b g sb lb cb n cap : Nat} {lv lv2 vL vL2 : Value} {C : Int} {a : Option Addr} (h : CbQ w b g lv sb lb vL cb C a n cap) (hN : But S w w') (hs : ∀ k, S k → Mine b g lv sb lb vL k ∨ k ≠ cb) (hA : lv2.ownBlock = lv.ownBlock ∨ ∃ j, lv2.ownBlock = some j ∧ w.heap.size ≤ j) (hL : vL2.ownBlock = vL.ownBlock ∨ ∃ j, vL2.ownBlock = some j ∧ w.heap.size ≤ j) : CbQ w' b g lv2 sb lb vL2 cb C a n cap := by
  have nk : ¬ S cb := fun e => (hs cb e).elim h.m (fun e => e rfl)
  exact ⟨hN.cell h.c2 nk, hN.cell h.c3 nk, hN.cell h.c5 nk, mine_out h.m h.l hA hL, Nat.lt_of_lt_of_le h.l hN.size⟩
theorem CbQ.ext {w w' : World} {b g sb lb cb n cap : Nat} {lv vL : Value} {C : Int} {a : Option Addr} (h : CbQ w b g lv sb lb vL cb C a n cap) (hx : Ext w w') : CbQ w' b g lv sb lb vL cb C a n cap :=
  h.step (hx.but (fun _ => False)) (fun _ e => e.elim) (.inl rfl) (.inl rfl)
theorem ends_pos {ups : List (List Int)} {k : Nat} (e : ups = List.replicate (k + 1) []) (h6 : k + 1 ≤ 6) : 0 < (endsG ups).length := by
  subst e
  have rt : Rt (List.replicate (k + 1) []) → 0 < (endsG (List.replicate (k + 1) [])).length := fun rt => by
    unfold endsG
    rw [if_pos (chk_zero.2 rt)]
    have ha : aheadB (List.replicate (k + 1) []) 0 = false := by
      cases hh : aheadB (List.replicate (k + 1) []) 0 with
      | false => rfl
      | true =>
        obtain ⟨d, hr⟩ := ahead_iff.1 hh
        have := hr.src
        unfold R at hr
        simp at this
        rw [show (List.replicate (k + 1) ([] : List Int)).getD d [] = [] by simp [this]] at hr
        cases hr
    have hm : ((0 : Nat) : Int) ∈ sel (List.replicate (k + 1) ([] : List Int)).length (fun c => !aheadB (List.replicate (k + 1) []) c) := mem_sel.2 ⟨0, by simp, by rw [ha]; rfl, rfl⟩
    exact List.length_pos_of_mem hm
  exact rt (rt_nils (by omega) h6)
set_option maxRecDepth 100000 in
theorem oneAlone_walk (wd : Bool) (l q k : Nat) (S : Int) (a2 : Option Addr) (len2 cap2 : Nat) (zs : List Int) (w : World) (hc : l < 256 ∧ q < 256 ∧ k < 256 ∧ 0 ≤ S ∧ S < 18446744073709551616) (hR : IsRow .u8 w a2 len2 cap2 zs) (E : Parts w ∧ Tab w) :
    Calls Tryz.prog 7 #[.agg #[.bool wd, .int .u8 l, .int .u8 q, .int .u8 k, .int .u64 S], .slice a2 len2 cap2] w fun e w' => e = .returned (.bool true) ∧ Below w.heap.size w w' := by
  obtain ⟨hl, -, hk, hS0, hS1⟩ := hc
  have HE := Lib.hid (fun w' (hx : Ext w w') => E.1.ext hx)
  have HT := Lib.hid (fun w' (hx : Ext w w') => E.2.ext hx)
  have HS := Lib.hid (And.intro hS0 hS1)
  have HROW := Lib.hid (fun i (hi : i < len2) => row_u8 hR hi)
  have CC := Lib.hid (fun w' => conf19_64 l q k S w' hl hk)
  have CV := Lib.hid (fun w' (hx : Ext w w') => live19 w' (E.1.ext hx) (E.2.ext hx))
  have hck : ckC 1 64 (capS l) 1 (List.replicate (k % 3 + 1) []) = 0 := case_ok l (k % 3 + 1) (by decide) (.inr rfl) (by decide) (by omega) (by omega)
  have hll : ∀ x ∈ List.replicate (k % 3 + 1) ([] : List Int), x.length ≤ 1000000 := fun x hx => by rw [List.eq_of_mem_replicate hx]; simp
  have hnn : (List.replicate (k % 3 + 1) ([] : List Int)).length ≤ 1000000 := by simp; omega
  have CO := Lib.hid (fun w' u (hL : ListsV w' u (List.replicate (k % 3 + 1) [])) => of_board 1 64 (capS l) 1 S u (List.replicate (k % 3 + 1) []) w' hL hll hnn hck)
  have CN := Lib.hid (fun (y : LY) w' (K : BK y (List.replicate (k % 3 + 1) [])) hw hL h0 h1 => new_board64 y (List.replicate (k % 3 + 1) []) w' K hw hL h0 h1)
  have CYes := Lib.hid (fun b g lb y f lv vL log EL w' (K : BK y (List.replicate (k % 3 + 1) [])) hW h hV G X hob T h0 h1 => soNew64_yes w b g lb y f lv vL log EL (List.replicate (k % 3 + 1) []) w' K hW h hV G X hob T h0 h1)
  have HCAP := Lib.hid (capS_is l)
  have HEP := Lib.hid (ends_pos (ups := List.replicate (k % 3 + 1) []) (k := k % 3) rfl (by omega))
  have hun : (List.replicate (k % 3 + 1) ([] : List Int)).length = k % 3 + 1 := by simp
  have hk3 : k % 3 + 1 ≤ 3 := by omega
  clear hll hnn hck hk hl E hS0 hS1 hR
  generalize hups : List.replicate (k % 3 + 1) ([] : List Int) = ups at *
  have HUPS := Lib.hid hups
  clear hups
  obtain ⟨un, hun2⟩ : ∃ un : Nat, un = k % 3 + 1 := ⟨_, rfl⟩
  rw [← hun2] at hun hk3
  have HUN := Lib.hid hun
  have HU2 := Lib.hid hun2
  clear hun hun2
  go_enter Tryz.func7, Tryz.ntmps7
  go_upto_region 2 with (fail)
  go_wp2_with fail
  refine (CC.out _).mono ?_
  rintro e w3 ⟨ca, ccap, rfl, hL, X3⟩
  rw [HUPS.out, ← HU2.out] at hL
  rw [← HU2.out]
  have HL := Lib.hid hL
  have HX3 := Lib.hid (Ext.trans (show Ext w _ by repeat (first | exact Ext.refl _ | refine Ext.setCell ?_ (by simp) _ | refine Ext.alloc ?_ _)) X3)
  clear hL X3 CC
  go_upto_region 3 with (fail)
  refine settle_wp ?_
  intro w4 hb4
  have qc_0 : w4.cell? ⟨w3.heap.size, 0, none⟩ = some (.int .i64 1) := hb4.cell (by simp [go_sem])
  have qc_1 : w4.cell? ⟨w3.heap.size, 1, none⟩ = some (.int .i64 64) := hb4.cell (by simp [go_sem])
  have qc_2 : w4.cell? ⟨w3.heap.size, 2, none⟩ = some (.int .i64 (capS l)) := hb4.cell (by simp [go_sem])
  have qc_3 : w4.cell? ⟨w3.heap.size, 3, none⟩ = some (.int .i64 1) := hb4.cell (by simp [go_sem])
  have qc_4 : w4.cell? ⟨w3.heap.size, 4, none⟩ = some (.int .u64 S) := hb4.cell (by simp [go_sem])
  have qc_5 : w4.cell? ⟨w3.heap.size, 5, none⟩ = some (.slice ca un ccap) := hb4.cell (by simp [go_sem])
  have X34 : Ext w3 w4 := Ext.trans (by repeat (first | with_reducible exact Ext.refl _ | with_reducible assumption | with_reducible refine Ext.alloc ?_ _ | with_reducible refine Ext.drew ?_ | with_reducible refine Ext.drewN ?_ _ | with_reducible refine Ext.setCell ?_ (by simp <;> omega) _ | with_reducible refine Ext.trans ?_ (by assumption))) hb4
  have HX4 := Lib.hid (HX3.out.trans X34)
  have HL4 := Lib.hid (HL.out.ext X34)
  have HCB : Hid (w.heap.size ≤ w3.heap.size ∧ w3.heap.size < w4.heap.size) := Lib.hid ⟨HX3.out.size, World.block_lt_of_cell? w4 _ qc_0⟩
  clear hb4 X34 HX3 HL
  generalize w3.heap.size = cb at *
  by_cases h60 : 60 < len2
  · have d60 : decide ((60 : Int) < (len2 : Int)) = true := by simp; omega
    go_wp2_with fail
    refine (CV.out _ HX4.out).mono ?_
    rintro e wz ⟨rfl, hz⟩
    have HZ := Lib.hid (HX4.out.trans hz)
    clear hz
    go_wp2
    go_ret
    exact ⟨rfl, Ext.below HZ.out⟩
  have d60 : decide ((60 : Int) < (len2 : Int)) = false := by simp; omega
  have H60 := Lib.hid h60
  clear h60
  go_wp2_with fail
  refine (CO.out w4 _ HL4.out).mono ?_
  rintro e wo ⟨y0, K0, o0, rfl, O0, Xo⟩
  have HK0 := Lib.hid K0
  have Ho0 := Lib.hid o0
  have HO0 := Lib.hid O0
  replace qc_0 := Xo.cell qc_0
  replace qc_1 := Xo.cell qc_1
  replace qc_2 := Xo.cell qc_2
  replace qc_3 := Xo.cell qc_3
  replace qc_4 := Xo.cell qc_4
  replace qc_5 := Xo.cell qc_5
  have HXo := Lib.hid (HX4.out.trans Xo)
  clear K0 o0 O0 Xo HL4 HX4 CO d60
  go_upto_region 6 with (fail)
  refine settle_wp ?_
  intro w6 hb6
  have ql_0 : w6.cell? ⟨wo.heap.size, 0, none⟩ = some (.int .i64 y0.V) := hb6.cell (by simp [go_sem])
  have ql_1 : w6.cell? ⟨wo.heap.size, 1, none⟩ = some (.int .i64 y0.W) := hb6.cell (by simp [go_sem])
  have ql_2 : w6.cell? ⟨wo.heap.size, 2, none⟩ = some (.int .i64 y0.C) := hb6.cell (by simp [go_sem])
  have ql_3 : w6.cell? ⟨wo.heap.size, 3, none⟩ = some (.int .i64 y0.P) := hb6.cell (by simp [go_sem])
  have ql_4 : w6.cell? ⟨wo.heap.size, 4, none⟩ = some (.int .u64 y0.S) := hb6.cell (by simp [go_sem])
  have ql_5 : w6.cell? ⟨wo.heap.size, 5, none⟩ = some (.slice y0.a y0.n y0.cap) := hb6.cell (by simp [go_sem])
  have ql_6 : w6.cell? ⟨wo.heap.size, 6, none⟩ = some (.int .i64 y0.Cu) := hb6.cell (by simp [go_sem])
  have ql_7 : w6.cell? ⟨wo.heap.size, 7, none⟩ = some (.int .i64 y0.Cl) := hb6.cell (by simp [go_sem])
  have ql_8 : w6.cell? ⟨wo.heap.size, 8, none⟩ = some (.int .i64 y0.Ti) := hb6.cell (by simp [go_sem])
  have ql_9 : w6.cell? ⟨wo.heap.size, 9, none⟩ = some (.int .i64 y0.Se) := hb6.cell (by simp [go_sem])
  have ql_10 : w6.cell? ⟨wo.heap.size, 10, none⟩ = some (.int .i64 y0.Ne) := hb6.cell (by simp [go_sem])
  have ql_11 : w6.cell? ⟨wo.heap.size, 11, none⟩ = some (.int .i64 y0.Ma) := hb6.cell (by simp [go_sem])
  have ql_12 : w6.cell? ⟨wo.heap.size, 12, none⟩ = some (.int .i64 y0.Sl) := hb6.cell (by simp [go_sem])
  have ql_13 : w6.cell? ⟨wo.heap.size, 13, none⟩ = some (.int .i64 y0.m) := hb6.cell (by simp [go_sem])
  have X6 : Ext wo w6 := Ext.trans ((Ext.refl wo).alloc _) hb6
  replace qc_0 := X6.cell qc_0
  replace qc_1 := X6.cell qc_1
  replace qc_2 := X6.cell qc_2
  replace qc_3 := X6.cell qc_3
  replace qc_4 := X6.cell qc_4
  replace qc_5 := X6.cell qc_5
  have HX6 := Lib.hid (HXo.out.trans X6)
  have HO6 := Lib.hid (HO0.out.ext X6)
  have hcb6 : cb < w6.heap.size := World.block_lt_of_cell? w6 _ qc_0
  have HCB6 := Lib.hid hcb6
  clear hb6 X6 HXo HO0 hcb6
  go_wp2_with fail
  refine (CN.out y0 _ HK0.out Ho0.out.w HO6.out (by rw [Ho0.out.s]; exact HS.out.1) (by rw [Ho0.out.s]; exact HS.out.2)).mono ?_
  rintro e w7 ⟨b, g, y, rfl, K, o, B, X7, hb7, hg7⟩
  have HK := Lib.hid K
  have oy : OfC y 1 64 (capS l) 1 S un := ⟨o.v.trans Ho0.out.v, o.w.trans Ho0.out.w, o.c.trans Ho0.out.c, o.p.trans Ho0.out.p, o.s.trans Ho0.out.s, o.n.trans (Ho0.out.n.trans HUN.out)⟩
  have Hoy := Lib.hid oy
  have HB := Lib.hid B
  replace qc_0 := X7.cell qc_0
  replace qc_1 := X7.cell qc_1
  replace qc_2 := X7.cell qc_2
  replace qc_3 := X7.cell qc_3
  replace qc_4 := X7.cell qc_4
  replace qc_5 := X7.cell qc_5
  have HX7 := Lib.hid (HX6.out.trans X7)
  have HOB : Hid (∀ k, Own b g (.slice none 0 0) k → w.heap.size ≤ k ∧ k ≠ cb) := Lib.hid (fun k hk => by
    have h1 := HX6.out.size
    have h2 := HCB6.out
    rcases hk with e | e | e
    · omega
    · omega
    · cases e)
  have hG : ∀ c : Nat, c < y.n → fsC y.V y.W y.C y.S y.n c = S := fun c hc => by
    rw [fst_gate K hc, oy.w, oy.s]
    rfl
  have HGT := Lib.hid hG
  have HRG := Lib.hid (rgs_first64 K oy.w (by rw [oy.s]; exact HS.out.1) (by rw [oy.s]; exact HS.out.2))
  generalize fsC y.V y.W y.C y.S y.n = F0 at *
  clear K o B X7 hb7 hg7 HK0 Ho0 HO6 HX6 CN hG oy ql_0 ql_1 ql_2 ql_3 ql_4 ql_5 ql_6 ql_7 ql_8 ql_9 ql_10 ql_11 ql_12 ql_13
  go_wp2_with fail
  refine (eNew _).mono ?_
  rintro e w8 ⟨rfl, hw8⟩
  have X78 : Ext w7 w8 := by rw [hw8]; exact (Ext.refl w7).alloc _
  have HLG : Hid (LG w w8 w7.heap.size (.slice none 0 0) []) := Lib.hid (by rw [hw8]; exact LG.new w w7 HX7.out)
  have hcl : w7.heap.size ≠ cb := fun e => by have := World.block_lt_of_cell? w7 _ qc_0; simp at this; omega
  replace qc_0 := X78.cell qc_0
  replace qc_1 := X78.cell qc_1
  replace qc_2 := X78.cell qc_2
  replace qc_3 := X78.cell qc_3
  replace qc_4 := X78.cell qc_4
  replace qc_5 := X78.cell qc_5
  have HX8 := Lib.hid (HX7.out.trans X78)
  have HB8 := Lib.hid (HB.out.ext X78)
  clear hw8 X78 HB HX7
  generalize w7.heap.size = lb at *
  go_wp2_with fail
  refine (CYes.out b g lb y F0 _ _ [] [] w8 HK.out Hoy.out.w HB8.out Hoy.out.v HLG.out HX8.out (fun k hk => (HOB.out k hk).1) (HT.out _ HX8.out) (by rw [Hoy.out.s]; exact HS.out.1) (by rw [Hoy.out.s]; exact HS.out.2)).mono ?_
  rintro e w9 ⟨sb, su, ev, rfl, hST, X9, hsb⟩
  have HST : Hid (ST64 w w9 b g sb lb y F0 (.slice none 0 0) [] ups su ev (endsG ups) S S (.slice none 0 0) []) := Lib.hid (by
    rw [Hoy.out.s] at hST
    exact hST)
  have hcs : sb ≠ cb := fun e => by have := World.block_lt_of_cell? w8 _ qc_0; simp at this; omega
  replace qc_0 := X9.cell qc_0
  replace qc_1 := X9.cell qc_1
  replace qc_2 := X9.cell qc_2
  replace qc_3 := X9.cell qc_3
  replace qc_4 := X9.cell qc_4
  replace qc_5 := X9.cell qc_5
  have hnm : ¬ Mine b g (.slice none 0 0) sb lb (.slice none 0 0) cb := by
    rintro (e | e | e | e)
    · exact (HOB.out _ e).2 rfl
    · exact hcs e.symm
    · exact hcl e.symm
    · cases e
  have HQ : Hid (CbQ w9 b g (.slice none 0 0) sb lb (.slice none 0 0) cb (capS l) ca un ccap) := Lib.hid ⟨qc_2, qc_3, qc_5, hnm, World.block_lt_of_cell? w9 _ qc_0⟩
  have HGX : Hid (Gts y.n (endsG ups)) := Lib.hid (ends_gts HK.out)
  have hel : (endsG ups).length ≤ 3 := by have := endsG_len ups; have := HUN.out; omega
  have HEL := Lib.hid hel
  have hyn : y.n = un := Hoy.out.n
  have HYN := Lib.hid hyn
  clear hnm hST X9 hsb HB8 HLG HX8 HOB CYes hcs hcl hel hyn
  go_upto_region 10 with (fail)
  clear qc_0 qc_1 qc_2 qc_3 qc_4 qc_5
  have hmo : 10 ≤ wrap64 (wrap64 (wrap64 (4 * capS l) + ↑un) + 8) := by
    have h1 := HCAP.out
    have h2 : (un : Int) ≤ 3 := by have := HUN.out; have := HU2.out; omega
    have h3 : (0 : Int) ≤ (un : Int) := by omega
    rcases h1 with e | e | e | e <;> rw [e] <;> unfold wrap64 <;> omega
  have HMO := Lib.hid hmo
  clear hmo
  generalize wrap64 (wrap64 (wrap64 (4 * capS l) + ↑un) + 8) = MO at *
  generalize capS l = C at *
  go_wp2
  go_loopw [12, 13] (fun p i wr => ∃ kk : Nat, kk ≤ len2 ∧ i = .int .i64 kk ∧ ∃ P f lv log L vL EL, p = .int .u64 P ∧ ST64 w wr b g sb lb y f lv log ups su ev (endsG ups) P L vL EL ∧ (∀ c : Nat, c < y.n → f c = P) ∧ Rgs64 f ∧ (0 ≤ P ∧ P < 18446744073709551616) ∧ log.length ≤ 10 * kk ∧ EL.length ≤ 10 * kk ∧ CbQ wr b g lv sb lb vL cb C ca un ccap) (fun _ i _ => len2 - (intOf i).toNat)
  case atStart => exact ⟨0, Nat.zero_le _, rfl, S, F0, _, [], S, _, [], rfl, HST.out, HGT.out, HRG.out, HS.out, Nat.le_refl _, Nat.le_refl _, HQ.out⟩
  case round =>
    as_aux_lemma =>
      clear HST HGT HRG HQ
      obtain ⟨kk, hkk, rfl, P, f, lv, log, L, vL, EL, rfl, hST, hGT, hRG, hP, hlg, hle, hQ⟩ := hrel
      have HST := Lib.hid hST
      have HGT := Lib.hid hGT
      have HRG := Lib.hid hRG
      have HP := Lib.hid hP
      have HQ := Lib.hid hQ
      have HLG := Lib.hid hlg
      have HLE := Lib.hid hle
      have HXr := Lib.hid hST.X
      clear hST hGT hRG hP hQ hlg hle
      by_cases hlt : kk < len2
      case neg =>
        obtain rfl : kk = len2 := by omega
        go_wp2_with fail
        refine (CV.out _ HXr.out).mono ?_
        rintro e wz ⟨rfl, hz⟩
        have HZ := Lib.hid (HXr.out.trans hz)
        clear hz
        go_wp2
        go_ret
        exact ⟨rfl, Ext.below HZ.out⟩
      have hkl : (kk : Int) < (len2 : Int) := by omega
      have HKL := Lib.hid hlt
      obtain ⟨rb, ro, z, hz, ea, cz⟩ := HROW.out kk hlt
      subst ea
      replace cz := HXr.out.cell cz
      have c2 := HQ.out.c2
      have hz0 : (0 : Int) ≤ (z : Int) := by omega
      have hz1 : (z : Int) < 256 := by omega
      have hC2 : 2 ≤ C := by rcases HCAP.out with e | e | e | e <;> omega
      have hC16 : C ≤ 16 := by rcases HCAP.out with e | e | e | e <;> omega
      have hC0 : ¬ C = 0 := by omega
      have HC := Lib.hid (And.intro hC2 hC16)
      clear hlt hkk
      go_upto_region 13 with (fail)
      have k1 := fun w' (hx : Ext wr w') => hx.cell cz
      have k2 := fun w' (hx : Ext wr w') => hx.cell c2
      refine wp_region_held_drew (S := fun w' => Ext wr w') (by kernel_rfl) ?hbeg (fun hHeld => ?_)
      case hbeg => exact (Ext.refl wr).drew
      have hHeld0 : Ext wr wr := by first | exact Ext.refl _ | assumption
      first
        | (refine take_at (i := 0) (v := ?_) rfl rfl (by kernel_rfl) (by kernel_rfl) (by kernel_rfl) (fun _ _ _ h => h) (Or.inl ⟨by rfl, ?hy⟩) (by assumption) ?_
           case hy => (intro wz hSw; (try dsimp only at hSw); go_simp <;> with_reducible rfl)
           simp only [List.setIfInBounds_toArray, List.set_cons_zero, List.set_cons_succ])
        | (refine take_at (i := 0) (v := undef) rfl rfl (by kernel_rfl) (by kernel_rfl) (by kernel_rfl) (fun _ _ _ h => h) (Or.inr ⟨by rfl, rfl⟩) (by assumption) ?_
           simp only [List.setIfInBounds_toArray, List.set_cons_zero, List.set_cons_succ])
      first
        | (refine take_at (i := 1) (v := ?_) rfl rfl (by kernel_rfl) (by kernel_rfl) (by kernel_rfl) (fun _ _ _ h => h) (Or.inl ⟨by rfl, ?hy⟩) (by assumption) ?_
           case hy => (intro wz hSw; (try dsimp only at hSw); go_simp <;> with_reducible rfl)
           simp only [List.setIfInBounds_toArray, List.set_cons_zero, List.set_cons_succ])
        | (refine take_at (i := 1) (v := undef) rfl rfl (by kernel_rfl) (by kernel_rfl) (by kernel_rfl) (fun _ _ _ h => h) (Or.inr ⟨by rfl, rfl⟩) (by assumption) ?_
           simp only [List.setIfInBounds_toArray, List.set_cons_zero, List.set_cons_succ])
      first
        | (refine take_at (i := 2) (v := ?_) rfl rfl (by kernel_rfl) (by kernel_rfl) (by kernel_rfl) (fun _ _ _ h => h) (Or.inl ⟨by rfl, ?hy⟩) (by assumption) ?_
           case hy => (intro wz hSw; (try dsimp only at hSw); go_simp <;> with_reducible rfl)
           simp only [List.setIfInBounds_toArray, List.set_cons_zero, List.set_cons_succ])
        | (refine take_at (i := 2) (v := undef) rfl rfl (by kernel_rfl) (by kernel_rfl) (by kernel_rfl) (fun _ _ _ h => h) (Or.inr ⟨by rfl, rfl⟩) (by assumption) ?_
           simp only [List.setIfInBounds_toArray, List.set_cons_zero, List.set_cons_succ])
      first
        | (refine take_at (i := 3) (v := ?_) rfl rfl (by kernel_rfl) (by kernel_rfl) (by kernel_rfl) (fun _ _ _ h => h) (Or.inl ⟨by rfl, ?hy⟩) (by assumption) ?_
           case hy => (intro wz hSw; (try dsimp only at hSw); go_simp <;> with_reducible rfl)
           simp only [List.setIfInBounds_toArray, List.set_cons_zero, List.set_cons_succ])
        | (refine take_at (i := 3) (v := undef) rfl rfl (by kernel_rfl) (by kernel_rfl) (by kernel_rfl) (fun _ _ _ h => h) (Or.inr ⟨by rfl, rfl⟩) (by assumption) ?_
           simp only [List.setIfInBounds_toArray, List.set_cons_zero, List.set_cons_succ])
      first
        | (refine take_at (i := 4) (v := ?_) rfl rfl (by kernel_rfl) (by kernel_rfl) (by kernel_rfl) (fun _ _ _ h => h) (Or.inl ⟨by rfl, ?hy⟩) (by assumption) ?_
           case hy => (intro wz hSw; (try dsimp only at hSw); go_simp <;> with_reducible rfl)
           simp only [List.setIfInBounds_toArray, List.set_cons_zero, List.set_cons_succ])
        | (refine take_at (i := 4) (v := undef) rfl rfl (by kernel_rfl) (by kernel_rfl) (by kernel_rfl) (fun _ _ _ h => h) (Or.inr ⟨by rfl, rfl⟩) (by assumption) ?_
           simp only [List.setIfInBounds_toArray, List.set_cons_zero, List.set_cons_succ])
      first
        | (refine take_at (i := 5) (v := ?_) rfl rfl (by kernel_rfl) (by kernel_rfl) (by kernel_rfl) (fun _ _ _ h => h) (Or.inl ⟨by rfl, ?hy⟩) (by assumption) ?_
           case hy => (intro wz hSw; (try dsimp only at hSw); go_simp <;> with_reducible rfl)
           simp only [List.setIfInBounds_toArray, List.set_cons_zero, List.set_cons_succ])
        | (refine take_at (i := 5) (v := undef) rfl rfl (by kernel_rfl) (by kernel_rfl) (by kernel_rfl) (fun _ _ _ h => h) (Or.inr ⟨by rfl, rfl⟩) (by assumption) ?_
           simp only [List.setIfInBounds_toArray, List.set_cons_zero, List.set_cons_succ])
      first
        | (refine take_at (i := 6) (v := ?_) rfl rfl (by kernel_rfl) (by kernel_rfl) (by kernel_rfl) (fun _ _ _ h => h) (Or.inl ⟨by rfl, ?hy⟩) (by assumption) ?_
           case hy => (intro wz hSw; (try dsimp only at hSw); go_simp <;> with_reducible rfl)
           simp only [List.setIfInBounds_toArray, List.set_cons_zero, List.set_cons_succ])
        | (refine take_at (i := 6) (v := undef) rfl rfl (by kernel_rfl) (by kernel_rfl) (by kernel_rfl) (fun _ _ _ h => h) (Or.inr ⟨by rfl, rfl⟩) (by assumption) ?_
           simp only [List.setIfInBounds_toArray, List.set_cons_zero, List.set_cons_succ])
      first
        | (refine take_at (i := 7) (v := ?_) rfl rfl (by kernel_rfl) (by kernel_rfl) (by kernel_rfl) (fun _ _ _ h => h) (Or.inl ⟨by rfl, ?hy⟩) (by assumption) ?_
           case hy => (intro wz hSw; (try dsimp only at hSw); go_simp <;> with_reducible rfl)
           simp only [List.setIfInBounds_toArray, List.set_cons_zero, List.set_cons_succ])
        | (refine take_at (i := 7) (v := undef) rfl rfl (by kernel_rfl) (by kernel_rfl) (by kernel_rfl) (fun _ _ _ h => h) (Or.inr ⟨by rfl, rfl⟩) (by assumption) ?_
           simp only [List.setIfInBounds_toArray, List.set_cons_zero, List.set_cons_succ])
      first
        | (refine take_at (i := 8) (v := ?_) rfl rfl (by kernel_rfl) (by kernel_rfl) (by kernel_rfl) (fun _ _ _ h => h) (Or.inl ⟨by rfl, ?hy⟩) (by assumption) ?_
           case hy => (intro wz hSw; (try dsimp only at hSw); go_simp <;> with_reducible rfl)
           simp only [List.setIfInBounds_toArray, List.set_cons_zero, List.set_cons_succ])
        | (refine take_at (i := 8) (v := undef) rfl rfl (by kernel_rfl) (by kernel_rfl) (by kernel_rfl) (fun _ _ _ h => h) (Or.inr ⟨by rfl, rfl⟩) (by assumption) ?_
           simp only [List.setIfInBounds_toArray, List.set_cons_zero, List.set_cons_succ])
      first
        | (refine take_at (i := 9) (v := ?_) rfl rfl (by kernel_rfl) (by kernel_rfl) (by kernel_rfl) (fun _ _ _ h => h) (Or.inl ⟨by rfl, ?hy⟩) (by assumption) ?_
           case hy => (intro wz hSw; (try dsimp only at hSw); go_simp <;> with_reducible rfl)
           simp only [List.setIfInBounds_toArray, List.set_cons_zero, List.set_cons_succ])
        | (refine take_at (i := 9) (v := undef) rfl rfl (by kernel_rfl) (by kernel_rfl) (by kernel_rfl) (fun _ _ _ h => h) (Or.inr ⟨by rfl, rfl⟩) (by assumption) ?_
           simp only [List.setIfInBounds_toArray, List.set_cons_zero, List.set_cons_succ])
      refine wpAnyH_done (by kernel_rfl) ?_ _
      clear k1 k2 cz c2
      have hnb : 1 ≤ IntKind.i64.wrap (1 + (IntKind.i64.wrap (z : Int)).tmod C) ∧ IntKind.i64.wrap (1 + (IntKind.i64.wrap (z : Int)).tmod C) ≤ C := by
        rw [wrapS (x := (z : Int)) (by omega) (by omega), Int.tmod_eq_emod_of_nonneg (by omega)]
        have e1 := Int.emod_nonneg (z : Int) hC0
        have e2 := Int.emod_lt_of_pos (z : Int) (show 0 < C by omega)
        rw [wrapS (by omega) (by omega)]
        omega
      have HNB := Lib.hid hnb
      generalize IntKind.i64.wrap (1 + (IntKind.i64.wrap (z : Int)).tmod C) = nn at *
      replace HST := Lib.hid (HST.out.ext hHeld)
      replace HQ := Lib.hid (HQ.out.ext hHeld)
      clear hnb hHeld hz0 hz1 hC2 hC16 hC0 HXr
      generalize wr.drew = w1 at *
      go_upto_region 15 with (fail)
      refine settle_wp ?_
      intro w2 hb2
      have HFA := Lib.hid (fb_new64 HST.out ⟨nn, 0, 0, 0, 0, 0⟩ hb2)
      have X12 : Ext w1 w2 := Ext.trans ((Ext.refl w1).alloc _) hb2
      have hfc : w1.heap.size ≠ cb := fun e => by have := HQ.out.l; omega
      have hst2 := HST.out.ext X12
      have hq2 := HQ.out.ext X12
      have HST2 := Lib.hid hst2
      have HQ2 := Lib.hid hq2
      clear hb2 X12 HST HQ hst2 hq2
      go_wp2
      go_loopw [16] (fun s wr => ∃ j : Nat, s = .int .i64 ((j : Int) + 1) ∧ j < (endsG ups).length ∧ ∃ lv log L vL x F, ST64 w wr b g sb lb y f lv log ups su ev (endsG ups) P L vL EL ∧ F 0 = x ∧ FB64 w wr b g sb lb lv vL w1.heap.size 11 F ∧ (j = 0 ∧ x = ⟨nn, 0, 0, 0, 0, 0⟩ ∨ 0 < j ∧ x = ⟨nn, 1, j, P, P, 0⟩) ∧ CbQ wr b g lv sb lb vL cb C ca un ccap ∧ log.length ≤ 10 * kk + j) (fun s _ => (endsG ups).length + 1 - (intOf s).toNat)
      case atStart => exact ⟨0, rfl, HEP.out, lv, log, L, vL, _, _, HST2.out, rfl, HFA.out, .inl ⟨rfl, rfl⟩, HQ2.out, HLG.out⟩
      case round =>
        as_aux_lemma =>
          clear HST2 HFA HQ2 HLG
          obtain ⟨j, rfl, hj, lv, log, L, vL, x, F, hST, hF0, hFB, hxx, hQ, hlg⟩ := hrel
          have hI : ScAt (endsG ups) (F 0).I := by
            rw [hF0]
            rcases hxx with ⟨-, rfl⟩ | ⟨-, rfl⟩
            · exact .zero _
            · exact .inr ⟨j, rfl, hj⟩
          have hxN : (F 0).N = nn := by rw [hF0]; rcases hxx with ⟨-, rfl⟩ | ⟨-, rfl⟩ <;> rfl
          have hxF : 0 ≤ (F 0).Fr ∧ (F 0).Fr < 18446744073709551616 := by rw [hF0]; rcases hxx with ⟨-, rfl⟩ | ⟨-, rfl⟩; exact ⟨Int.le_refl _, (show (0 : Int) < 18446744073709551616 by decide)⟩; exact HP.out
          have hkk60 : kk < 60 := by have := H60.out; have := HKL.out; omega
          have hj3 : j ≤ 2 := by have := HEL.out; omega
          have CL := Lib.hid (soClaim64 HK.out Hoy.out.v (HE.out _ (Ext.refl _)) hST hFB (t := 0) (by decide) HGX.out hI HRG.out (by omega) (by have := HLE.out; omega) (by rw [hxN]; exact HNB.out.1) (by rw [hxN, Hoy.out.c]; exact HNB.out.2) HP.out hxF)
          have HXX := Lib.hid hxx
          have HF0 := Lib.hid hF0
          have HJ := Lib.hid hj
          have HQ := Lib.hid hQ
          have HLG := Lib.hid hlg
          have hsm : (j : Int) + 1 ≤ MO := by have := HMO.out; omega
          have hns : ¬ MO < (j : Int) + 1 := by omega
          clear hST hF0 hFB hxx hQ hlg hI hxN hxF hj
          go_wp2_with fail
          refine CL.out.mono ?_
          rintro e w3 ⟨d, x', N', L', log', EL', hcl, rfl, lv', vL', hrun⟩
          rw [HF0.out, Hoy.out.c] at hcl
          obtain ⟨hlog, hal⟩ := al_step HGX.out HGT.out HNB.out.1 HNB.out.2 (by have := HC.out; omega) HXX.out HJ.out hcl
          have HLOG : Hid (log'.length ≤ 10 * kk + j + 1) := Lib.hid (by have := HLG.out; omega)
          have HRUN := Lib.hid hrun
          have HQ3 := Lib.hid (HQ.out.step hrun.N (fun q hq => hq.imp id (fun e => by rw [e]; exact hfc)) hrun.A hrun.AL)
          clear CL hcl hrun hlog HQ HLG HXX HF0
          rcases hal with ⟨rfl, hFr, hNn, rfl, hEl⟩ | ⟨rfl, hj1, rfl, rfl, rfl⟩
          case inr =>
            have HJ1 := Lib.hid hj1
            clear hj1
            go_wp2
            exact ⟨⟨j + 1, by go_num, HJ1.out, lv', log', L', vL', _, _, HRUN.out.T, updF_at _ _ _, HRUN.out.F, .inr ⟨by omega, rfl⟩, HQ3.out, by have := HLOG.out; omega⟩, by have := HJ.out; simp [intOf]; omega⟩
          have HST := Lib.hid HRUN.out.T
          have HEL2 : Hid (EL'.length ≤ 10 * kk + 2) := Lib.hid (by have := HLE.out; omega)
          have c6 : w3.cell? ⟨w1.heap.size, 6, none⟩ = some (.int .u64 P) := by
            have := (HRUN.out.F.at_ (t := 0) (by decide) 6 (by decide)).1
            rw [updF_at] at this
            have h3 : fmc64 x' 6 = .int .u64 P := by rw [← hFr]; rfl
            rw [h3] at this
            exact this
          clear hFr hNn hEl HRUN HJ
          go_upto_region 21 with (fail)
          refine settle_wp ?_
          intro w4 hb4
          have HFG := Lib.hid (fb_new64 HST.out ⟨nn, 0, 0, P, 0, 0⟩ hb4)
          have X34 : Ext w3 w4 := Ext.trans ((Ext.refl w3).alloc _) hb4
          have hgc : w3.heap.size ≠ cb := fun e => by have := HQ3.out.l; omega
          have HST4 := Lib.hid (HST.out.ext X34)
          have HQ4 := Lib.hid (HQ3.out.ext X34)
          clear hb4 X34 HST HQ3 c6
          go_wp2
          go_loopw [16] (fun s wr => s = .int .i64 1 ∧ ST64 w wr b g sb lb y f lv' log' ups su ev (endsG ups) (U64 (P + nn)) L' vL' EL' ∧ FB64 w wr b g sb lb lv' vL' w3.heap.size 11 (fun _ => ⟨nn, 0, 0, P, 0, 0⟩) ∧ CbQ wr b g lv' sb lb vL' cb C ca un ccap) (fun _ _ => 0)
          case atStart => exact ⟨rfl, HST4.out, HFG.out, HQ4.out⟩
          case round =>
            as_aux_lemma =>
              clear HST4 HFG HQ4
              obtain ⟨rfl, hST, hG, hQ⟩ := hrel
              have CP := Lib.hid (soPublish64 HK.out Hoy.out.v (HE.out _ hST.X) hST hG (t := 0) (by decide) HRG.out (by have := HLOG.out; omega) (by have := HEL2.out; omega) HNB.out.1 (by rw [Hoy.out.c]; exact HNB.out.2) HP.out)
              have HQ := Lib.hid hQ
              have hm1 : (1 : Int) ≤ MO := by have := HMO.out; omega
              have hm2 : ¬ MO < 1 := by omega
              clear hST hG hQ
              go_wp2_with fail
              refine CP.out.mono ?_
              rintro e w5 ⟨rfl, lv5, vL5, R5⟩
              have HQ5 := Lib.hid (HQ.out.step R5.N (fun q hq => hq.imp id (fun e => by rw [e]; exact hgc)) R5.A R5.AL)
              have HST5 := Lib.hid R5.T
              have hrg5 : Rgs64 (Go.Proofs.YtkmfamidahlgiaaGreatDoor.upd f y.n (U64 (P + nn))) := HRG.out.upd y.n _ (U64_range _)
              have HRG5 := Lib.hid hrg5
              clear R5 CP HQ hrg5
              go_upto_region 25 with (fail)
              refine settle_wp ?_
              intro w6b hb6
              have HFH := Lib.hid (fb_new64 HST5.out ⟨0, 0, 0, 0, 0, P⟩ hb6)
              have X56 : Ext w5 w6b := Ext.trans ((Ext.refl w5).alloc _) hb6
              have hhc : w5.heap.size ≠ cb := fun e => by have := HQ5.out.l; omega
              have HST6 := Lib.hid (HST5.out.ext X56)
              have HQ6 := Lib.hid (HQ5.out.ext X56)
              clear hb6 X56 HST5 HQ5
              go_wp2
              go_loopw [19] (fun s wr => s = .int .i64 1 ∧ ST64 w wr b g sb lb y (Go.Proofs.YtkmfamidahlgiaaGreatDoor.upd f y.n (U64 (P + nn))) lv5 (log' ++ [⟨0, 2, y.n, f y.n, U64 (P + nn)⟩]) ups su ev (endsG ups) (U64 (P + nn)) L' vL5 (EL' ++ [evP 0 nn P]) ∧ FB64 w wr b g sb lb lv5 vL5 w5.heap.size 11 (fun _ => ⟨0, 0, 0, 0, 0, P⟩) ∧ CbQ wr b g lv5 sb lb vL5 cb C ca un ccap) (fun _ _ => 0)
              case atStart => exact ⟨rfl, HST6.out, HFH.out, HQ6.out⟩
              case round =>
                as_aux_lemma =>
                  clear HST6 HFH HQ6
                  obtain ⟨rfl, hST, hG, hQ⟩ := hrel
                  have CT := Lib.hid (soTip64 HK.out Hoy.out.v (HE.out _ hST.X) hST hG (t := 0) (by decide) HRG5.out (by have := HLOG.out; simp; omega) 1)
                  have HQ := Lib.hid hQ
                  have c3 := hQ.c3
                  clear hST hG hQ
                  go_wp2_with fail
                  refine CT.out.mono ?_
                  rintro e w7 ⟨rfl, lv7, R7⟩
                  have HQ7 := Lib.hid (HQ.out.step R7.N (fun q hq => hq.imp id (fun e => by rw [e]; exact hhc)) R7.A (.inl rfl))
                  have HST7 := Lib.hid R7.T
                  have HFH7 := Lib.hid R7.F
                  have hun7 : Go.Proofs.YtkmfamidahlgiaaGreatDoor.upd f y.n (U64 (P + nn)) y.n = U64 (P + nn) := if_pos rfl
                  have c8 : w7.cell? ⟨w5.heap.size, 8, none⟩ = some (.int .u64 (U64 (P + nn))) := by
                    have := (R7.F.at_ (t := 0) (by decide) 8 (by decide)).1
                    rw [updF_at] at this
                    have h3 : fmc64 { (⟨0, 0, 0, 0, 0, P⟩ : Fm) with Vl := Go.Proofs.YtkmfamidahlgiaaGreatDoor.upd f y.n (U64 (P + nn)) y.n } 8 = .int .u64 (U64 (P + nn)) := by rw [hun7]; rfl
                    rw [h3] at this
                    exact this
                  clear R7 CT HQ hun7 c3
                  go_wp2_with fail
                  refine (addU64 P nn w7).mono ?_
                  rintro e w' ⟨rfl, rfl⟩
                  have HPN := Lib.hid (U64_range (P + nn))
                  have HLOG7 : Hid (((log' ++ [(⟨0, 2, y.n, f y.n, U64 (P + nn)⟩ : Acc)]) ++ [(⟨1, 1, y.n, Go.Proofs.YtkmfamidahlgiaaGreatDoor.upd f y.n (U64 (P + nn)) y.n, Go.Proofs.YtkmfamidahlgiaaGreatDoor.upd f y.n (U64 (P + nn)) y.n⟩ : Acc)]).length ≤ 10 * kk + 5) := Lib.hid (by have := HLOG.out; simp; omega)
                  have HEL7 : Hid ((EL' ++ [evP 0 nn P]).length ≤ 10 * kk + 3) := Lib.hid (by have := HEL2.out; simp; omega)
                  go_upto_region 31 with (fail)
                  clear c8 hm1 hm2
                  go_wp2
                  go_loopw [20] (fun s wr => ∃ m : Nat, s = .int .i64 m ∧ m ≤ un ∧ ∃ f2 lv2 log2 F2, ST64 w wr b g sb lb y f2 lv2 log2 ups su ev (endsG ups) (U64 (P + nn)) L' vL5 (EL' ++ [evP 0 nn P]) ∧ (∀ c : Nat, c < m → f2 c = (U64 (P + nn))) ∧ Rgs64 f2 ∧ log2.length ≤ 10 * kk + 5 + m ∧ CbQ wr b g lv2 sb lb vL5 cb C ca un ccap ∧ FB64 w wr b g sb lb lv2 vL5 w5.heap.size 11 F2) (fun s _ => un - (intOf s).toNat)
                  case atStart => exact ⟨0, rfl, Nat.zero_le _, _, lv7, _, _, HST7.out, fun c hc => absurd hc (Nat.not_lt_zero _), HRG5.out, HLOG7.out, HQ7.out, HFH7.out⟩
                  case round =>
                    as_aux_lemma =>
                      clear HST7 HRG5 HLOG7 HQ7 HFH7
                      obtain ⟨m, rfl, hm, f2, lv2, log2, F2, hST, hfm, hrg, hlg, hQ, hFB⟩ := hrel
                      have HST := Lib.hid hST
                      have HFM := Lib.hid hfm
                      have HRG2 := Lib.hid hrg
                      have HLG2 := Lib.hid hlg
                      have HQ := Lib.hid hQ
                      have HFB := Lib.hid hFB
                      have c5 := hQ.c5
                      have c3 := hQ.c3
                      have hun3 : un ≤ 3 := hk3
                      clear hST hfm hrg hlg hQ hFB
                      by_cases hmu : m < un
                      case neg =>
                        have hmn : m = un := by omega
                        have HMN := Lib.hid hmn
                        have n1 : ¬ (m : Int) < (un : Int) := by omega
                        clear hmn hmu hm c3
                        go_wp2
                        exact ⟨⟨kk + 1, by have := HKL.out; omega, by go_num, (U64 (P + nn)), f2, lv2, log2, L', vL5, (EL' ++ [evP 0 nn P]), rfl, HST.out, fun c hc => HFM.out c (by have := HMN.out; have := HYN.out; omega), HRG2.out, HPN.out, by have := HLG2.out; have := HMN.out; omega, by have := HEL7.out; omega, HQ.out⟩, by have := HKL.out; simp [intOf]; omega⟩
                      have hmu2 : (m : Int) < (un : Int) := by omega
                      have hmk := HK.out.gate m (by have := HYN.out; omega)
                      have HMK := Lib.hid hmk
                      have hkk60 : kk < 60 := by have := H60.out; have := HKL.out; omega
                      have CSt := Lib.hid (fun th => Store64_yes b g y f2 lv2 log2 th (U64 (P + nn)) m wr HST.out.B.B HK.out.yok (HE.out _ HST.out.X) HMK.out.1 HPN.out.1 HPN.out.2 (HRG2.out m).1 (HRG2.out m).2 (by have := HLG2.out; omega))
                      have HMU := Lib.hid hmu
                      have hm0 : (0 : Int) ≤ (m : Int) := by omega
                      clear hmk hmu hm
                      go_wp2_with fail
                      refine (CSt.out _).mono ?_
                      rintro e w9 ⟨rfl, lv9, B9, N9, A9⟩
                      have HST9 := Lib.hid (HST.out.stepB (fb := w5.heap.size) B9 (N9.mono fun _ _ e => .inl e) HFB.out.m HFB.out.o HFB.out.w0 A9)
                      have HFB9 := Lib.hid (HFB.out.step N9 (fun q hq => .inl (.inl hq)) A9 (.inl rfl))
                      have HQ9 := Lib.hid (HQ.out.step N9 (fun q hq => .inl (.inl hq)) A9 (.inl rfl))
                      have HRG9 := Lib.hid (HRG2.out.upd m (U64 (P + nn)) HPN.out)
                      have HFM9 : Hid (∀ c : Nat, c < m + 1 → Go.Proofs.YtkmfamidahlgiaaGreatDoor.upd f2 m (U64 (P + nn)) c = (U64 (P + nn))) := Lib.hid (fun c hc => by
                        unfold Go.Proofs.YtkmfamidahlgiaaGreatDoor.upd
                        by_cases e : c = m
                        · rw [if_pos e]
                        · rw [if_neg e]
                          exact HFM.out c (by omega))
                      clear B9 N9 A9 HST HFB HQ HRG2 CSt c3 c5
                      go_wp2
                      exact ⟨⟨m + 1, by go_num, by have := HMU.out; omega, _, lv9, _, F2, HST9.out, HFM9.out, HRG9.out, by have := HLG2.out; simp; omega, HQ9.out, HFB9.out⟩, by have := HMU.out; simp [intOf]; omega⟩
end Go.Proofs.YtkmfamidahlgiaaGreatDoor

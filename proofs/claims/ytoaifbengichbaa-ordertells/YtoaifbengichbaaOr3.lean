/- order.Clocks. -/
import Derived.Test.YtoaifbengichbaaOrV
import Derived.Maps.RangeWalk
namespace Go.Proofs.Ytoaifbengichbaa
open Go.RowKit
set_option linter.unusedVariables false
set_option linter.unusedSimpArgs false
set_option maxHeartbeats 4000000
attribute [local go_sem] later_cell later_frozen later_const
/-- a look-up in a map whose run is known -/
theorem wpList_lookup_run {P : Program} {w : World} {ops : Array Oper} {rest : List Oper} {o : Oper} {a : Act} {Q : Exit → Act → World → Prop} (hg : o.guard = none) (m x : Operand) (t : TypeId) (ok : Bool) (hop : o.op = Op.lookup t m x ok)
    {mv kv v : Value} (hm : a.eval m = mv) (hx : a.eval x = kv) (hrun : (Instr.lookup t mv kv ok).run P w = .ok v w) (hK : wpList P ops Q rest (a.put o.dst v) w) : wpList P ops Q (o :: rest) a w := by
  refine wpList_plain hg fun K' hK' => ?_
  unfold Oper.wp
  simp [execOp, hop, hm, hx, hrun, Result.andThen]
  exact hK' _ _ hK
/-- .. and a store -/
theorem wpList_update_run {P : Program} {w w' : World} {ops : Array Oper} {rest : List Oper} {o : Oper} {a : Act} {Q : Exit → Act → World → Prop} (hg : o.guard = none) (m x u : Operand) (t : TypeId) (hop : o.op = Op.mapUpdate t m x u)
    {mv kv v : Value} (hm : a.eval m = mv) (hx : a.eval x = kv) (hu : a.eval u = v) (hrun : (Instr.mapUpdate t mv kv v).run P w = .ok () w') (hK : wpList P ops Q rest (a.put o.dst undef) w') : wpList P ops Q (o :: rest) a w := by
  refine wpList_plain hg fun K' hK' => ?_
  unfold Oper.wp
  simp [execOp, hop, hm, hx, hu, hrun, Result.andThen]
  exact hK' _ _ hK
/-- its cells are numbers of Go's -/
def WfL (ls : List Acc) : Prop := ∀ i, i < ls.length → (Lit.int .i64 (A ls i).c).wf = true
theorem rl_of {n : Int} {ls : List Acc} (h : rightL n ls = true) (hl : ls.length ≤ 1000) : ∃ m : Nat, n = m ∧ RL m ls := by
  unfold rightL at h
  rw [Bool.and_eq_true, List.all_eq_true] at h
  obtain ⟨h1, h2⟩ := h
  simp at h1
  refine ⟨n.toNat, by omega, ⟨by omega, by omega, hl, fun i hi => ?_⟩⟩
  rw [show ((n.toNat : Nat) : Int) = n by omega, ← A_at hi]
  exact h2 _ (List.getElem_mem hi)
theorem RL.right {n : Nat} {ls : List Acc} (R : RL n ls) : rightL n ls = true := right_yes_all (by have := R.n1; omega) (by have := R.n2; omega) (fun i hi => by rw [A_at hi]; exact R.ok i hi)
theorem prv_succ (ls : List Acc) (t : Int) (m : Nat) : prv ls t (m + 1) = if (A ls m).t = t then (m : Int) else prv ls t m := by
  have e : prv ls t (m + 1) = if (decide ((A ls m).t = t)) = true then (m : Int) else prv ls t m := rfl
  rw [e]
  simp
theorem lat_succ (n : Nat) (ls : List Acc) (m : Nat) (t : Int) : latL n ls (m + 1) t = if (A ls m).t = t then cl n ls m else latL n ls m t := by
  unfold latL
  rw [prv_succ]
  by_cases h : (A ls m).t = t
  · rw [if_pos h, if_neg (by omega), if_pos h]
    simp
  · rw [if_neg h, if_neg h]
theorem lat_zero (n : Nat) (ls : List Acc) (t : Int) : latL n ls 0 t = List.replicate n 0 := rfl
theorem RWS.congr {w : World} {b n B m : Nat} {f : Nat → Value} {c d : Nat → List Int} (h : RWS w b n B m f c) (e : ∀ i, i < m → c i = d i) : RWS w b n B m f d := ⟨h.va, fun i hi => by rw [← e i hi]; exact h.ri i hi⟩
def CDoes (w : World) (n : Nat) (ls : List Acc) (e : Ending) (w' : World) : Prop := ∃ v, e = .returned v ∧ CkV w' v (ck n ls ls.length) ∧ Ext w w'
theorem oClocks_no (n : Int) (v : Value) (ls : List Acc) (w : World) (h : AccV w v ls) (hr : rightL n ls = false) : Calls Try.prog 17 #[.int .i64 n, v] w fun e w' => e = .returned (.slice none 0 0) ∧ Ext w w' := by
  have C := oRight n v ls w h
  rw [hr] at C
  have HC := Lib.hid C
  clear C h
  go_enter Try.func17, Try.ntmps17
  go_wp2_with fail
  refine HC.out.mono ?_
  rintro e w1 ⟨rfl, X1⟩
  go_wp2
  go_ret
  exact ⟨rfl, X1⟩
theorem rws_ck {w : World} {b L B n : Nat} {f : Nat → Value} {ls : List Acc} (h : RWS w b L B L f (fun i => cl n ls i)) (cap : Nat) : CkV w (.slice (some ⟨b, 0, none⟩) L cap) (ck n ls L) :=
  (h.congr (d := fun i => (ck n ls L).getD i []) (fun i hi => (ck_get n ls i L hi).symm)).ckv (ck_len n ls L) cap
set_option maxRecDepth 100000 in
theorem oClocks_yes (n : Nat) (v : Value) (ls : List Acc) (w : World) (h : AccV w v ls) (R : RL n ls) (hwf : WfL ls) : Calls Try.prog 17 #[.int .i64 n, v] w (CDoes w n ls) := by
  have C := oRight n v ls w h
  rw [R.right] at C
  obtain ⟨a, cap, rfl, hcap, hmax⟩ := h.form
  have hL := R.l
  have n1 := R.n1
  have n2 := R.n2
  obtain ⟨L, hLL⟩ : ∃ L, L = ls.length := ⟨_, rfl⟩
  rw [← hLL] at hL hcap C ⊢
  have HC := Lib.hid C
  have HLL := Lib.hid hLL
  have HR := Lib.hid R
  have HA := Lib.hid h
  have HW := Lib.hid hwf
  have HG : Hid (∀ (W : World) (bc B : Nat) (f : Nat → Value), RWS W bc L B L f (fun i => cl n ls i) → Ext w W → CDoes w n ls (.returned (.slice (some ⟨bc, 0, none⟩) L L)) W) := Lib.hid (fun W bc B f hV hX => ⟨_, rfl, by rw [← HLL.out]; exact rws_ck hV L, hX⟩)
  generalize CDoes w n ls = G at *
  clear C h R hwf hLL
  have hmk1 := fun W => run_make_row' (P := Try.prog) 33 27 (.slice none 0 0) 24 Try.underlying33 info_ints rfl .i64 .i64 L (by omega) (by omega) W
  have hmk2 := fun W => run_make_row' (P := Try.prog) 33 27 (.slice none 0 0) 24 Try.underlying33 info_ints rfl .i64 .i64 n (by omega) (by omega) W
  have hmm := @run_makeMap Try.prog
  go_enter Try.func17, Try.ntmps17
  go_wp2_with fail
  refine HC.out.mono ?_
  rintro e w1 ⟨rfl, X1⟩
  go_wp2
  have V1 := va_new (n := L) w1 27 (madeCells #[.slice none 0 0] L) (fun _ => .slice none 0 0) (made_vl _ rfl L)
  have V1' := V1.ext ((Ext.refl _).alloc (.cells (madeCells #[.slice none 0 0] n) 27))
  have V2 := va_new (n := n) (w1.alloc (.cells (madeCells #[.slice none 0 0] L) 27)) 27 (madeCells #[.slice none 0 0] n) (fun _ => .slice none 0 0) (made_vl _ rfl n)
  have hs1 : (w1.alloc (.cells (madeCells #[.slice none 0 0] L) 27)).heap.size = w1.heap.size + 1 := by simp
  rw [hs1] at V2
  have hs2 : ((w1.alloc (.cells (madeCells #[.slice none 0 0] L) 27)).alloc (.cells (madeCells #[.slice none 0 0] n) 27)).heap.size = w1.heap.size + 2 := by simp
  have X2 : Ext w ((w1.alloc (.cells (madeCells #[.slice none 0 0] L) 27)).alloc (.cells (madeCells #[.slice none 0 0] n) 27)) := (X1.alloc _).alloc _
  have hsz := X1.size
  generalize (w1.alloc (.cells (madeCells #[.slice none 0 0] L) 27)).alloc (.cells (madeCells #[.slice none 0 0] n) 27) = w2 at *
  have HV1 : Hid (RWS w2 w1.heap.size L (w1.heap.size + 2) 0 (fun _ => .slice none 0 0) (fun i => cl n ls i)) := Lib.hid ⟨V1', fun i hi => by omega⟩
  have HV2 : Hid (RWS w2 (w1.heap.size + 1) n (w1.heap.size + 2) 0 (fun _ => .slice none 0 0) (fun _ => List.replicate n 0)) := Lib.hid ⟨V2, fun i hi => by omega⟩
  have HX2 := Lib.hid X2
  have hB0 : w1.heap.size + 2 ≤ w2.heap.size := by omega
  generalize hbc : w1.heap.size = bc at *
  clear V1 V1' V2 X1 X2 hs1 hs2 hbc hmk1 hmk2
  go_loopw [24] (fun i wr => ∃ k : Nat, k ≤ n ∧ i = .int .i64 k ∧ Ext w wr ∧ RWS wr bc L (bc + 2) 0 (fun _ => .slice none 0 0) (fun i => cl n ls i) ∧ bc + 2 ≤ wr.heap.size ∧ ∃ f, RWS wr (bc + 1) n (bc + 2) k f (fun _ => List.replicate n 0)) (fun i _ => n - (intOf i).toNat)
  case atStart => exact ⟨0, Nat.zero_le _, rfl, HX2.out, HV1.out, hB0, _, HV2.out⟩
  case round =>
    obtain ⟨k, hk, rfl, hx, hVc, hB, f, hVl⟩ := hrel
    by_cases hlt : k < n
    · have hkn : (k : Int) < (n : Int) := by omega
      have CN := Lib.hid (tNew_yes n wr n1 n2)
      have KC := Lib.hid hVc
      have KL := Lib.hid hVl
      have KX := Lib.hid hx
      clear hVc hVl hx
      go_wp2_with fail
      refine CN.out.mono ?_
      rintro e w3 ⟨v3, rfl, R3, X3⟩
      obtain ⟨a3, c3, e3⟩ := R3.ints.form
      subst e3
      have VL3 := KL.out.ext X3
      have q3 := VL3.va.c k hlt
      have z3 := VL3.va.z k hlt
      have KL4 := Lib.hid (VL3.set_new (by omega) hlt (R3.lower hB))
      have KC4 := Lib.hid ((KC.out.ext X3).low (x := bc + 1) (o := k) (by omega) (by omega) (.slice a3 (List.replicate n (0 : Int)).length c3))
      have KX4 := Lib.hid ((KX.out.trans X3).setCell (p := ⟨bc + 1, k, none⟩) (by show w.heap.size ≤ bc + 1; omega) (.slice a3 (List.replicate n (0 : Int)).length c3))
      have hB4 : bc + 2 ≤ (w3.setCell ⟨bc + 1, k, none⟩ (.slice a3 (List.replicate n (0 : Int)).length c3)).heap.size := by
        have := X3.size
        simp [World.setCell]
        omega
      generalize (List.replicate n (0 : Int)).length = rl at *
      clear R3 VL3 X3
      go_wp2
      exact ⟨⟨k + 1, by omega, by go_num, KX4.out, KC4.out, hB4, _, KL4.out⟩, by simp [intOf]; omega⟩
    · obtain rfl : k = n := by omega
      have KM := Lib.hid (WM.made wr ls)
      have KC := Lib.hid (hVc.ext ((Ext.refl wr).alloc (.map #[] 0)))
      have KL := Lib.hid ((hVl.congr (d := fun t => latL k ls 0 t) (fun i _ => rfl)).ext ((Ext.refl wr).alloc (.map #[] 0)))
      have KX := Lib.hid (hx.alloc (.map #[] 0))
      have hB1 : bc + 2 ≤ (wr.alloc (.map #[] 0)).heap.size := by simp; omega
      have hbm : bc + 2 ≤ wr.heap.size := hB
      clear hVc hVl hx hB
      go_wp2
      generalize wr.alloc (.map #[] 0) = w4 at *
      generalize wr.heap.size = bm at *
      go_loopw [36] (fun i wr => ∃ m : Nat, m ≤ L ∧ i = .int .i64 m ∧ Ext w wr ∧ bc + 2 ≤ wr.heap.size ∧ WM wr bm ls m ∧ (∃ f, RWS wr bc L (bc + 2) m f (fun i => cl k ls i)) ∧ ∃ g, RWS wr (bc + 1) k (bc + 2) k g (fun t => latL k ls m t)) (fun i _ => L - (intOf i).toNat)
      case atStart => exact ⟨0, Nat.zero_le _, rfl, KX.out, hB1, KM.out, ⟨_, KC.out⟩, _, KL.out⟩
      case round =>
        clear KX KM KC KL hB1
        obtain ⟨m, hm, rfl, hx, hB, hM, ⟨f, hC⟩, g, hV⟩ := hrel
        by_cases hlt : m < L
        case neg =>
          obtain rfl : m = L := by omega
          have HG2 := Lib.hid (HG.out wr bc _ f hC hx)
          clear hM hC hV hx
          go_wp2
          first
            | exact HG2.out
            | (go_ret; exact HG2.out)
            | (go_ret2; exact HG2.out)
        have hml : (m : Int) < (L : Int) := by omega
        have hmls : m < ls.length := by rw [← HLL.out]; exact hlt
        obtain ⟨b, off, ea, c0, c1, c2, c3, c4⟩ := HA.out.at hx hmls
        subst ea
        rw [A_at hmls] at c0 c1 c2 c3 c4
        obtain ⟨t0, t1⟩ := HR.out.t hmls
        have HWF := Lib.hid (HW.out m hmls)
        obtain ⟨tn, htn⟩ : ∃ tn : Nat, (A ls m).t = tn := ⟨(A ls m).t.toNat, by omega⟩
        have htk : tn < k := by omega
        have htk' : (tn : Int) < (k : Int) := by omega
        have ltl : bc + 1 < wr.heap.size := by omega
        have HT := Lib.hid htn
        have KNOW := hV.ri tn htk
        have KI := KNOW.ints
        obtain ⟨ag, cg, eg⟩ := KI.form
        have qg := hV.va.c tn htk
        rw [eg] at qg
        have HLAT := lat_ok HR.out (Nat.le_of_lt hmls) (A ls m).t t0 t1 (fun j hj => cl_ok HR.out j (by omega))
        rw [htn] at HLAT c0
        have hlen : (latL k ls m tn).length = k := HLAT.len
        rw [hlen] at qg eg
        rw [eg] at KI
        have HKI := Lib.hid KI
        have HCL := Lib.hid (cl_eq k ls m)
        have HOKM := Lib.hid (cl_ok HR.out m hmls)
        have HMM := Lib.hid hM
        have HC := Lib.hid hC
        have HV := Lib.hid hV
        have HX := Lib.hid hx
        have CA := Lib.hid (fun w => oAtomic (A ls m).k w)
        have CRD := Lib.hid (fun w => oReads (A ls m).k w)
        have CW := Lib.hid (fun w => oWrites (A ls m).k w)
        have HS : Hid (∀ s : Nat, awr ls (A ls m).c m = s → s < m) := Lib.hid (fun s hs => (lastP_some hs).1)
        have SRC : Hid (srcA ls m = if atB (A ls m).k && rdB (A ls m).k then awr ls (A ls m).c m else -1) := Lib.hid rfl
        have PUT := Lib.hid (fun W (hW : WM W bm ls m) hh => hW.put HWF.out (by omega) hh)
        have SKIP := Lib.hid (fun W (hW : WM W bm ls m) hh => hW.skip hh)
        have HLEN : Hid ((latL k ls m (tn : Int)).length = k) := Lib.hid hlen
        have HLATO := Lib.hid HLAT
        clear hM hC hV hx KNOW KI eg HLAT htn t0 t1 hmls hlen
        generalize hxx : A ls m = x at *
        go_upto_region 15 with (fail)
        refine settle_wp ?_
        intro wA hbA
        have XA : Ext wr wA := Ext.trans (by repeat (first | with_reducible exact Ext.refl _ | with_reducible assumption | with_reducible refine Ext.alloc ?_ _ | with_reducible refine Ext.drew ?_ | with_reducible refine Ext.drewN ?_ _ | with_reducible refine Ext.setCell ?_ (by simp <;> omega) _ | with_reducible refine Ext.trans ?_ (by assumption))) hbA
        have qa_0 : wA.cell? ⟨wr.heap.size, 0, none⟩ = some (.int .i64 tn) := hbA.cell (by simp [go_sem])
        have qa_1 : wA.cell? ⟨wr.heap.size, 1, none⟩ = some (.int .i64 x.k) := hbA.cell (by simp [go_sem])
        have qa_2 : wA.cell? ⟨wr.heap.size, 2, none⟩ = some (.int .i64 x.c) := hbA.cell (by simp [go_sem])
        have la : wr.heap.size < wA.heap.size := World.block_lt_of_cell? _ _ qa_0
        have HXA := Lib.hid XA
        have lk := (HMM.out.ext XA).look HWF.out
        obtain ⟨fr, hlk, hfr⟩ := lk
        clear hbA XA c0 c1 c2 c3 c4 qg
        cases hat : atB x.k
        case false =>
          rw [hat] at CA
          have hsrc : srcA ls m < 0 := by rw [SRC.out, hat]; simp
          by_cases hok : 0 ≤ awr ls x.c m
          · rw [show decide (0 ≤ awr ls x.c m) = true by simpa using hok] at hlk
            have HSRC := Lib.hid hsrc
            clear hsrc hfr
            have XW : Ext wr wA := HXA.out
            have XAW : Ext wA wA := Ext.refl wA
            have HK := Lib.hid (HKI.out.ext HXA.out)
            go_wp2_with (first | (at_lookup; refine wpList_lookup_run rfl _ _ 58 true rfl rfl rfl hlk ?_; go_frame) | fail)
            refine (CA.out _).mono ?_
            rintro e w' ⟨rfl, rfl⟩
            have CT := Lib.hid (tTick _ _ (tn : Int) wA HK.out (by have := HV.out; rw [show (latL k ls m (tn : Int)).length = k from HLEN.out]; omega))
            have hcl := HCL.out
            rw [if_pos HSRC.out, HT.out] at hcl
            have HTK : Hid (tickL (latL k ls m (tn : Int)) (tn : Int) = cl k ls m) := Lib.hid (by rw [hcl])
            clear hcl
            rw [HTK.out] at CT
            go_wp2_with (first | (at_lookup; refine wpList_lookup_run rfl _ _ 58 true rfl rfl rfl hlk ?_; go_frame) | fail)
            refine CT.out.mono ?_
            rintro e wT ⟨vT, rfl, RT, XT⟩
            obtain ⟨aT, cT, eT⟩ := RT.ints.form
            rw [HOKM.out.len] at eT
            subst eT
            have XT2 : Ext wr wT := XW.trans XT
            have VC := HC.out.ext XT2
            have qc := VC.va.c m hlt
            have zc := VC.va.z m hlt
            have RT2 : RI wT (bc + 2) (.slice aT k cT) (cl k ls m) := RT.lower (Nat.le_trans hB XW.size)
            have KC1 := VC.set_new (by omega) hlt RT2
            have KV1 := (HV.out.ext XT2).low (x := bc) (o := m) (by omega) (by omega) (.slice aT k cT)
            have KM1 := (HMM.out.ext XT2).but (but_setCell wT ⟨bc, m, none⟩ (.slice aT k cT)) (by intro e; simp at e; omega)
            have KX1 := (HX.out.trans XT2).setCell (p := ⟨bc, m, none⟩) (by show w.heap.size ≤ bc; omega) (.slice aT k cT)
            have RT3 : RI (wT.setCell ⟨bc, m, none⟩ (.slice aT k cT)) (bc + 2) (.slice aT k cT) (cl k ls m) := (but_setCell wT ⟨bc, m, none⟩ (.slice aT k cT)).row RT2 (fun g hg e => by have := (World.ownsRow.lt RT2 g hg).1; simp at e; omega)
            have XAT : Ext wA wT := XAW.trans XT
            have NB : But (fun j => j = bc) wA (wT.setCell ⟨bc, m, none⟩ (.slice aT k cT)) := (XAT.but _).trans (but_setCell wT ⟨bc, m, none⟩ (.slice aT k cT))
            have nea : ¬ wr.heap.size = bc := by omega
            have q1_0 := NB.cell qa_0 nea
            have q1_1 := NB.cell qa_1 nea
            have q1_2 := NB.cell qa_2 nea
            have sz1 : wr.heap.size < (wT.setCell ⟨bc, m, none⟩ (.slice aT k cT)).heap.size := Nat.lt_of_lt_of_le la NB.size
            have L1 := Lib.hid (And.intro KC1 (And.intro KV1 (And.intro KM1 (And.intro KX1 RT3))))
            clear VC RT RT2 RT3 KC1 KV1 KM1 KX1 NB XAT XT XT2 qa_0 qa_1 qa_2
            go_upto_region 19 with (fail)
            refine settle_wp ?_
            intro wS hbS
            have q2_0 := hbS.cell q1_0
            have q2_1 := hbS.cell q1_1
            have q2_2 := hbS.cell q1_2
            have K2C := L1.out.1.ext hbS
            have K2V := L1.out.2.1.ext hbS
            have K2M := L1.out.2.2.1.ext hbS
            have K2X := L1.out.2.2.2.1.trans hbS
            have K2R := L1.out.2.2.2.2.ext hbS
            have sz2 : wr.heap.size < wS.heap.size := Nat.lt_of_lt_of_le sz1 hbS.size
            have qm2 := K2C.va.c m hlt
            simp only [if_true] at qm2
            have L2 := Lib.hid (And.intro K2C (And.intro K2V (And.intro K2M (And.intro K2X K2R))))
            clear hbS q1_0 q1_1 q1_2 K2C K2V K2M K2X K2R sz1 qc zc
            refine wp_region_later_tail 8 (by kernel_rfl) (by kernel_rfl) ?_
            simp only [List.take_succ_cons, List.take_zero, List.drop_succ_cons, List.drop_zero]
            have l_0 := fun (g : Later wS) => g.ok.cell q2_0
            have l_m := fun (g : Later wS) => g.ok.cell qm2
            repeat (go_big_quiet_step ((fail)))
            refine wpQuiet_nil ?_
            intro wU hlU
            have XU := laters_ext hlU
            have VU := L2.out.2.1.ext XU
            have qu := VU.va.c tn htk
            have zu := VU.va.z tn htk
            have RU := L2.out.2.2.2.2.ext XU
            have K3V := VU.set (by omega) htk RU
            have K3C := (L2.out.1.ext XU).low (x := bc + 1) (o := tn) (by omega) (by omega) (.slice aT k cT)
            have K3M := (L2.out.2.2.1.ext XU).but (but_setCell wU ⟨bc + 1, tn, none⟩ (.slice aT k cT)) (by intro e; simp at e; omega)
            have K3X := (L2.out.2.2.2.1.trans XU).setCell (p := ⟨bc + 1, tn, none⟩) (by show w.heap.size ≤ bc + 1; omega) (.slice aT k cT)
            have N3 : But (fun j => j = bc + 1) wS (wU.setCell ⟨bc + 1, tn, none⟩ (.slice aT k cT)) := (XU.but _).trans (but_setCell wU ⟨bc + 1, tn, none⟩ (.slice aT k cT))
            have neb : ¬ wr.heap.size = bc + 1 := by omega
            have q3_1 := N3.cell q2_1 neb
            have q3_2 := N3.cell q2_2 neb
            have sz3 : wr.heap.size < (wU.setCell ⟨bc + 1, tn, none⟩ (.slice aT k cT)).heap.size := Nat.lt_of_lt_of_le sz2 N3.size
            have L3 := Lib.hid (And.intro K3C (And.intro K3V (And.intro K3M K3X)))
            clear hlU VU RU K3V K3C K3M K3X N3 XU l_0 l_m q2_0 q2_1 q2_2 qm2
            go_upto_region 20 with (fail)
            refine settle_wp ?_
            intro wX hbX
            have q4_1 := hbX.cell q3_1
            have q4_2 := hbX.cell q3_2
            have K4C := L3.out.1.ext hbX
            have K4V := L3.out.2.1.ext hbX
            have K4M := L3.out.2.2.1.ext hbX
            have K4X := L3.out.2.2.2.trans hbX
            have sz4 : wr.heap.size < wX.heap.size := Nat.lt_of_lt_of_le sz3 hbX.size
            have K4V' := K4V.congr (d := fun t => latL k ls (m + 1) t) (fun i hi => by
              rw [lat_succ, hxx, HT.out]
              by_cases e : i = tn
              · subst e
                rw [if_pos rfl, if_pos rfl]
              · rw [if_neg e, if_neg (by omega)])
            have L4 := Lib.hid (And.intro K4C (And.intro K4V' (And.intro K4M K4X)))
            clear hbX q3_1 q3_2 K4C K4V K4V' K4M K4X sz3 qu zu
            have KS := SKIP.out wX L4.out.2.2.1 (by simp [hat])
            have HKS := Lib.hid KS
            have hB5 : bc + 2 ≤ wX.heap.size := by omega
            clear KS
            go_wp2_with fail
            refine (CA.out _).mono ?_
            rintro e w' ⟨rfl, rfl⟩
            go_wp2
            exact ⟨⟨m + 1, by omega, by go_num, L4.out.2.2.2, hB5, HKS.out, ⟨_, L4.out.1⟩, _, L4.out.2.1⟩, by simp [intOf]; omega⟩
          · rw [show decide (0 ≤ awr ls x.c m) = false by simpa using hok] at hlk
            have HSRC := Lib.hid hsrc
            clear hsrc hfr
            have XW : Ext wr wA := HXA.out
            have XAW : Ext wA wA := Ext.refl wA
            have HK := Lib.hid (HKI.out.ext HXA.out)
            have CT := Lib.hid (tTick _ _ (tn : Int) wA HK.out (by have := HV.out; rw [show (latL k ls m (tn : Int)).length = k from HLEN.out]; omega))
            have hcl := HCL.out
            rw [if_pos HSRC.out, HT.out] at hcl
            have HTK : Hid (tickL (latL k ls m (tn : Int)) (tn : Int) = cl k ls m) := Lib.hid (by rw [hcl])
            clear hcl
            rw [HTK.out] at CT
            go_wp2_with (first | (at_lookup; refine wpList_lookup_run rfl _ _ 58 true rfl rfl rfl hlk ?_; go_frame) | fail)
            refine CT.out.mono ?_
            rintro e wT ⟨vT, rfl, RT, XT⟩
            obtain ⟨aT, cT, eT⟩ := RT.ints.form
            rw [HOKM.out.len] at eT
            subst eT
            have XT2 : Ext wr wT := XW.trans XT
            have VC := HC.out.ext XT2
            have qc := VC.va.c m hlt
            have zc := VC.va.z m hlt
            have RT2 : RI wT (bc + 2) (.slice aT k cT) (cl k ls m) := RT.lower (Nat.le_trans hB XW.size)
            have KC1 := VC.set_new (by omega) hlt RT2
            have KV1 := (HV.out.ext XT2).low (x := bc) (o := m) (by omega) (by omega) (.slice aT k cT)
            have KM1 := (HMM.out.ext XT2).but (but_setCell wT ⟨bc, m, none⟩ (.slice aT k cT)) (by intro e; simp at e; omega)
            have KX1 := (HX.out.trans XT2).setCell (p := ⟨bc, m, none⟩) (by show w.heap.size ≤ bc; omega) (.slice aT k cT)
            have RT3 : RI (wT.setCell ⟨bc, m, none⟩ (.slice aT k cT)) (bc + 2) (.slice aT k cT) (cl k ls m) := (but_setCell wT ⟨bc, m, none⟩ (.slice aT k cT)).row RT2 (fun g hg e => by have := (World.ownsRow.lt RT2 g hg).1; simp at e; omega)
            have XAT : Ext wA wT := XAW.trans XT
            have NB : But (fun j => j = bc) wA (wT.setCell ⟨bc, m, none⟩ (.slice aT k cT)) := (XAT.but _).trans (but_setCell wT ⟨bc, m, none⟩ (.slice aT k cT))
            have nea : ¬ wr.heap.size = bc := by omega
            have q1_0 := NB.cell qa_0 nea
            have q1_1 := NB.cell qa_1 nea
            have q1_2 := NB.cell qa_2 nea
            have sz1 : wr.heap.size < (wT.setCell ⟨bc, m, none⟩ (.slice aT k cT)).heap.size := Nat.lt_of_lt_of_le la NB.size
            have L1 := Lib.hid (And.intro KC1 (And.intro KV1 (And.intro KM1 (And.intro KX1 RT3))))
            clear VC RT RT2 RT3 KC1 KV1 KM1 KX1 NB XAT XT XT2 qa_0 qa_1 qa_2
            go_upto_region 19 with (fail)
            refine settle_wp ?_
            intro wS hbS
            have q2_0 := hbS.cell q1_0
            have q2_1 := hbS.cell q1_1
            have q2_2 := hbS.cell q1_2
            have K2C := L1.out.1.ext hbS
            have K2V := L1.out.2.1.ext hbS
            have K2M := L1.out.2.2.1.ext hbS
            have K2X := L1.out.2.2.2.1.trans hbS
            have K2R := L1.out.2.2.2.2.ext hbS
            have sz2 : wr.heap.size < wS.heap.size := Nat.lt_of_lt_of_le sz1 hbS.size
            have qm2 := K2C.va.c m hlt
            simp only [if_true] at qm2
            have L2 := Lib.hid (And.intro K2C (And.intro K2V (And.intro K2M (And.intro K2X K2R))))
            clear hbS q1_0 q1_1 q1_2 K2C K2V K2M K2X K2R sz1 qc zc
            refine wp_region_later_tail 8 (by kernel_rfl) (by kernel_rfl) ?_
            simp only [List.take_succ_cons, List.take_zero, List.drop_succ_cons, List.drop_zero]
            have l_0 := fun (g : Later wS) => g.ok.cell q2_0
            have l_m := fun (g : Later wS) => g.ok.cell qm2
            repeat (go_big_quiet_step ((fail)))
            refine wpQuiet_nil ?_
            intro wU hlU
            have XU := laters_ext hlU
            have VU := L2.out.2.1.ext XU
            have qu := VU.va.c tn htk
            have zu := VU.va.z tn htk
            have RU := L2.out.2.2.2.2.ext XU
            have K3V := VU.set (by omega) htk RU
            have K3C := (L2.out.1.ext XU).low (x := bc + 1) (o := tn) (by omega) (by omega) (.slice aT k cT)
            have K3M := (L2.out.2.2.1.ext XU).but (but_setCell wU ⟨bc + 1, tn, none⟩ (.slice aT k cT)) (by intro e; simp at e; omega)
            have K3X := (L2.out.2.2.2.1.trans XU).setCell (p := ⟨bc + 1, tn, none⟩) (by show w.heap.size ≤ bc + 1; omega) (.slice aT k cT)
            have N3 : But (fun j => j = bc + 1) wS (wU.setCell ⟨bc + 1, tn, none⟩ (.slice aT k cT)) := (XU.but _).trans (but_setCell wU ⟨bc + 1, tn, none⟩ (.slice aT k cT))
            have neb : ¬ wr.heap.size = bc + 1 := by omega
            have q3_1 := N3.cell q2_1 neb
            have q3_2 := N3.cell q2_2 neb
            have sz3 : wr.heap.size < (wU.setCell ⟨bc + 1, tn, none⟩ (.slice aT k cT)).heap.size := Nat.lt_of_lt_of_le sz2 N3.size
            have L3 := Lib.hid (And.intro K3C (And.intro K3V (And.intro K3M K3X)))
            clear hlU VU RU K3V K3C K3M K3X N3 XU l_0 l_m q2_0 q2_1 q2_2 qm2
            go_upto_region 20 with (fail)
            refine settle_wp ?_
            intro wX hbX
            have q4_1 := hbX.cell q3_1
            have q4_2 := hbX.cell q3_2
            have K4C := L3.out.1.ext hbX
            have K4V := L3.out.2.1.ext hbX
            have K4M := L3.out.2.2.1.ext hbX
            have K4X := L3.out.2.2.2.trans hbX
            have sz4 : wr.heap.size < wX.heap.size := Nat.lt_of_lt_of_le sz3 hbX.size
            have K4V' := K4V.congr (d := fun t => latL k ls (m + 1) t) (fun i hi => by
              rw [lat_succ, hxx, HT.out]
              by_cases e : i = tn
              · subst e
                rw [if_pos rfl, if_pos rfl]
              · rw [if_neg e, if_neg (by omega)])
            have L4 := Lib.hid (And.intro K4C (And.intro K4V' (And.intro K4M K4X)))
            clear hbX q3_1 q3_2 K4C K4V K4V' K4M K4X sz3 qu zu
            have KS := SKIP.out wX L4.out.2.2.1 (by simp [hat])
            have HKS := Lib.hid KS
            have hB5 : bc + 2 ≤ wX.heap.size := by omega
            clear KS
            go_wp2_with fail
            refine (CA.out _).mono ?_
            rintro e w' ⟨rfl, rfl⟩
            go_wp2
            exact ⟨⟨m + 1, by omega, by go_num, L4.out.2.2.2, hB5, HKS.out, ⟨_, L4.out.1⟩, _, L4.out.2.1⟩, by simp [intOf]; omega⟩
        rw [hat] at CA
        by_cases hok : 0 ≤ awr ls x.c m
        case neg =>
          rw [show decide (0 ≤ awr ls x.c m) = false by simpa using hok] at hlk
          have hsrc : srcA ls m < 0 := by
            rw [SRC.out]
            split
            · omega
            · omega
          cases hwr : wrB x.k
          case false =>
            rw [hwr] at CW
            have HSRC := Lib.hid hsrc
            clear hsrc hfr
            have XW : Ext wr wA := HXA.out
            have XAW : Ext wA wA := Ext.refl wA
            have HK := Lib.hid (HKI.out.ext HXA.out)
            have CT := Lib.hid (tTick _ _ (tn : Int) wA HK.out (by have := HV.out; rw [show (latL k ls m (tn : Int)).length = k from HLEN.out]; omega))
            have hcl := HCL.out
            rw [if_pos HSRC.out, HT.out] at hcl
            have HTK : Hid (tickL (latL k ls m (tn : Int)) (tn : Int) = cl k ls m) := Lib.hid (by rw [hcl])
            clear hcl
            rw [HTK.out] at CT
            go_wp2_with (first | (at_lookup; refine wpList_lookup_run rfl _ _ 58 true rfl rfl rfl hlk ?_; go_frame) | fail)
            refine CT.out.mono ?_
            rintro e wT ⟨vT, rfl, RT, XT⟩
            obtain ⟨aT, cT, eT⟩ := RT.ints.form
            rw [HOKM.out.len] at eT
            subst eT
            have XT2 : Ext wr wT := XW.trans XT
            have VC := HC.out.ext XT2
            have qc := VC.va.c m hlt
            have zc := VC.va.z m hlt
            have RT2 : RI wT (bc + 2) (.slice aT k cT) (cl k ls m) := RT.lower (Nat.le_trans hB XW.size)
            have KC1 := VC.set_new (by omega) hlt RT2
            have KV1 := (HV.out.ext XT2).low (x := bc) (o := m) (by omega) (by omega) (.slice aT k cT)
            have KM1 := (HMM.out.ext XT2).but (but_setCell wT ⟨bc, m, none⟩ (.slice aT k cT)) (by intro e; simp at e; omega)
            have KX1 := (HX.out.trans XT2).setCell (p := ⟨bc, m, none⟩) (by show w.heap.size ≤ bc; omega) (.slice aT k cT)
            have RT3 : RI (wT.setCell ⟨bc, m, none⟩ (.slice aT k cT)) (bc + 2) (.slice aT k cT) (cl k ls m) := (but_setCell wT ⟨bc, m, none⟩ (.slice aT k cT)).row RT2 (fun g hg e => by have := (World.ownsRow.lt RT2 g hg).1; simp at e; omega)
            have XAT : Ext wA wT := XAW.trans XT
            have NB : But (fun j => j = bc) wA (wT.setCell ⟨bc, m, none⟩ (.slice aT k cT)) := (XAT.but _).trans (but_setCell wT ⟨bc, m, none⟩ (.slice aT k cT))
            have nea : ¬ wr.heap.size = bc := by omega
            have q1_0 := NB.cell qa_0 nea
            have q1_1 := NB.cell qa_1 nea
            have q1_2 := NB.cell qa_2 nea
            have sz1 : wr.heap.size < (wT.setCell ⟨bc, m, none⟩ (.slice aT k cT)).heap.size := Nat.lt_of_lt_of_le la NB.size
            have L1 := Lib.hid (And.intro KC1 (And.intro KV1 (And.intro KM1 (And.intro KX1 RT3))))
            clear VC RT RT2 RT3 KC1 KV1 KM1 KX1 NB XAT XT XT2 qa_0 qa_1 qa_2
            go_upto_region 19 with (fail)
            refine settle_wp ?_
            intro wS hbS
            have q2_0 := hbS.cell q1_0
            have q2_1 := hbS.cell q1_1
            have q2_2 := hbS.cell q1_2
            have K2C := L1.out.1.ext hbS
            have K2V := L1.out.2.1.ext hbS
            have K2M := L1.out.2.2.1.ext hbS
            have K2X := L1.out.2.2.2.1.trans hbS
            have K2R := L1.out.2.2.2.2.ext hbS
            have sz2 : wr.heap.size < wS.heap.size := Nat.lt_of_lt_of_le sz1 hbS.size
            have qm2 := K2C.va.c m hlt
            simp only [if_true] at qm2
            have L2 := Lib.hid (And.intro K2C (And.intro K2V (And.intro K2M (And.intro K2X K2R))))
            clear hbS q1_0 q1_1 q1_2 K2C K2V K2M K2X K2R sz1 qc zc
            refine wp_region_later_tail 8 (by kernel_rfl) (by kernel_rfl) ?_
            simp only [List.take_succ_cons, List.take_zero, List.drop_succ_cons, List.drop_zero]
            have l_0 := fun (g : Later wS) => g.ok.cell q2_0
            have l_m := fun (g : Later wS) => g.ok.cell qm2
            repeat (go_big_quiet_step ((fail)))
            refine wpQuiet_nil ?_
            intro wU hlU
            have XU := laters_ext hlU
            have VU := L2.out.2.1.ext XU
            have qu := VU.va.c tn htk
            have zu := VU.va.z tn htk
            have RU := L2.out.2.2.2.2.ext XU
            have K3V := VU.set (by omega) htk RU
            have K3C := (L2.out.1.ext XU).low (x := bc + 1) (o := tn) (by omega) (by omega) (.slice aT k cT)
            have K3M := (L2.out.2.2.1.ext XU).but (but_setCell wU ⟨bc + 1, tn, none⟩ (.slice aT k cT)) (by intro e; simp at e; omega)
            have K3X := (L2.out.2.2.2.1.trans XU).setCell (p := ⟨bc + 1, tn, none⟩) (by show w.heap.size ≤ bc + 1; omega) (.slice aT k cT)
            have N3 : But (fun j => j = bc + 1) wS (wU.setCell ⟨bc + 1, tn, none⟩ (.slice aT k cT)) := (XU.but _).trans (but_setCell wU ⟨bc + 1, tn, none⟩ (.slice aT k cT))
            have neb : ¬ wr.heap.size = bc + 1 := by omega
            have q3_1 := N3.cell q2_1 neb
            have q3_2 := N3.cell q2_2 neb
            have sz3 : wr.heap.size < (wU.setCell ⟨bc + 1, tn, none⟩ (.slice aT k cT)).heap.size := Nat.lt_of_lt_of_le sz2 N3.size
            have L3 := Lib.hid (And.intro K3C (And.intro K3V (And.intro K3M K3X)))
            clear hlU VU RU K3V K3C K3M K3X N3 XU l_0 l_m q2_0 q2_1 q2_2 qm2
            go_upto_region 20 with (fail)
            refine settle_wp ?_
            intro wX hbX
            have q4_1 := hbX.cell q3_1
            have q4_2 := hbX.cell q3_2
            have K4C := L3.out.1.ext hbX
            have K4V := L3.out.2.1.ext hbX
            have K4M := L3.out.2.2.1.ext hbX
            have K4X := L3.out.2.2.2.trans hbX
            have sz4 : wr.heap.size < wX.heap.size := Nat.lt_of_lt_of_le sz3 hbX.size
            have K4V' := K4V.congr (d := fun t => latL k ls (m + 1) t) (fun i hi => by
              rw [lat_succ, hxx, HT.out]
              by_cases e : i = tn
              · subst e
                rw [if_pos rfl, if_pos rfl]
              · rw [if_neg e, if_neg (by omega)])
            have L4 := Lib.hid (And.intro K4C (And.intro K4V' (And.intro K4M K4X)))
            clear hbX q3_1 q3_2 K4C K4V K4V' K4M K4X sz3 qu zu
            have KS := SKIP.out wX L4.out.2.2.1 (by simp [hwr])
            have HKS := Lib.hid KS
            have hB5 : bc + 2 ≤ wX.heap.size := by omega
            clear KS
            go_wp2_with fail
            refine (CA.out _).mono ?_
            rintro e w' ⟨rfl, rfl⟩
            go_wp2_with fail
            refine (CW.out _).mono ?_
            rintro e w' ⟨rfl, rfl⟩
            go_wp2
            exact ⟨⟨m + 1, by omega, by go_num, L4.out.2.2.2, hB5, HKS.out, ⟨_, L4.out.1⟩, _, L4.out.2.1⟩, by simp [intOf]; omega⟩
          rw [hwr] at CW
          have HSRC := Lib.hid hsrc
          clear hsrc hfr
          have XW : Ext wr wA := HXA.out
          have XAW : Ext wA wA := Ext.refl wA
          have HK := Lib.hid (HKI.out.ext HXA.out)
          have CT := Lib.hid (tTick _ _ (tn : Int) wA HK.out (by have := HV.out; rw [show (latL k ls m (tn : Int)).length = k from HLEN.out]; omega))
          have hcl := HCL.out
          rw [if_pos HSRC.out, HT.out] at hcl
          have HTK : Hid (tickL (latL k ls m (tn : Int)) (tn : Int) = cl k ls m) := Lib.hid (by rw [hcl])
          clear hcl
          rw [HTK.out] at CT
          go_wp2_with (first | (at_lookup; refine wpList_lookup_run rfl _ _ 58 true rfl rfl rfl hlk ?_; go_frame) | fail)
          refine CT.out.mono ?_
          rintro e wT ⟨vT, rfl, RT, XT⟩
          obtain ⟨aT, cT, eT⟩ := RT.ints.form
          rw [HOKM.out.len] at eT
          subst eT
          have XT2 : Ext wr wT := XW.trans XT
          have VC := HC.out.ext XT2
          have qc := VC.va.c m hlt
          have zc := VC.va.z m hlt
          have RT2 : RI wT (bc + 2) (.slice aT k cT) (cl k ls m) := RT.lower (Nat.le_trans hB XW.size)
          have KC1 := VC.set_new (by omega) hlt RT2
          have KV1 := (HV.out.ext XT2).low (x := bc) (o := m) (by omega) (by omega) (.slice aT k cT)
          have KM1 := (HMM.out.ext XT2).but (but_setCell wT ⟨bc, m, none⟩ (.slice aT k cT)) (by intro e; simp at e; omega)
          have KX1 := (HX.out.trans XT2).setCell (p := ⟨bc, m, none⟩) (by show w.heap.size ≤ bc; omega) (.slice aT k cT)
          have RT3 : RI (wT.setCell ⟨bc, m, none⟩ (.slice aT k cT)) (bc + 2) (.slice aT k cT) (cl k ls m) := (but_setCell wT ⟨bc, m, none⟩ (.slice aT k cT)).row RT2 (fun g hg e => by have := (World.ownsRow.lt RT2 g hg).1; simp at e; omega)
          have XAT : Ext wA wT := XAW.trans XT
          have NB : But (fun j => j = bc) wA (wT.setCell ⟨bc, m, none⟩ (.slice aT k cT)) := (XAT.but _).trans (but_setCell wT ⟨bc, m, none⟩ (.slice aT k cT))
          have nea : ¬ wr.heap.size = bc := by omega
          have q1_0 := NB.cell qa_0 nea
          have q1_1 := NB.cell qa_1 nea
          have q1_2 := NB.cell qa_2 nea
          have sz1 : wr.heap.size < (wT.setCell ⟨bc, m, none⟩ (.slice aT k cT)).heap.size := Nat.lt_of_lt_of_le la NB.size
          have L1 := Lib.hid (And.intro KC1 (And.intro KV1 (And.intro KM1 (And.intro KX1 RT3))))
          clear VC RT RT2 RT3 KC1 KV1 KM1 KX1 NB XAT XT XT2 qa_0 qa_1 qa_2
          go_upto_region 19 with (fail)
          refine settle_wp ?_
          intro wS hbS
          have q2_0 := hbS.cell q1_0
          have q2_1 := hbS.cell q1_1
          have q2_2 := hbS.cell q1_2
          have K2C := L1.out.1.ext hbS
          have K2V := L1.out.2.1.ext hbS
          have K2M := L1.out.2.2.1.ext hbS
          have K2X := L1.out.2.2.2.1.trans hbS
          have K2R := L1.out.2.2.2.2.ext hbS
          have sz2 : wr.heap.size < wS.heap.size := Nat.lt_of_lt_of_le sz1 hbS.size
          have qm2 := K2C.va.c m hlt
          simp only [if_true] at qm2
          have L2 := Lib.hid (And.intro K2C (And.intro K2V (And.intro K2M (And.intro K2X K2R))))
          clear hbS q1_0 q1_1 q1_2 K2C K2V K2M K2X K2R sz1 qc zc
          refine wp_region_later_tail 8 (by kernel_rfl) (by kernel_rfl) ?_
          simp only [List.take_succ_cons, List.take_zero, List.drop_succ_cons, List.drop_zero]
          have l_0 := fun (g : Later wS) => g.ok.cell q2_0
          have l_m := fun (g : Later wS) => g.ok.cell qm2
          repeat (go_big_quiet_step ((fail)))
          refine wpQuiet_nil ?_
          intro wU hlU
          have XU := laters_ext hlU
          have VU := L2.out.2.1.ext XU
          have qu := VU.va.c tn htk
          have zu := VU.va.z tn htk
          have RU := L2.out.2.2.2.2.ext XU
          have K3V := VU.set (by omega) htk RU
          have K3C := (L2.out.1.ext XU).low (x := bc + 1) (o := tn) (by omega) (by omega) (.slice aT k cT)
          have K3M := (L2.out.2.2.1.ext XU).but (but_setCell wU ⟨bc + 1, tn, none⟩ (.slice aT k cT)) (by intro e; simp at e; omega)
          have K3X := (L2.out.2.2.2.1.trans XU).setCell (p := ⟨bc + 1, tn, none⟩) (by show w.heap.size ≤ bc + 1; omega) (.slice aT k cT)
          have N3 : But (fun j => j = bc + 1) wS (wU.setCell ⟨bc + 1, tn, none⟩ (.slice aT k cT)) := (XU.but _).trans (but_setCell wU ⟨bc + 1, tn, none⟩ (.slice aT k cT))
          have neb : ¬ wr.heap.size = bc + 1 := by omega
          have q3_1 := N3.cell q2_1 neb
          have q3_2 := N3.cell q2_2 neb
          have sz3 : wr.heap.size < (wU.setCell ⟨bc + 1, tn, none⟩ (.slice aT k cT)).heap.size := Nat.lt_of_lt_of_le sz2 N3.size
          have L3 := Lib.hid (And.intro K3C (And.intro K3V (And.intro K3M K3X)))
          clear hlU VU RU K3V K3C K3M K3X N3 XU l_0 l_m q2_0 q2_1 q2_2 qm2
          go_upto_region 20 with (fail)
          refine settle_wp ?_
          intro wX hbX
          have q4_1 := hbX.cell q3_1
          have q4_2 := hbX.cell q3_2
          have K4C := L3.out.1.ext hbX
          have K4V := L3.out.2.1.ext hbX
          have K4M := L3.out.2.2.1.ext hbX
          have K4X := L3.out.2.2.2.trans hbX
          have sz4 : wr.heap.size < wX.heap.size := Nat.lt_of_lt_of_le sz3 hbX.size
          have K4V' := K4V.congr (d := fun t => latL k ls (m + 1) t) (fun i hi => by
            rw [lat_succ, hxx, HT.out]
            by_cases e : i = tn
            · subst e
              rw [if_pos rfl, if_pos rfl]
            · rw [if_neg e, if_neg (by omega)])
          have L4 := Lib.hid (And.intro K4C (And.intro K4V' (And.intro K4M K4X)))
          clear hbX q3_1 q3_2 K4C K4V K4V' K4M K4X sz3 qu zu
          obtain ⟨wP, hput, KP, gP⟩ := PUT.out wX L4.out.2.2.1 ⟨hat, hwr⟩
          obtain ⟨es, ckk, hmap⟩ := L4.out.2.2.1.heap
          have K5C := L4.out.1.map hmap gP
          have K5V := L4.out.2.1.map hmap gP
          have K5X := L4.out.2.2.2.grown gP (fun j hj => by cases hj; omega)
          have hB5 : bc + 2 ≤ wP.heap.size := Nat.le_trans (by omega) gP.size
          have L5 := Lib.hid (And.intro K5C (And.intro K5V (And.intro KP K5X)))
          clear K5C K5V KP K5X gP hmap
          go_wp2_with fail
          refine (CA.out _).mono ?_
          rintro e w' ⟨rfl, rfl⟩
          go_wp2_with fail
          refine (CW.out _).mono ?_
          rintro e w' ⟨rfl, rfl⟩
          go_wp2_with (first | (at_mapUpdate; refine wpList_update_run rfl _ _ _ 58 rfl rfl rfl rfl hput ?_; go_frame) | go_in)
          exact ⟨⟨m + 1, by omega, by go_num, L5.out.2.2.2, hB5, L5.out.2.2.1, ⟨_, L5.out.1⟩, _, L5.out.2.1⟩, by simp [intOf]; omega⟩
        rw [show decide (0 ≤ awr ls x.c m) = true by simpa using hok] at hlk
        cases hrd : rdB x.k
        case false =>
          rw [hrd] at CRD
          have hsrc : srcA ls m < 0 := by rw [SRC.out, hrd]; simp
          cases hwr : wrB x.k
          case false =>
            rw [hwr] at CW
            have HSRC := Lib.hid hsrc
            clear hsrc hfr
            have XW : Ext wr wA := HXA.out
            have XAW : Ext wA wA := Ext.refl wA
            have HK := Lib.hid (HKI.out.ext HXA.out)
            go_wp2_with (first | (at_lookup; refine wpList_lookup_run rfl _ _ 58 true rfl rfl rfl hlk ?_; go_frame) | fail)
            refine (CA.out _).mono ?_
            rintro e w' ⟨rfl, rfl⟩
            go_wp2_with (first | (at_lookup; refine wpList_lookup_run rfl _ _ 58 true rfl rfl rfl hlk ?_; go_frame) | fail)
            refine (CRD.out _).mono ?_
            rintro e w' ⟨rfl, rfl⟩
            have CT := Lib.hid (tTick _ _ (tn : Int) wA HK.out (by have := HV.out; rw [show (latL k ls m (tn : Int)).length = k from HLEN.out]; omega))
            have hcl := HCL.out
            rw [if_pos HSRC.out, HT.out] at hcl
            have HTK : Hid (tickL (latL k ls m (tn : Int)) (tn : Int) = cl k ls m) := Lib.hid (by rw [hcl])
            clear hcl
            rw [HTK.out] at CT
            go_wp2_with (first | (at_lookup; refine wpList_lookup_run rfl _ _ 58 true rfl rfl rfl hlk ?_; go_frame) | fail)
            refine CT.out.mono ?_
            rintro e wT ⟨vT, rfl, RT, XT⟩
            obtain ⟨aT, cT, eT⟩ := RT.ints.form
            rw [HOKM.out.len] at eT
            subst eT
            have XT2 : Ext wr wT := XW.trans XT
            have VC := HC.out.ext XT2
            have qc := VC.va.c m hlt
            have zc := VC.va.z m hlt
            have RT2 : RI wT (bc + 2) (.slice aT k cT) (cl k ls m) := RT.lower (Nat.le_trans hB XW.size)
            have KC1 := VC.set_new (by omega) hlt RT2
            have KV1 := (HV.out.ext XT2).low (x := bc) (o := m) (by omega) (by omega) (.slice aT k cT)
            have KM1 := (HMM.out.ext XT2).but (but_setCell wT ⟨bc, m, none⟩ (.slice aT k cT)) (by intro e; simp at e; omega)
            have KX1 := (HX.out.trans XT2).setCell (p := ⟨bc, m, none⟩) (by show w.heap.size ≤ bc; omega) (.slice aT k cT)
            have RT3 : RI (wT.setCell ⟨bc, m, none⟩ (.slice aT k cT)) (bc + 2) (.slice aT k cT) (cl k ls m) := (but_setCell wT ⟨bc, m, none⟩ (.slice aT k cT)).row RT2 (fun g hg e => by have := (World.ownsRow.lt RT2 g hg).1; simp at e; omega)
            have XAT : Ext wA wT := XAW.trans XT
            have NB : But (fun j => j = bc) wA (wT.setCell ⟨bc, m, none⟩ (.slice aT k cT)) := (XAT.but _).trans (but_setCell wT ⟨bc, m, none⟩ (.slice aT k cT))
            have nea : ¬ wr.heap.size = bc := by omega
            have q1_0 := NB.cell qa_0 nea
            have q1_1 := NB.cell qa_1 nea
            have q1_2 := NB.cell qa_2 nea
            have sz1 : wr.heap.size < (wT.setCell ⟨bc, m, none⟩ (.slice aT k cT)).heap.size := Nat.lt_of_lt_of_le la NB.size
            have L1 := Lib.hid (And.intro KC1 (And.intro KV1 (And.intro KM1 (And.intro KX1 RT3))))
            clear VC RT RT2 RT3 KC1 KV1 KM1 KX1 NB XAT XT XT2 qa_0 qa_1 qa_2
            go_upto_region 19 with (fail)
            refine settle_wp ?_
            intro wS hbS
            have q2_0 := hbS.cell q1_0
            have q2_1 := hbS.cell q1_1
            have q2_2 := hbS.cell q1_2
            have K2C := L1.out.1.ext hbS
            have K2V := L1.out.2.1.ext hbS
            have K2M := L1.out.2.2.1.ext hbS
            have K2X := L1.out.2.2.2.1.trans hbS
            have K2R := L1.out.2.2.2.2.ext hbS
            have sz2 : wr.heap.size < wS.heap.size := Nat.lt_of_lt_of_le sz1 hbS.size
            have qm2 := K2C.va.c m hlt
            simp only [if_true] at qm2
            have L2 := Lib.hid (And.intro K2C (And.intro K2V (And.intro K2M (And.intro K2X K2R))))
            clear hbS q1_0 q1_1 q1_2 K2C K2V K2M K2X K2R sz1 qc zc
            refine wp_region_later_tail 8 (by kernel_rfl) (by kernel_rfl) ?_
            simp only [List.take_succ_cons, List.take_zero, List.drop_succ_cons, List.drop_zero]
            have l_0 := fun (g : Later wS) => g.ok.cell q2_0
            have l_m := fun (g : Later wS) => g.ok.cell qm2
            repeat (go_big_quiet_step ((fail)))
            refine wpQuiet_nil ?_
            intro wU hlU
            have XU := laters_ext hlU
            have VU := L2.out.2.1.ext XU
            have qu := VU.va.c tn htk
            have zu := VU.va.z tn htk
            have RU := L2.out.2.2.2.2.ext XU
            have K3V := VU.set (by omega) htk RU
            have K3C := (L2.out.1.ext XU).low (x := bc + 1) (o := tn) (by omega) (by omega) (.slice aT k cT)
            have K3M := (L2.out.2.2.1.ext XU).but (but_setCell wU ⟨bc + 1, tn, none⟩ (.slice aT k cT)) (by intro e; simp at e; omega)
            have K3X := (L2.out.2.2.2.1.trans XU).setCell (p := ⟨bc + 1, tn, none⟩) (by show w.heap.size ≤ bc + 1; omega) (.slice aT k cT)
            have N3 : But (fun j => j = bc + 1) wS (wU.setCell ⟨bc + 1, tn, none⟩ (.slice aT k cT)) := (XU.but _).trans (but_setCell wU ⟨bc + 1, tn, none⟩ (.slice aT k cT))
            have neb : ¬ wr.heap.size = bc + 1 := by omega
            have q3_1 := N3.cell q2_1 neb
            have q3_2 := N3.cell q2_2 neb
            have sz3 : wr.heap.size < (wU.setCell ⟨bc + 1, tn, none⟩ (.slice aT k cT)).heap.size := Nat.lt_of_lt_of_le sz2 N3.size
            have L3 := Lib.hid (And.intro K3C (And.intro K3V (And.intro K3M K3X)))
            clear hlU VU RU K3V K3C K3M K3X N3 XU l_0 l_m q2_0 q2_1 q2_2 qm2
            go_upto_region 20 with (fail)
            refine settle_wp ?_
            intro wX hbX
            have q4_1 := hbX.cell q3_1
            have q4_2 := hbX.cell q3_2
            have K4C := L3.out.1.ext hbX
            have K4V := L3.out.2.1.ext hbX
            have K4M := L3.out.2.2.1.ext hbX
            have K4X := L3.out.2.2.2.trans hbX
            have sz4 : wr.heap.size < wX.heap.size := Nat.lt_of_lt_of_le sz3 hbX.size
            have K4V' := K4V.congr (d := fun t => latL k ls (m + 1) t) (fun i hi => by
              rw [lat_succ, hxx, HT.out]
              by_cases e : i = tn
              · subst e
                rw [if_pos rfl, if_pos rfl]
              · rw [if_neg e, if_neg (by omega)])
            have L4 := Lib.hid (And.intro K4C (And.intro K4V' (And.intro K4M K4X)))
            clear hbX q3_1 q3_2 K4C K4V K4V' K4M K4X sz3 qu zu
            have KS := SKIP.out wX L4.out.2.2.1 (by simp [hwr])
            have HKS := Lib.hid KS
            have hB5 : bc + 2 ≤ wX.heap.size := by omega
            clear KS
            go_wp2_with fail
            refine (CA.out _).mono ?_
            rintro e w' ⟨rfl, rfl⟩
            go_wp2_with fail
            refine (CW.out _).mono ?_
            rintro e w' ⟨rfl, rfl⟩
            go_wp2
            exact ⟨⟨m + 1, by omega, by go_num, L4.out.2.2.2, hB5, HKS.out, ⟨_, L4.out.1⟩, _, L4.out.2.1⟩, by simp [intOf]; omega⟩
          rw [hwr] at CW
          have HSRC := Lib.hid hsrc
          clear hsrc hfr
          have XW : Ext wr wA := HXA.out
          have XAW : Ext wA wA := Ext.refl wA
          have HK := Lib.hid (HKI.out.ext HXA.out)
          go_wp2_with (first | (at_lookup; refine wpList_lookup_run rfl _ _ 58 true rfl rfl rfl hlk ?_; go_frame) | fail)
          refine (CA.out _).mono ?_
          rintro e w' ⟨rfl, rfl⟩
          go_wp2_with (first | (at_lookup; refine wpList_lookup_run rfl _ _ 58 true rfl rfl rfl hlk ?_; go_frame) | fail)
          refine (CRD.out _).mono ?_
          rintro e w' ⟨rfl, rfl⟩
          have CT := Lib.hid (tTick _ _ (tn : Int) wA HK.out (by have := HV.out; rw [show (latL k ls m (tn : Int)).length = k from HLEN.out]; omega))
          have hcl := HCL.out
          rw [if_pos HSRC.out, HT.out] at hcl
          have HTK : Hid (tickL (latL k ls m (tn : Int)) (tn : Int) = cl k ls m) := Lib.hid (by rw [hcl])
          clear hcl
          rw [HTK.out] at CT
          go_wp2_with (first | (at_lookup; refine wpList_lookup_run rfl _ _ 58 true rfl rfl rfl hlk ?_; go_frame) | fail)
          refine CT.out.mono ?_
          rintro e wT ⟨vT, rfl, RT, XT⟩
          obtain ⟨aT, cT, eT⟩ := RT.ints.form
          rw [HOKM.out.len] at eT
          subst eT
          have XT2 : Ext wr wT := XW.trans XT
          have VC := HC.out.ext XT2
          have qc := VC.va.c m hlt
          have zc := VC.va.z m hlt
          have RT2 : RI wT (bc + 2) (.slice aT k cT) (cl k ls m) := RT.lower (Nat.le_trans hB XW.size)
          have KC1 := VC.set_new (by omega) hlt RT2
          have KV1 := (HV.out.ext XT2).low (x := bc) (o := m) (by omega) (by omega) (.slice aT k cT)
          have KM1 := (HMM.out.ext XT2).but (but_setCell wT ⟨bc, m, none⟩ (.slice aT k cT)) (by intro e; simp at e; omega)
          have KX1 := (HX.out.trans XT2).setCell (p := ⟨bc, m, none⟩) (by show w.heap.size ≤ bc; omega) (.slice aT k cT)
          have RT3 : RI (wT.setCell ⟨bc, m, none⟩ (.slice aT k cT)) (bc + 2) (.slice aT k cT) (cl k ls m) := (but_setCell wT ⟨bc, m, none⟩ (.slice aT k cT)).row RT2 (fun g hg e => by have := (World.ownsRow.lt RT2 g hg).1; simp at e; omega)
          have XAT : Ext wA wT := XAW.trans XT
          have NB : But (fun j => j = bc) wA (wT.setCell ⟨bc, m, none⟩ (.slice aT k cT)) := (XAT.but _).trans (but_setCell wT ⟨bc, m, none⟩ (.slice aT k cT))
          have nea : ¬ wr.heap.size = bc := by omega
          have q1_0 := NB.cell qa_0 nea
          have q1_1 := NB.cell qa_1 nea
          have q1_2 := NB.cell qa_2 nea
          have sz1 : wr.heap.size < (wT.setCell ⟨bc, m, none⟩ (.slice aT k cT)).heap.size := Nat.lt_of_lt_of_le la NB.size
          have L1 := Lib.hid (And.intro KC1 (And.intro KV1 (And.intro KM1 (And.intro KX1 RT3))))
          clear VC RT RT2 RT3 KC1 KV1 KM1 KX1 NB XAT XT XT2 qa_0 qa_1 qa_2
          go_upto_region 19 with (fail)
          refine settle_wp ?_
          intro wS hbS
          have q2_0 := hbS.cell q1_0
          have q2_1 := hbS.cell q1_1
          have q2_2 := hbS.cell q1_2
          have K2C := L1.out.1.ext hbS
          have K2V := L1.out.2.1.ext hbS
          have K2M := L1.out.2.2.1.ext hbS
          have K2X := L1.out.2.2.2.1.trans hbS
          have K2R := L1.out.2.2.2.2.ext hbS
          have sz2 : wr.heap.size < wS.heap.size := Nat.lt_of_lt_of_le sz1 hbS.size
          have qm2 := K2C.va.c m hlt
          simp only [if_true] at qm2
          have L2 := Lib.hid (And.intro K2C (And.intro K2V (And.intro K2M (And.intro K2X K2R))))
          clear hbS q1_0 q1_1 q1_2 K2C K2V K2M K2X K2R sz1 qc zc
          refine wp_region_later_tail 8 (by kernel_rfl) (by kernel_rfl) ?_
          simp only [List.take_succ_cons, List.take_zero, List.drop_succ_cons, List.drop_zero]
          have l_0 := fun (g : Later wS) => g.ok.cell q2_0
          have l_m := fun (g : Later wS) => g.ok.cell qm2
          repeat (go_big_quiet_step ((fail)))
          refine wpQuiet_nil ?_
          intro wU hlU
          have XU := laters_ext hlU
          have VU := L2.out.2.1.ext XU
          have qu := VU.va.c tn htk
          have zu := VU.va.z tn htk
          have RU := L2.out.2.2.2.2.ext XU
          have K3V := VU.set (by omega) htk RU
          have K3C := (L2.out.1.ext XU).low (x := bc + 1) (o := tn) (by omega) (by omega) (.slice aT k cT)
          have K3M := (L2.out.2.2.1.ext XU).but (but_setCell wU ⟨bc + 1, tn, none⟩ (.slice aT k cT)) (by intro e; simp at e; omega)
          have K3X := (L2.out.2.2.2.1.trans XU).setCell (p := ⟨bc + 1, tn, none⟩) (by show w.heap.size ≤ bc + 1; omega) (.slice aT k cT)
          have N3 : But (fun j => j = bc + 1) wS (wU.setCell ⟨bc + 1, tn, none⟩ (.slice aT k cT)) := (XU.but _).trans (but_setCell wU ⟨bc + 1, tn, none⟩ (.slice aT k cT))
          have neb : ¬ wr.heap.size = bc + 1 := by omega
          have q3_1 := N3.cell q2_1 neb
          have q3_2 := N3.cell q2_2 neb
          have sz3 : wr.heap.size < (wU.setCell ⟨bc + 1, tn, none⟩ (.slice aT k cT)).heap.size := Nat.lt_of_lt_of_le sz2 N3.size
          have L3 := Lib.hid (And.intro K3C (And.intro K3V (And.intro K3M K3X)))
          clear hlU VU RU K3V K3C K3M K3X N3 XU l_0 l_m q2_0 q2_1 q2_2 qm2
          go_upto_region 20 with (fail)
          refine settle_wp ?_
          intro wX hbX
          have q4_1 := hbX.cell q3_1
          have q4_2 := hbX.cell q3_2
          have K4C := L3.out.1.ext hbX
          have K4V := L3.out.2.1.ext hbX
          have K4M := L3.out.2.2.1.ext hbX
          have K4X := L3.out.2.2.2.trans hbX
          have sz4 : wr.heap.size < wX.heap.size := Nat.lt_of_lt_of_le sz3 hbX.size
          have K4V' := K4V.congr (d := fun t => latL k ls (m + 1) t) (fun i hi => by
            rw [lat_succ, hxx, HT.out]
            by_cases e : i = tn
            · subst e
              rw [if_pos rfl, if_pos rfl]
            · rw [if_neg e, if_neg (by omega)])
          have L4 := Lib.hid (And.intro K4C (And.intro K4V' (And.intro K4M K4X)))
          clear hbX q3_1 q3_2 K4C K4V K4V' K4M K4X sz3 qu zu
          obtain ⟨wP, hput, KP, gP⟩ := PUT.out wX L4.out.2.2.1 ⟨hat, hwr⟩
          obtain ⟨es, ckk, hmap⟩ := L4.out.2.2.1.heap
          have K5C := L4.out.1.map hmap gP
          have K5V := L4.out.2.1.map hmap gP
          have K5X := L4.out.2.2.2.grown gP (fun j hj => by cases hj; omega)
          have hB5 : bc + 2 ≤ wP.heap.size := Nat.le_trans (by omega) gP.size
          have L5 := Lib.hid (And.intro K5C (And.intro K5V (And.intro KP K5X)))
          clear K5C K5V KP K5X gP hmap
          go_wp2_with fail
          refine (CA.out _).mono ?_
          rintro e w' ⟨rfl, rfl⟩
          go_wp2_with fail
          refine (CW.out _).mono ?_
          rintro e w' ⟨rfl, rfl⟩
          go_wp2_with (first | (at_mapUpdate; refine wpList_update_run rfl _ _ _ 58 rfl rfl rfl rfl hput ?_; go_frame) | go_in)
          exact ⟨⟨m + 1, by omega, by go_num, L5.out.2.2.2, hB5, L5.out.2.2.1, ⟨_, L5.out.1⟩, _, L5.out.2.1⟩, by simp [intOf]; omega⟩
        rw [hrd] at CRD
        have hsrc : srcA ls m = awr ls x.c m := by rw [SRC.out, hat, hrd]; simp
        cases hwr : wrB x.k
        case false =>
          rw [hwr] at CW
          obtain ⟨sN, hsN⟩ : ∃ sN : Nat, awr ls x.c m = sN := ⟨(awr ls x.c m).toNat, by omega⟩
          have hsm := HS.out sN hsN
          have hfr2 := hfr hok
          rw [hsN] at hfr2
          subst hfr2
          have hsL : sN < L := by omega
          have hsL' : (sN : Int) < (L : Int) := by omega
          have VS := HC.out.ext HXA.out
          have RS := VS.ri sN hsm
          obtain ⟨aS, cS, eS⟩ := RS.ints.form
          have qs := VS.va.c sN hsL
          have RSI := RS.ints
          rw [eS] at qs RSI
          have okS := cl_ok HR.out sN (by rw [← HLL.out]; exact hsL)
          rw [okS.len] at qs RSI
          have CJ := Lib.hid (tJoin _ _ _ _ wA (HKI.out.ext HXA.out) RSI (by rw [show (latL k ls m (tn : Int)).length = k from HLEN.out]; omega) (by rw [okS.len]; omega))
          have HJO := Lib.hid (join_ok n1 n2 HLATO.out okS (show sN + 1 ≤ m by omega) (by omega) (by omega) htk').1
          have HSRC : Hid (srcA ls m = sN) := Lib.hid (by rw [hsrc, hsN])
          clear VS RS RSI eS okS hfr hsN hsrc
          go_wp2_with (first | (at_lookup; refine wpList_lookup_run rfl _ _ 58 true rfl rfl rfl hlk ?_; go_frame) | fail)
          refine (CA.out _).mono ?_
          rintro e w' ⟨rfl, rfl⟩
          go_wp2_with fail
          refine (CRD.out _).mono ?_
          rintro e w' ⟨rfl, rfl⟩
          go_wp2_with fail
          refine CJ.out.mono ?_
          rintro e wJ ⟨vJ, rfl, RJ, XJ⟩
          have XW : Ext wr wJ := HXA.out.trans XJ
          have XAW : Ext wA wJ := XJ
          obtain ⟨aJ, cJ, eJ⟩ := RJ.ints.form
          rw [HJO.out.len] at eJ
          subst eJ
          have HK := Lib.hid RJ.ints
          have qj_0 := XJ.cell qa_0
          clear RJ XJ qs
          have CT := Lib.hid (tTick _ _ (tn : Int) wJ HK.out (by rw [HJO.out.len]; omega))
          have hcl := HCL.out
          rw [HSRC.out, if_neg (by omega), HT.out, Int.toNat_natCast] at hcl
          have HTK : Hid (tickL (joinL (latL k ls m (tn : Int)) (cl k ls sN)) (tn : Int) = cl k ls m) := Lib.hid (by rw [hcl])
          clear hcl
          rw [HTK.out] at CT
          go_wp2_with fail
          refine CT.out.mono ?_
          rintro e wT ⟨vT, rfl, RT, XT⟩
          obtain ⟨aT, cT, eT⟩ := RT.ints.form
          rw [HOKM.out.len] at eT
          subst eT
          have XT2 : Ext wr wT := XW.trans XT
          have VC := HC.out.ext XT2
          have qc := VC.va.c m hlt
          have zc := VC.va.z m hlt
          have RT2 : RI wT (bc + 2) (.slice aT k cT) (cl k ls m) := RT.lower (Nat.le_trans hB XW.size)
          have KC1 := VC.set_new (by omega) hlt RT2
          have KV1 := (HV.out.ext XT2).low (x := bc) (o := m) (by omega) (by omega) (.slice aT k cT)
          have KM1 := (HMM.out.ext XT2).but (but_setCell wT ⟨bc, m, none⟩ (.slice aT k cT)) (by intro e; simp at e; omega)
          have KX1 := (HX.out.trans XT2).setCell (p := ⟨bc, m, none⟩) (by show w.heap.size ≤ bc; omega) (.slice aT k cT)
          have RT3 : RI (wT.setCell ⟨bc, m, none⟩ (.slice aT k cT)) (bc + 2) (.slice aT k cT) (cl k ls m) := (but_setCell wT ⟨bc, m, none⟩ (.slice aT k cT)).row RT2 (fun g hg e => by have := (World.ownsRow.lt RT2 g hg).1; simp at e; omega)
          have XAT : Ext wA wT := XAW.trans XT
          have NB : But (fun j => j = bc) wA (wT.setCell ⟨bc, m, none⟩ (.slice aT k cT)) := (XAT.but _).trans (but_setCell wT ⟨bc, m, none⟩ (.slice aT k cT))
          have nea : ¬ wr.heap.size = bc := by omega
          have q1_0 := NB.cell qa_0 nea
          have q1_1 := NB.cell qa_1 nea
          have q1_2 := NB.cell qa_2 nea
          have sz1 : wr.heap.size < (wT.setCell ⟨bc, m, none⟩ (.slice aT k cT)).heap.size := Nat.lt_of_lt_of_le la NB.size
          have L1 := Lib.hid (And.intro KC1 (And.intro KV1 (And.intro KM1 (And.intro KX1 RT3))))
          clear VC RT RT2 RT3 KC1 KV1 KM1 KX1 NB XAT XT XT2 qa_0 qa_1 qa_2
          go_upto_region 19 with (fail)
          refine settle_wp ?_
          intro wS hbS
          have q2_0 := hbS.cell q1_0
          have q2_1 := hbS.cell q1_1
          have q2_2 := hbS.cell q1_2
          have K2C := L1.out.1.ext hbS
          have K2V := L1.out.2.1.ext hbS
          have K2M := L1.out.2.2.1.ext hbS
          have K2X := L1.out.2.2.2.1.trans hbS
          have K2R := L1.out.2.2.2.2.ext hbS
          have sz2 : wr.heap.size < wS.heap.size := Nat.lt_of_lt_of_le sz1 hbS.size
          have qm2 := K2C.va.c m hlt
          simp only [if_true] at qm2
          have L2 := Lib.hid (And.intro K2C (And.intro K2V (And.intro K2M (And.intro K2X K2R))))
          clear hbS q1_0 q1_1 q1_2 K2C K2V K2M K2X K2R sz1 qc zc
          refine wp_region_later_tail 8 (by kernel_rfl) (by kernel_rfl) ?_
          simp only [List.take_succ_cons, List.take_zero, List.drop_succ_cons, List.drop_zero]
          have l_0 := fun (g : Later wS) => g.ok.cell q2_0
          have l_m := fun (g : Later wS) => g.ok.cell qm2
          repeat (go_big_quiet_step ((fail)))
          refine wpQuiet_nil ?_
          intro wU hlU
          have XU := laters_ext hlU
          have VU := L2.out.2.1.ext XU
          have qu := VU.va.c tn htk
          have zu := VU.va.z tn htk
          have RU := L2.out.2.2.2.2.ext XU
          have K3V := VU.set (by omega) htk RU
          have K3C := (L2.out.1.ext XU).low (x := bc + 1) (o := tn) (by omega) (by omega) (.slice aT k cT)
          have K3M := (L2.out.2.2.1.ext XU).but (but_setCell wU ⟨bc + 1, tn, none⟩ (.slice aT k cT)) (by intro e; simp at e; omega)
          have K3X := (L2.out.2.2.2.1.trans XU).setCell (p := ⟨bc + 1, tn, none⟩) (by show w.heap.size ≤ bc + 1; omega) (.slice aT k cT)
          have N3 : But (fun j => j = bc + 1) wS (wU.setCell ⟨bc + 1, tn, none⟩ (.slice aT k cT)) := (XU.but _).trans (but_setCell wU ⟨bc + 1, tn, none⟩ (.slice aT k cT))
          have neb : ¬ wr.heap.size = bc + 1 := by omega
          have q3_1 := N3.cell q2_1 neb
          have q3_2 := N3.cell q2_2 neb
          have sz3 : wr.heap.size < (wU.setCell ⟨bc + 1, tn, none⟩ (.slice aT k cT)).heap.size := Nat.lt_of_lt_of_le sz2 N3.size
          have L3 := Lib.hid (And.intro K3C (And.intro K3V (And.intro K3M K3X)))
          clear hlU VU RU K3V K3C K3M K3X N3 XU l_0 l_m q2_0 q2_1 q2_2 qm2
          go_upto_region 20 with (fail)
          refine settle_wp ?_
          intro wX hbX
          have q4_1 := hbX.cell q3_1
          have q4_2 := hbX.cell q3_2
          have K4C := L3.out.1.ext hbX
          have K4V := L3.out.2.1.ext hbX
          have K4M := L3.out.2.2.1.ext hbX
          have K4X := L3.out.2.2.2.trans hbX
          have sz4 : wr.heap.size < wX.heap.size := Nat.lt_of_lt_of_le sz3 hbX.size
          have K4V' := K4V.congr (d := fun t => latL k ls (m + 1) t) (fun i hi => by
            rw [lat_succ, hxx, HT.out]
            by_cases e : i = tn
            · subst e
              rw [if_pos rfl, if_pos rfl]
            · rw [if_neg e, if_neg (by omega)])
          have L4 := Lib.hid (And.intro K4C (And.intro K4V' (And.intro K4M K4X)))
          clear hbX q3_1 q3_2 K4C K4V K4V' K4M K4X sz3 qu zu
          have KS := SKIP.out wX L4.out.2.2.1 (by simp [hwr])
          have HKS := Lib.hid KS
          have hB5 : bc + 2 ≤ wX.heap.size := by omega
          clear KS
          go_wp2_with fail
          refine (CA.out _).mono ?_
          rintro e w' ⟨rfl, rfl⟩
          go_wp2_with fail
          refine (CW.out _).mono ?_
          rintro e w' ⟨rfl, rfl⟩
          go_wp2
          exact ⟨⟨m + 1, by omega, by go_num, L4.out.2.2.2, hB5, HKS.out, ⟨_, L4.out.1⟩, _, L4.out.2.1⟩, by simp [intOf]; omega⟩
        rw [hwr] at CW
        obtain ⟨sN, hsN⟩ : ∃ sN : Nat, awr ls x.c m = sN := ⟨(awr ls x.c m).toNat, by omega⟩
        have hsm := HS.out sN hsN
        have hfr2 := hfr hok
        rw [hsN] at hfr2
        subst hfr2
        have hsL : sN < L := by omega
        have hsL' : (sN : Int) < (L : Int) := by omega
        have VS := HC.out.ext HXA.out
        have RS := VS.ri sN hsm
        obtain ⟨aS, cS, eS⟩ := RS.ints.form
        have qs := VS.va.c sN hsL
        have RSI := RS.ints
        rw [eS] at qs RSI
        have okS := cl_ok HR.out sN (by rw [← HLL.out]; exact hsL)
        rw [okS.len] at qs RSI
        have CJ := Lib.hid (tJoin _ _ _ _ wA (HKI.out.ext HXA.out) RSI (by rw [show (latL k ls m (tn : Int)).length = k from HLEN.out]; omega) (by rw [okS.len]; omega))
        have HJO := Lib.hid (join_ok n1 n2 HLATO.out okS (show sN + 1 ≤ m by omega) (by omega) (by omega) htk').1
        have HSRC : Hid (srcA ls m = sN) := Lib.hid (by rw [hsrc, hsN])
        clear VS RS RSI eS okS hfr hsN hsrc
        go_wp2_with (first | (at_lookup; refine wpList_lookup_run rfl _ _ 58 true rfl rfl rfl hlk ?_; go_frame) | fail)
        refine (CA.out _).mono ?_
        rintro e w' ⟨rfl, rfl⟩
        go_wp2_with fail
        refine (CRD.out _).mono ?_
        rintro e w' ⟨rfl, rfl⟩
        go_wp2_with fail
        refine CJ.out.mono ?_
        rintro e wJ ⟨vJ, rfl, RJ, XJ⟩
        have XW : Ext wr wJ := HXA.out.trans XJ
        have XAW : Ext wA wJ := XJ
        obtain ⟨aJ, cJ, eJ⟩ := RJ.ints.form
        rw [HJO.out.len] at eJ
        subst eJ
        have HK := Lib.hid RJ.ints
        have qj_0 := XJ.cell qa_0
        clear RJ XJ qs
        have CT := Lib.hid (tTick _ _ (tn : Int) wJ HK.out (by rw [HJO.out.len]; omega))
        have hcl := HCL.out
        rw [HSRC.out, if_neg (by omega), HT.out, Int.toNat_natCast] at hcl
        have HTK : Hid (tickL (joinL (latL k ls m (tn : Int)) (cl k ls sN)) (tn : Int) = cl k ls m) := Lib.hid (by rw [hcl])
        clear hcl
        rw [HTK.out] at CT
        go_wp2_with fail
        refine CT.out.mono ?_
        rintro e wT ⟨vT, rfl, RT, XT⟩
        obtain ⟨aT, cT, eT⟩ := RT.ints.form
        rw [HOKM.out.len] at eT
        subst eT
        have XT2 : Ext wr wT := XW.trans XT
        have VC := HC.out.ext XT2
        have qc := VC.va.c m hlt
        have zc := VC.va.z m hlt
        have RT2 : RI wT (bc + 2) (.slice aT k cT) (cl k ls m) := RT.lower (Nat.le_trans hB XW.size)
        have KC1 := VC.set_new (by omega) hlt RT2
        have KV1 := (HV.out.ext XT2).low (x := bc) (o := m) (by omega) (by omega) (.slice aT k cT)
        have KM1 := (HMM.out.ext XT2).but (but_setCell wT ⟨bc, m, none⟩ (.slice aT k cT)) (by intro e; simp at e; omega)
        have KX1 := (HX.out.trans XT2).setCell (p := ⟨bc, m, none⟩) (by show w.heap.size ≤ bc; omega) (.slice aT k cT)
        have RT3 : RI (wT.setCell ⟨bc, m, none⟩ (.slice aT k cT)) (bc + 2) (.slice aT k cT) (cl k ls m) := (but_setCell wT ⟨bc, m, none⟩ (.slice aT k cT)).row RT2 (fun g hg e => by have := (World.ownsRow.lt RT2 g hg).1; simp at e; omega)
        have XAT : Ext wA wT := XAW.trans XT
        have NB : But (fun j => j = bc) wA (wT.setCell ⟨bc, m, none⟩ (.slice aT k cT)) := (XAT.but _).trans (but_setCell wT ⟨bc, m, none⟩ (.slice aT k cT))
        have nea : ¬ wr.heap.size = bc := by omega
        have q1_0 := NB.cell qa_0 nea
        have q1_1 := NB.cell qa_1 nea
        have q1_2 := NB.cell qa_2 nea
        have sz1 : wr.heap.size < (wT.setCell ⟨bc, m, none⟩ (.slice aT k cT)).heap.size := Nat.lt_of_lt_of_le la NB.size
        have L1 := Lib.hid (And.intro KC1 (And.intro KV1 (And.intro KM1 (And.intro KX1 RT3))))
        clear VC RT RT2 RT3 KC1 KV1 KM1 KX1 NB XAT XT XT2 qa_0 qa_1 qa_2
        go_upto_region 19 with (fail)
        refine settle_wp ?_
        intro wS hbS
        have q2_0 := hbS.cell q1_0
        have q2_1 := hbS.cell q1_1
        have q2_2 := hbS.cell q1_2
        have K2C := L1.out.1.ext hbS
        have K2V := L1.out.2.1.ext hbS
        have K2M := L1.out.2.2.1.ext hbS
        have K2X := L1.out.2.2.2.1.trans hbS
        have K2R := L1.out.2.2.2.2.ext hbS
        have sz2 : wr.heap.size < wS.heap.size := Nat.lt_of_lt_of_le sz1 hbS.size
        have qm2 := K2C.va.c m hlt
        simp only [if_true] at qm2
        have L2 := Lib.hid (And.intro K2C (And.intro K2V (And.intro K2M (And.intro K2X K2R))))
        clear hbS q1_0 q1_1 q1_2 K2C K2V K2M K2X K2R sz1 qc zc
        refine wp_region_later_tail 8 (by kernel_rfl) (by kernel_rfl) ?_
        simp only [List.take_succ_cons, List.take_zero, List.drop_succ_cons, List.drop_zero]
        have l_0 := fun (g : Later wS) => g.ok.cell q2_0
        have l_m := fun (g : Later wS) => g.ok.cell qm2
        repeat (go_big_quiet_step ((fail)))
        refine wpQuiet_nil ?_
        intro wU hlU
        have XU := laters_ext hlU
        have VU := L2.out.2.1.ext XU
        have qu := VU.va.c tn htk
        have zu := VU.va.z tn htk
        have RU := L2.out.2.2.2.2.ext XU
        have K3V := VU.set (by omega) htk RU
        have K3C := (L2.out.1.ext XU).low (x := bc + 1) (o := tn) (by omega) (by omega) (.slice aT k cT)
        have K3M := (L2.out.2.2.1.ext XU).but (but_setCell wU ⟨bc + 1, tn, none⟩ (.slice aT k cT)) (by intro e; simp at e; omega)
        have K3X := (L2.out.2.2.2.1.trans XU).setCell (p := ⟨bc + 1, tn, none⟩) (by show w.heap.size ≤ bc + 1; omega) (.slice aT k cT)
        have N3 : But (fun j => j = bc + 1) wS (wU.setCell ⟨bc + 1, tn, none⟩ (.slice aT k cT)) := (XU.but _).trans (but_setCell wU ⟨bc + 1, tn, none⟩ (.slice aT k cT))
        have neb : ¬ wr.heap.size = bc + 1 := by omega
        have q3_1 := N3.cell q2_1 neb
        have q3_2 := N3.cell q2_2 neb
        have sz3 : wr.heap.size < (wU.setCell ⟨bc + 1, tn, none⟩ (.slice aT k cT)).heap.size := Nat.lt_of_lt_of_le sz2 N3.size
        have L3 := Lib.hid (And.intro K3C (And.intro K3V (And.intro K3M K3X)))
        clear hlU VU RU K3V K3C K3M K3X N3 XU l_0 l_m q2_0 q2_1 q2_2 qm2
        go_upto_region 20 with (fail)
        refine settle_wp ?_
        intro wX hbX
        have q4_1 := hbX.cell q3_1
        have q4_2 := hbX.cell q3_2
        have K4C := L3.out.1.ext hbX
        have K4V := L3.out.2.1.ext hbX
        have K4M := L3.out.2.2.1.ext hbX
        have K4X := L3.out.2.2.2.trans hbX
        have sz4 : wr.heap.size < wX.heap.size := Nat.lt_of_lt_of_le sz3 hbX.size
        have K4V' := K4V.congr (d := fun t => latL k ls (m + 1) t) (fun i hi => by
          rw [lat_succ, hxx, HT.out]
          by_cases e : i = tn
          · subst e
            rw [if_pos rfl, if_pos rfl]
          · rw [if_neg e, if_neg (by omega)])
        have L4 := Lib.hid (And.intro K4C (And.intro K4V' (And.intro K4M K4X)))
        clear hbX q3_1 q3_2 K4C K4V K4V' K4M K4X sz3 qu zu
        obtain ⟨wP, hput, KP, gP⟩ := PUT.out wX L4.out.2.2.1 ⟨hat, hwr⟩
        obtain ⟨es, ckk, hmap⟩ := L4.out.2.2.1.heap
        have K5C := L4.out.1.map hmap gP
        have K5V := L4.out.2.1.map hmap gP
        have K5X := L4.out.2.2.2.grown gP (fun j hj => by cases hj; omega)
        have hB5 : bc + 2 ≤ wP.heap.size := Nat.le_trans (by omega) gP.size
        have L5 := Lib.hid (And.intro K5C (And.intro K5V (And.intro KP K5X)))
        clear K5C K5V KP K5X gP hmap
        go_wp2_with fail
        refine (CA.out _).mono ?_
        rintro e w' ⟨rfl, rfl⟩
        go_wp2_with fail
        refine (CW.out _).mono ?_
        rintro e w' ⟨rfl, rfl⟩
        go_wp2_with (first | (at_mapUpdate; refine wpList_update_run rfl _ _ _ 58 rfl rfl rfl rfl hput ?_; go_frame) | go_in)
        exact ⟨⟨m + 1, by omega, by go_num, L5.out.2.2.2, hB5, L5.out.2.2.1, ⟨_, L5.out.1⟩, _, L5.out.2.1⟩, by simp [intOf]; omega⟩
end Go.Proofs.Ytoaifbengichbaa

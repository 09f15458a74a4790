/- span's runs: the iterator. -/
import Derived.Test.YtclhbdedibcgjaaSpanRuns
import Derived.Deep.DeepCutAuto
namespace Go.Proofs.Ytclhbdedibcgjaa
open Go.RowKit
set_option linter.unusedVariables false
set_option maxHeartbeats 1000000
attribute [local go_sem] later_cell later_frozen later_const
/-- how many are left, read out of the box -/
def restN (p : Value) (w : World) : Nat :=
  match p with
  | .pointer (some a) => match w.cell? ⟨a.block, 1, none⟩ with | some (.int _ z) => z.toNat | _ => 0
  | _ => 0
/-- what a round does -/
def RoundDoes (w0 : World) (base E l pb : Nat) (r : Loop) (c : Int) (v : Value) (k : Nat) (cs : List Value) (f m : Int) (W : World) (e : Ending) (W' : World) : Prop :=
  e = .returned (.bool true) ∧ ∃ v', Mid w0 base E 2 l pb r v' (k + 1) (cs ++ [.int .i64 (f % c), .int .i64 m]) W' ∧ But (fun b => b = l ∨ b = pb ∨ v.ownBlock = some b) W W' ∧ (v'.ownBlock = v.ownBlock ∨ ∃ g, v'.ownBlock = some g ∧ W.heap.size ≤ g)
theorem flat_len (c s n : Int) : (flat (pcs c s n)).length ≤ 4 := by
  unfold pcs
  split
  · simp [flat]
  · split <;> simp [flat]
theorem restN_eq {b : Nat} {w : World} {z : Int} {q : IntKind} (h : w.cell? ⟨b, 1, none⟩ = some (.int q z)) : restN (.pointer (some ⟨b, 0, none⟩)) w = z.toNat := by
  unfold restN
  simp only [h]
/-- where the iterator stands at the loop's head -/
def ItRel32 (w0 : World) (base E l pb cb : Nat) (r : Loop) (c : Int) (all : List Value) (p : Value) (wr : World) : Prop :=
  ∃ (rb : Nat) (f n : Int) (v : Value) (k : Nat) (cs : List Value), p = .pointer (some ⟨rb, 0, none⟩) ∧ (0 ≤ f ∧ f < 4294967296) ∧ (0 ≤ n ∧ n ≤ c) ∧
    (wr.cell? ⟨rb, 0, none⟩ = some (.int .u32 f) ∧ wr.cell? ⟨rb, 1, none⟩ = some (.int .i64 n)) ∧ (wr.frozen? ⟨rb, 0, none⟩ = false ∧ wr.frozen? ⟨rb, 1, none⟩ = false) ∧
    wr.cell? ⟨cb, 0, none⟩ = some (.int .i64 c) ∧ Mid w0 base E 2 l pb r v k cs wr ∧ cs ++ flat (pcs c (f % c) n) = all ∧ base ≤ rb ∧ v.ownBlock ≠ some rb
/-- one round more -/
theorem it_step32 {w0 : World} {base E l pb cb rb T : Nat} {r : Loop} {c f m n k1 : Int} {all : List Value} {v v1 : Value} {k : Nat} {cs : List Value} {w3 W1 : World} (hc : rightB c = true)
    (hl : l < base) (hp : pb < base) (hcb : cb < base) (hd : r.defers < base) (h0 : w0.heap.size ≤ base) (hb3 : base ≤ w3.heap.size) (hsz : rb < w3.heap.size) (hrb : base ≤ rb) (hvr : v.ownBlock ≠ some rb)
    (hn : 0 < n ∧ n ≤ c) (hm : min n (c - f % c) = m) (hk1 : n - m = k1) (hall : cs ++ flat (pcs c (f % c) n) = all)
    (hM1 : Mid w0 base E 2 l pb r v1 (k + 1) (cs ++ [.int .i64 (f % c), .int .i64 m]) W1) (hvb : v1.ownBlock = v.ownBlock ∨ ∃ g, v1.ownBlock = some g ∧ w3.heap.size ≤ g)
    (qr0 : W1.cell? ⟨rb, 0, none⟩ = some (.int .u32 f)) (qr1 : W1.cell? ⟨rb, 1, none⟩ = some (.int .i64 n)) (qc : W1.cell? ⟨cb, 0, none⟩ = some (.int .i64 c)) :
    ItRel32 w0 base E l pb cb r c all (.pointer (some ⟨W1.heap.size, 0, none⟩)) (((W1.setCell ⟨rb, 0, none⟩ (.int .u32 ((f + m) % 4294967296))).setCell ⟨rb, 1, none⟩ (.int .i64 k1)).alloc (.cells #[.int .u32 ((f + m) % 4294967296), .int .i64 k1] T)) := by
  have hc2 := right_range hc
  have hs0 := Int.emod_nonneg f (show c ≠ 0 by omega)
  have hs1 := Int.emod_lt_of_pos f (show 0 < c by omega)
  have hv1 : v1.ownBlock ≠ some rb := by
    rcases hvb with h | ⟨g, h, hg⟩
    · rw [h]; exact hvr
    · rw [h]; intro e; cases e; omega
  have B1 : But (· = rb) W1 ((W1.setCell ⟨rb, 0, none⟩ (.int .u32 ((f + m) % 4294967296))).setCell ⟨rb, 1, none⟩ (.int .i64 k1)) := (but_setCell W1 ⟨rb, 0, none⟩ _).trans (but_setCell _ ⟨rb, 1, none⟩ _)
  have M2 := hM1.but B1 (by omega) (by omega) (by omega) (fun g hg e => by subst e; exact hv1 hg) (fun i e => by subst e; omega)
  have qc2 := B1.cell qc (by omega)
  generalize hW2 : (W1.setCell ⟨rb, 0, none⟩ (.int .u32 ((f + m) % 4294967296))).setCell ⟨rb, 1, none⟩ (.int .i64 k1) = W2 at *
  have hz : W2.heap.size = W1.heap.size := by rw [← hW2]; simp [World.setCell]
  have X : Ext W2 (W2.alloc (.cells #[.int .u32 ((f + m) % 4294967296), .int .i64 k1] T)) := (Ext.refl _).alloc _
  rw [← hz]
  refine ⟨W2.heap.size, ((f + m) % 4294967296), k1, v1, k + 1, cs ++ [.int .i64 (f % c), .int .i64 m], rfl, ?_, by omega, ⟨by simp [go_sem], by simp [go_sem]⟩, ⟨by simp [go_sem], by simp [go_sem]⟩, X.cell qc2, M2.grow X, ?_, ?_, ?_⟩
  · first | omega | exact U64_range _
  · rw [← hall, pcs_step f hn.1 hn.2, hm, hk1, flat_cons, mod32_mod hc]
    simp
  · have := M2.b.size
    have h2 := World.block_lt_of_cell? _ ⟨rb, 0, none⟩ qr0
    simp at h2
    omega
  · intro e
    have := (M2.row.lt _ e).2
    omega
theorem sRunsIt32 (f n c : Int) (w0 : World) (base E l pb sb cb : Nat) (r : Loop) (W : World) (hc : rightB c = true) (hf : 0 ≤ f ∧ f < 4294967296) (hn : 0 ≤ n ∧ n ≤ c)
    (hs0 : W.cell? ⟨sb, 0, none⟩ = some (.int .u32 f)) (hs1 : W.cell? ⟨sb, 1, none⟩ = some (.int .i64 n)) (hcb : W.cell? ⟨cb, 0, none⟩ = some (.int .i64 c))
    (hl : l < base) (hp : pb < base) (hcb' : cb < base) (hd : r.defers < base) (hbase : base ≤ W.heap.size) (hcl : cb ≠ l) (hcp : cb ≠ pb) (h0 : w0.heap.size ≤ base)
    (hM : Mid w0 base E 2 l pb r (.slice none 0 0) 0 [] W)
    (hY : ∀ (v : Value) (k : Nat) (cs : List Value) (f m : Int) (W : World), Mid w0 base E 2 l pb r v k cs W → W.cell? ⟨cb, 0, none⟩ = some (.int .i64 c) → k ≤ 1000000 → 0 ≤ f → f < 4294967296 → base ≤ W.heap.size →
      YieldAt Fence.wide 2 Try.prog l #[.agg #[.int .u32 f, .int .i64 m]] W (RoundDoes w0 base E l pb r c v k cs f m W)) :
    Calls Try.prog 54 #[.func (.yield l) #[] #[], .pointer (some ⟨sb, 0, none⟩), .pointer (some ⟨cb, 0, none⟩)] W fun e W' => (∃ v, e = .returned v) ∧ ∃ v k, Mid w0 base E 2 l pb r v k (flat (pcs c (f % c) n)) W' := by
  have HM := Lib.hid hM
  have HY := Lib.hid hY
  have HF := Lib.hid hf
  clear hM hY hf
  go_enter Try.func54, Try.ntmps54
  go_wp2
  go_loopw [4] (fun p wr => ItRel32 w0 base E l pb cb r c (flat (pcs c (f % c) n)) p wr) (fun p wr => restN p wr)
  case atStart =>
    have X : Ext W (W.alloc (.cells #[.int .u32 f, .int .i64 n] 29)) := (Ext.refl _).alloc _
    exact ⟨W.heap.size, f, n, .slice none 0 0, 0, [], rfl, HF.out, hn, ⟨by simp [go_sem], by simp [go_sem]⟩, ⟨by simp [go_sem], by simp [go_sem]⟩, X.cell hcb, HM.out.grow X, rfl, hbase, by simp [Value.ownBlock]⟩
  case round =>
    obtain ⟨rb, f1, n1, v, k, cs, rfl, hf1, hn1, ⟨qr_0, qr_1⟩, ⟨zr_0, zr_1⟩, qc_0, hM, hall, hrb, hvr⟩ := hrel
    have qR_0 := Lib.hid qr_0
    have qR_1 := Lib.hid qr_1
    have hk : k ≤ 1000000 := by
      have h1 := hM.row.1
      have h2 := flat_len c (f % c) n
      rw [← hall] at h2
      simp at h2
      omega
    by_cases hpos : 0 < n1
    · have d1 : decide (0 < n1) = true := by simpa using hpos
      have HMr := Lib.hid hM
      have HALL := Lib.hid hall
      have HF1 := Lib.hid hf1
      clear hM hall hf1
      have hs0 := Int.emod_nonneg f1 (show c ≠ 0 by omega)
      have hs1 := Int.emod_lt_of_pos f1 (show 0 < c by omega)
      have hcr := right_range hc
      have hwr : IntKind.i64.wrap (c - f1 % c) = c - f1 % c := IntWalk.i64_in _ (by omega)
      go_wp2
      refine wp_region_later (by kernel_rfl) (by kernel_rfl) ?_
      have lr_0 := fun (g : Later wr) => g.ok.cell qr_0
      have lr_1 := fun (g : Later wr) => g.ok.cell qr_1
      have lc_0 := fun (g : Later wr) => g.ok.cell qc_0
      repeat (go_big_quiet_step ((fail)))
      go_big_quiet_step ((go_at_call 46; exact laterS (slotU32 _ _ _ hc HF1.out.1 HF1.out.2)))
      repeat (go_big_quiet_step ((fail)))
      refine wpQuiet_nil ?_
      intro w1 hl1
      have hb1 := laters_ext hl1
      clear hl1 lr_0 lr_1 lc_0
      have hx1 : Ext wr w1 := by repeat (first | with_reducible exact Ext.refl _ | with_reducible assumption | with_reducible refine Ext.alloc ?_ _ | with_reducible refine Ext.drew ?_ | with_reducible refine Ext.drewN ?_ _ | with_reducible refine Ext.setCell ?_ (by simp <;> omega) _ | with_reducible refine Ext.trans ?_ (by assumption))
      replace zr_0 := hx1.frozen qr_0 zr_0
      replace qr_0 := hx1.cell qr_0
      replace zr_1 := hx1.frozen qr_1 zr_1
      replace qr_1 := hx1.cell qr_1
      replace qc_0 := hx1.cell qc_0
      clear hx1
      clear hwr
      have hkn : okN n1 = true := okN_of (by omega) (by omega)
      by_cases hle : n1 ≤ c - f1 % c
      · have hmin : min n1 (c - f1 % c) = n1 := by omega
        have hlt : ¬ n1 ≤ c - f1 % c → c - f1 % c < n1 := by omega
        have hgt := hlt
        have hm0 : 0 < n1 := by omega
        have hm1 : n1 ≤ n1 := by omega
        have HMIN := Lib.hid hmin
        clear hmin hlt hgt
        go_wp2_with fail
        refine (sCut32_yes _ _ _ _ hkn (by omega) (by omega)).mono ?_
        rintro e w2 ⟨rfl, hb2⟩
        have hx2 : Ext w1 w2 := by repeat (first | with_reducible exact Ext.refl _ | with_reducible assumption | with_reducible refine Ext.alloc ?_ _ | with_reducible refine Ext.drew ?_ | with_reducible refine Ext.drewN ?_ _ | with_reducible refine Ext.setCell ?_ (by simp <;> omega) _ | with_reducible refine Ext.trans ?_ (by assumption))
        replace zr_0 := hx2.frozen qr_0 zr_0
        replace qr_0 := hx2.cell qr_0
        replace zr_1 := hx2.frozen qr_1 zr_1
        replace qr_1 := hx2.cell qr_1
        replace qc_0 := hx2.cell qc_0
        clear hx2
        go_upto_region 4 with (fail)
        refine settle_wp ?_
        intro w3 hb3
        have hx3 : Ext w2 w3 := by repeat (first | with_reducible exact Ext.refl _ | with_reducible assumption | with_reducible refine Ext.alloc ?_ _ | with_reducible refine Ext.drew ?_ | with_reducible refine Ext.drewN ?_ _ | with_reducible refine Ext.setCell ?_ (by simp <;> omega) _ | with_reducible refine Ext.trans ?_ (by assumption))
        replace zr_0 := hx3.frozen qr_0 zr_0
        replace qr_0 := hx3.cell qr_0
        replace zr_1 := hx3.frozen qr_1 zr_1
        replace qr_1 := hx3.cell qr_1
        replace qc_0 := hx3.cell qc_0
        clear hx3
        have qu_0 : w3.cell? ⟨w2.heap.size, 0, none⟩ = some (.int .u32 f1) := (hb3.cells.1 _ _ (by simp <;> omega)).trans (by simp [go_sem])
        have qu_1 : w3.cell? ⟨w2.heap.size, 1, none⟩ = some (.int .i64 n1) := (hb3.cells.1 _ _ (by simp <;> omega)).trans (by simp [go_sem])
        have pu := World.block_lt_of_cell? _ ⟨w2.heap.size, 0, none⟩ qu_0
        have ru := Nat.lt_succ_of_lt pu
        have qo_0 : w3.cell? ⟨w2.heap.size + 1, 0, none⟩ = some (.int .u32 ((f1 + n1) % 4294967296)) := (hb3.cells.1 _ _ (by simp <;> omega)).trans (by simp [go_sem])
        have qo_1 : w3.cell? ⟨w2.heap.size + 1, 1, none⟩ = some (.int .i64 0) := (hb3.cells.1 _ _ (by simp <;> omega)).trans (by simp [go_sem])
        have po := World.block_lt_of_cell? _ ⟨w2.heap.size + 1, 0, none⟩ qo_0
        have ro := Nat.lt_succ_of_lt po
        have hsz : rb < w3.heap.size := World.block_lt_of_cell? _ ⟨rb, 0, none⟩ qr_0
        have HM2 := Lib.hid (HMr.out.grow (show Ext wr w3 by repeat (first | with_reducible exact Ext.refl _ | with_reducible assumption | with_reducible refine Ext.alloc ?_ _ | with_reducible refine Ext.drew ?_ | with_reducible refine Ext.drewN ?_ _ | with_reducible refine Ext.setCell ?_ (by simp <;> omega) _ | with_reducible refine Ext.trans ?_ (by assumption))))
        obtain ⟨fn, tmps, assign, body, hy, hR⟩ := HY.out v k cs f1 n1 w3 HM2.out qc_0 hk HF1.out.1 HF1.out.2 (by omega)
        have HR := Lib.hid hR
        clear hR
        refine (wpIn_wide (n := 3)).1 ?_
        gi_wp2
        refine HR.out.mono ?_
        rintro e W1 ⟨rfl, v1, hM1, hbut, hvb⟩
        have HM1 := Lib.hid hM1
        have HBUT := Lib.hid hbut
        have HVB := Lib.hid hvb
        clear hM1 hbut hvb
        gi_wp2
        have hvlt := fun g (h : v.ownBlock = some g) => (HMr.out.row.lt g h)
        have hwl : wr.heap.size ≤ w2.heap.size := (show Ext wr w2 by repeat (first | with_reducible exact Ext.refl _ | with_reducible assumption | with_reducible refine Ext.alloc ?_ _ | with_reducible refine Ext.drew ?_ | with_reducible refine Ext.drewN ?_ _ | with_reducible refine Ext.setCell ?_ (by simp <;> omega) _ | with_reducible refine Ext.trans ?_ (by assumption))).size
        have hpl : w2.heap.size + 1 < w3.heap.size := World.block_lt_of_cell? _ ⟨w2.heap.size + 1, 0, none⟩ qo_0
        have hrw : rb < wr.heap.size := World.block_lt_of_cell? _ ⟨rb, 0, none⟩ qR_0.out
        have nr : ¬ (rb = l ∨ rb = pb ∨ v.ownBlock = some rb) := by
          rintro (h | h | h)
          · omega
          · omega
          · exact hvr h
        have no : ¬ (w2.heap.size + 1 = l ∨ w2.heap.size + 1 = pb ∨ v.ownBlock = some (w2.heap.size + 1)) := by
          rintro (h | h | h)
          · omega
          · omega
          · have := (hvlt _ h).2; omega
        have nc : ¬ (cb = l ∨ cb = pb ∨ v.ownBlock = some cb) := by
          rintro (h | h | h)
          · exact hcl h
          · exact hcp h
          · have := (hvlt _ h).1; omega
        replace zr_0 := HBUT.out.frozen qr_0 zr_0 nr
        replace zr_1 := HBUT.out.frozen qr_1 zr_1 nr
        replace qr_0 := HBUT.out.cell qr_0 nr
        replace qr_1 := HBUT.out.cell qr_1 nr
        replace qo_0 := HBUT.out.cell qo_0 no
        replace qo_1 := HBUT.out.cell qo_1 no
        replace qc_0 := HBUT.out.cell qc_0 nc
        have STEP := Lib.hid (it_step32 (T := 29) hc hl hp hcb' hd h0 (by omega) hsz hrb hvr ⟨hpos, hn1.2⟩ HMIN.out (show n1 - n1 = 0 by omega) HALL.out HM1.out HVB.out qr_0 qr_1 qc_0)
        clear hvlt nr no nc qu_0 qu_1
        go_wp2
        refine ⟨?_, ?_⟩
        · exact STEP.out
        · rw [restN_eq (b := rb) qR_1.out]
          rw [restN_eq (b := W1.heap.size) (z := 0) (q := .i64) (by simp [go_sem])]
          omega
      · have hmin : min n1 (c - f1 % c) = (c - f1 % c) := by omega
        have hlt : ¬ n1 ≤ c - f1 % c → c - f1 % c < n1 := by omega
        have hgt := hlt
        have hm0 : 0 < (c - f1 % c) := by omega
        have hm1 : (c - f1 % c) ≤ n1 := by omega
        have HMIN := Lib.hid hmin
        clear hmin hlt hgt
        go_wp2_with fail
        refine (sCut32_yes _ _ _ _ hkn (by omega) (by omega)).mono ?_
        rintro e w4 ⟨rfl, hb4⟩
        have hx4 : Ext w1 w4 := by repeat (first | with_reducible exact Ext.refl _ | with_reducible assumption | with_reducible refine Ext.alloc ?_ _ | with_reducible refine Ext.drew ?_ | with_reducible refine Ext.drewN ?_ _ | with_reducible refine Ext.setCell ?_ (by simp <;> omega) _ | with_reducible refine Ext.trans ?_ (by assumption))
        replace zr_0 := hx4.frozen qr_0 zr_0
        replace qr_0 := hx4.cell qr_0
        replace zr_1 := hx4.frozen qr_1 zr_1
        replace qr_1 := hx4.cell qr_1
        replace qc_0 := hx4.cell qc_0
        clear hx4
        go_upto_region 4 with (fail)
        refine settle_wp ?_
        intro w5 hb5
        have hx5 : Ext w4 w5 := by repeat (first | with_reducible exact Ext.refl _ | with_reducible assumption | with_reducible refine Ext.alloc ?_ _ | with_reducible refine Ext.drew ?_ | with_reducible refine Ext.drewN ?_ _ | with_reducible refine Ext.setCell ?_ (by simp <;> omega) _ | with_reducible refine Ext.trans ?_ (by assumption))
        replace zr_0 := hx5.frozen qr_0 zr_0
        replace qr_0 := hx5.cell qr_0
        replace zr_1 := hx5.frozen qr_1 zr_1
        replace qr_1 := hx5.cell qr_1
        replace qc_0 := hx5.cell qc_0
        clear hx5
        have qu_0 : w5.cell? ⟨w4.heap.size, 0, none⟩ = some (.int .u32 f1) := (hb5.cells.1 _ _ (by simp <;> omega)).trans (by simp [go_sem])
        have qu_1 : w5.cell? ⟨w4.heap.size, 1, none⟩ = some (.int .i64 (c - f1 % c)) := (hb5.cells.1 _ _ (by simp <;> omega)).trans (by simp [go_sem])
        have pu := World.block_lt_of_cell? _ ⟨w4.heap.size, 0, none⟩ qu_0
        have ru := Nat.lt_succ_of_lt pu
        have qo_0 : w5.cell? ⟨w4.heap.size + 1, 0, none⟩ = some (.int .u32 ((f1 + (c - f1 % c)) % 4294967296)) := (hb5.cells.1 _ _ (by simp <;> omega)).trans (by simp [go_sem])
        have qo_1 : w5.cell? ⟨w4.heap.size + 1, 1, none⟩ = some (.int .i64 (n1 - (c - f1 % c))) := (hb5.cells.1 _ _ (by simp <;> omega)).trans (by simp [go_sem])
        have po := World.block_lt_of_cell? _ ⟨w4.heap.size + 1, 0, none⟩ qo_0
        have ro := Nat.lt_succ_of_lt po
        have hsz : rb < w5.heap.size := World.block_lt_of_cell? _ ⟨rb, 0, none⟩ qr_0
        have HM2 := Lib.hid (HMr.out.grow (show Ext wr w5 by repeat (first | with_reducible exact Ext.refl _ | with_reducible assumption | with_reducible refine Ext.alloc ?_ _ | with_reducible refine Ext.drew ?_ | with_reducible refine Ext.drewN ?_ _ | with_reducible refine Ext.setCell ?_ (by simp <;> omega) _ | with_reducible refine Ext.trans ?_ (by assumption))))
        obtain ⟨fn, tmps, assign, body, hy, hR⟩ := HY.out v k cs f1 (c - f1 % c) w5 HM2.out qc_0 hk HF1.out.1 HF1.out.2 (by omega)
        have HR := Lib.hid hR
        clear hR
        refine (wpIn_wide (n := 3)).1 ?_
        gi_wp2
        refine HR.out.mono ?_
        rintro e W1 ⟨rfl, v1, hM1, hbut, hvb⟩
        have HM1 := Lib.hid hM1
        have HBUT := Lib.hid hbut
        have HVB := Lib.hid hvb
        clear hM1 hbut hvb
        gi_wp2
        have hvlt := fun g (h : v.ownBlock = some g) => (HMr.out.row.lt g h)
        have hwl : wr.heap.size ≤ w4.heap.size := (show Ext wr w4 by repeat (first | with_reducible exact Ext.refl _ | with_reducible assumption | with_reducible refine Ext.alloc ?_ _ | with_reducible refine Ext.drew ?_ | with_reducible refine Ext.drewN ?_ _ | with_reducible refine Ext.setCell ?_ (by simp <;> omega) _ | with_reducible refine Ext.trans ?_ (by assumption))).size
        have hpl : w4.heap.size + 1 < w5.heap.size := World.block_lt_of_cell? _ ⟨w4.heap.size + 1, 0, none⟩ qo_0
        have hrw : rb < wr.heap.size := World.block_lt_of_cell? _ ⟨rb, 0, none⟩ qR_0.out
        have nr : ¬ (rb = l ∨ rb = pb ∨ v.ownBlock = some rb) := by
          rintro (h | h | h)
          · omega
          · omega
          · exact hvr h
        have no : ¬ (w4.heap.size + 1 = l ∨ w4.heap.size + 1 = pb ∨ v.ownBlock = some (w4.heap.size + 1)) := by
          rintro (h | h | h)
          · omega
          · omega
          · have := (hvlt _ h).2; omega
        have nc : ¬ (cb = l ∨ cb = pb ∨ v.ownBlock = some cb) := by
          rintro (h | h | h)
          · exact hcl h
          · exact hcp h
          · have := (hvlt _ h).1; omega
        replace zr_0 := HBUT.out.frozen qr_0 zr_0 nr
        replace zr_1 := HBUT.out.frozen qr_1 zr_1 nr
        replace qr_0 := HBUT.out.cell qr_0 nr
        replace qr_1 := HBUT.out.cell qr_1 nr
        replace qo_0 := HBUT.out.cell qo_0 no
        replace qo_1 := HBUT.out.cell qo_1 no
        replace qc_0 := HBUT.out.cell qc_0 nc
        have STEP := Lib.hid (it_step32 (T := 29) hc hl hp hcb' hd h0 (by omega) hsz hrb hvr ⟨hpos, hn1.2⟩ HMIN.out (show n1 - (c - f1 % c) = (n1 - (c - f1 % c)) by omega) HALL.out HM1.out HVB.out qr_0 qr_1 qc_0)
        clear hvlt nr no nc qu_0 qu_1
        go_wp2
        refine ⟨?_, ?_⟩
        · exact STEP.out
        · rw [restN_eq (b := rb) qR_1.out]
          rw [restN_eq (b := W1.heap.size) (z := (n1 - (c - f1 % c))) (q := .i64) (by simp [go_sem])]
          omega
    · have d1 : decide (0 < n1) = false := by simpa using hpos
      obtain rfl : n1 = 0 := by omega
      rw [pcs_zero c (f1 % c) 0 (by omega)] at hall
      have HMr := Lib.hid hM
      have HALL := Lib.hid hall
      clear hM hall
      go_wp2
      go_end0
      refine ⟨⟨_, rfl⟩, v, k, ?_⟩
      have h := HALL.out
      simp [flat] at h
      rw [show flat (pcs c (f % c) n) = cs by rw [h]; rfl]
      exact HMr.out
/-- where the iterator stands at the loop's head -/
def ItRel64 (w0 : World) (base E l pb cb : Nat) (r : Loop) (c : Int) (all : List Value) (p : Value) (wr : World) : Prop :=
  ∃ (rb : Nat) (f n : Int) (v : Value) (k : Nat) (cs : List Value), p = .pointer (some ⟨rb, 0, none⟩) ∧ (0 ≤ f ∧ f < 18446744073709551616) ∧ (0 ≤ n ∧ n ≤ c) ∧
    (wr.cell? ⟨rb, 0, none⟩ = some (.int .u64 f) ∧ wr.cell? ⟨rb, 1, none⟩ = some (.int .i64 n)) ∧ (wr.frozen? ⟨rb, 0, none⟩ = false ∧ wr.frozen? ⟨rb, 1, none⟩ = false) ∧
    wr.cell? ⟨cb, 0, none⟩ = some (.int .i64 c) ∧ Mid w0 base E 2 l pb r v k cs wr ∧ cs ++ flat (pcs c (f % c) n) = all ∧ base ≤ rb ∧ v.ownBlock ≠ some rb
/-- one round more -/
theorem it_step64 {w0 : World} {base E l pb cb rb T : Nat} {r : Loop} {c f m n k1 : Int} {all : List Value} {v v1 : Value} {k : Nat} {cs : List Value} {w3 W1 : World} (hc : rightB c = true)
    (hl : l < base) (hp : pb < base) (hcb : cb < base) (hd : r.defers < base) (h0 : w0.heap.size ≤ base) (hb3 : base ≤ w3.heap.size) (hsz : rb < w3.heap.size) (hrb : base ≤ rb) (hvr : v.ownBlock ≠ some rb)
    (hn : 0 < n ∧ n ≤ c) (hm : min n (c - f % c) = m) (hk1 : n - m = k1) (hall : cs ++ flat (pcs c (f % c) n) = all)
    (hM1 : Mid w0 base E 2 l pb r v1 (k + 1) (cs ++ [.int .i64 (f % c), .int .i64 m]) W1) (hvb : v1.ownBlock = v.ownBlock ∨ ∃ g, v1.ownBlock = some g ∧ w3.heap.size ≤ g)
    (qr0 : W1.cell? ⟨rb, 0, none⟩ = some (.int .u64 f)) (qr1 : W1.cell? ⟨rb, 1, none⟩ = some (.int .i64 n)) (qc : W1.cell? ⟨cb, 0, none⟩ = some (.int .i64 c)) :
    ItRel64 w0 base E l pb cb r c all (.pointer (some ⟨W1.heap.size, 0, none⟩)) (((W1.setCell ⟨rb, 0, none⟩ (.int .u64 (U64 (f + m)))).setCell ⟨rb, 1, none⟩ (.int .i64 k1)).alloc (.cells #[.int .u64 (U64 (f + m)), .int .i64 k1] T)) := by
  have hc2 := right_range hc
  have hs0 := Int.emod_nonneg f (show c ≠ 0 by omega)
  have hs1 := Int.emod_lt_of_pos f (show 0 < c by omega)
  have hv1 : v1.ownBlock ≠ some rb := by
    rcases hvb with h | ⟨g, h, hg⟩
    · rw [h]; exact hvr
    · rw [h]; intro e; cases e; omega
  have B1 : But (· = rb) W1 ((W1.setCell ⟨rb, 0, none⟩ (.int .u64 (U64 (f + m)))).setCell ⟨rb, 1, none⟩ (.int .i64 k1)) := (but_setCell W1 ⟨rb, 0, none⟩ _).trans (but_setCell _ ⟨rb, 1, none⟩ _)
  have M2 := hM1.but B1 (by omega) (by omega) (by omega) (fun g hg e => by subst e; exact hv1 hg) (fun i e => by subst e; omega)
  have qc2 := B1.cell qc (by omega)
  generalize hW2 : (W1.setCell ⟨rb, 0, none⟩ (.int .u64 (U64 (f + m)))).setCell ⟨rb, 1, none⟩ (.int .i64 k1) = W2 at *
  have hz : W2.heap.size = W1.heap.size := by rw [← hW2]; simp [World.setCell]
  have X : Ext W2 (W2.alloc (.cells #[.int .u64 (U64 (f + m)), .int .i64 k1] T)) := (Ext.refl _).alloc _
  rw [← hz]
  refine ⟨W2.heap.size, (U64 (f + m)), k1, v1, k + 1, cs ++ [.int .i64 (f % c), .int .i64 m], rfl, ?_, by omega, ⟨by simp [go_sem], by simp [go_sem]⟩, ⟨by simp [go_sem], by simp [go_sem]⟩, X.cell qc2, M2.grow X, ?_, ?_, ?_⟩
  · first | omega | exact U64_range _
  · rw [← hall, pcs_step f hn.1 hn.2, hm, hk1, flat_cons, mod64_mod hc]
    simp
  · have := M2.b.size
    have h2 := World.block_lt_of_cell? _ ⟨rb, 0, none⟩ qr0
    simp at h2
    omega
  · intro e
    have := (M2.row.lt _ e).2
    omega
theorem sRunsIt64 (f n c : Int) (w0 : World) (base E l pb sb cb : Nat) (r : Loop) (W : World) (hc : rightB c = true) (hf : 0 ≤ f ∧ f < 18446744073709551616) (hn : 0 ≤ n ∧ n ≤ c)
    (hs0 : W.cell? ⟨sb, 0, none⟩ = some (.int .u64 f)) (hs1 : W.cell? ⟨sb, 1, none⟩ = some (.int .i64 n)) (hcb : W.cell? ⟨cb, 0, none⟩ = some (.int .i64 c))
    (hl : l < base) (hp : pb < base) (hcb' : cb < base) (hd : r.defers < base) (hbase : base ≤ W.heap.size) (hcl : cb ≠ l) (hcp : cb ≠ pb) (h0 : w0.heap.size ≤ base)
    (hM : Mid w0 base E 2 l pb r (.slice none 0 0) 0 [] W)
    (hY : ∀ (v : Value) (k : Nat) (cs : List Value) (f m : Int) (W : World), Mid w0 base E 2 l pb r v k cs W → W.cell? ⟨cb, 0, none⟩ = some (.int .i64 c) → k ≤ 1000000 → 0 ≤ f → f < 18446744073709551616 → base ≤ W.heap.size →
      YieldAt Fence.wide 2 Try.prog l #[.agg #[.int .u64 f, .int .i64 m]] W (RoundDoes w0 base E l pb r c v k cs f m W)) :
    Calls Try.prog 55 #[.func (.yield l) #[] #[], .pointer (some ⟨sb, 0, none⟩), .pointer (some ⟨cb, 0, none⟩)] W fun e W' => (∃ v, e = .returned v) ∧ ∃ v k, Mid w0 base E 2 l pb r v k (flat (pcs c (f % c) n)) W' := by
  have HM := Lib.hid hM
  have HY := Lib.hid hY
  have HF := Lib.hid hf
  clear hM hY hf
  go_enter Try.func55, Try.ntmps55
  go_wp2
  go_loopw [4] (fun p wr => ItRel64 w0 base E l pb cb r c (flat (pcs c (f % c) n)) p wr) (fun p wr => restN p wr)
  case atStart =>
    have X : Ext W (W.alloc (.cells #[.int .u64 f, .int .i64 n] 32)) := (Ext.refl _).alloc _
    exact ⟨W.heap.size, f, n, .slice none 0 0, 0, [], rfl, HF.out, hn, ⟨by simp [go_sem], by simp [go_sem]⟩, ⟨by simp [go_sem], by simp [go_sem]⟩, X.cell hcb, HM.out.grow X, rfl, hbase, by simp [Value.ownBlock]⟩
  case round =>
    obtain ⟨rb, f1, n1, v, k, cs, rfl, hf1, hn1, ⟨qr_0, qr_1⟩, ⟨zr_0, zr_1⟩, qc_0, hM, hall, hrb, hvr⟩ := hrel
    have qR_0 := Lib.hid qr_0
    have qR_1 := Lib.hid qr_1
    have hk : k ≤ 1000000 := by
      have h1 := hM.row.1
      have h2 := flat_len c (f % c) n
      rw [← hall] at h2
      simp at h2
      omega
    by_cases hpos : 0 < n1
    · have d1 : decide (0 < n1) = true := by simpa using hpos
      have HMr := Lib.hid hM
      have HALL := Lib.hid hall
      have HF1 := Lib.hid hf1
      clear hM hall hf1
      have hs0 := Int.emod_nonneg f1 (show c ≠ 0 by omega)
      have hs1 := Int.emod_lt_of_pos f1 (show 0 < c by omega)
      have hcr := right_range hc
      have hwr : IntKind.i64.wrap (c - f1 % c) = c - f1 % c := IntWalk.i64_in _ (by omega)
      go_wp2
      refine wp_region_later (by kernel_rfl) (by kernel_rfl) ?_
      have lr_0 := fun (g : Later wr) => g.ok.cell qr_0
      have lr_1 := fun (g : Later wr) => g.ok.cell qr_1
      have lc_0 := fun (g : Later wr) => g.ok.cell qc_0
      repeat (go_big_quiet_step ((fail)))
      go_big_quiet_step ((go_at_call 48; exact laterS (slotU64 _ _ _ hc HF1.out.1 HF1.out.2)))
      repeat (go_big_quiet_step ((fail)))
      refine wpQuiet_nil ?_
      intro w1 hl1
      have hb1 := laters_ext hl1
      clear hl1 lr_0 lr_1 lc_0
      have hx1 : Ext wr w1 := by repeat (first | with_reducible exact Ext.refl _ | with_reducible assumption | with_reducible refine Ext.alloc ?_ _ | with_reducible refine Ext.drew ?_ | with_reducible refine Ext.drewN ?_ _ | with_reducible refine Ext.setCell ?_ (by simp <;> omega) _ | with_reducible refine Ext.trans ?_ (by assumption))
      replace zr_0 := hx1.frozen qr_0 zr_0
      replace qr_0 := hx1.cell qr_0
      replace zr_1 := hx1.frozen qr_1 zr_1
      replace qr_1 := hx1.cell qr_1
      replace qc_0 := hx1.cell qc_0
      clear hx1
      clear hwr
      have hkn : okN n1 = true := okN_of (by omega) (by omega)
      by_cases hle : n1 ≤ c - f1 % c
      · have hmin : min n1 (c - f1 % c) = n1 := by omega
        have hlt : ¬ n1 ≤ c - f1 % c → c - f1 % c < n1 := by omega
        have hgt := hlt
        have hm0 : 0 < n1 := by omega
        have hm1 : n1 ≤ n1 := by omega
        have HMIN := Lib.hid hmin
        clear hmin hlt hgt
        go_wp2_with fail
        refine (sCut64_yes _ _ _ _ hkn (by omega) (by omega)).mono ?_
        rintro e w2 ⟨rfl, hb2⟩
        have hx2 : Ext w1 w2 := by repeat (first | with_reducible exact Ext.refl _ | with_reducible assumption | with_reducible refine Ext.alloc ?_ _ | with_reducible refine Ext.drew ?_ | with_reducible refine Ext.drewN ?_ _ | with_reducible refine Ext.setCell ?_ (by simp <;> omega) _ | with_reducible refine Ext.trans ?_ (by assumption))
        replace zr_0 := hx2.frozen qr_0 zr_0
        replace qr_0 := hx2.cell qr_0
        replace zr_1 := hx2.frozen qr_1 zr_1
        replace qr_1 := hx2.cell qr_1
        replace qc_0 := hx2.cell qc_0
        clear hx2
        go_upto_region 4 with (fail)
        refine settle_wp ?_
        intro w3 hb3
        have hx3 : Ext w2 w3 := by repeat (first | with_reducible exact Ext.refl _ | with_reducible assumption | with_reducible refine Ext.alloc ?_ _ | with_reducible refine Ext.drew ?_ | with_reducible refine Ext.drewN ?_ _ | with_reducible refine Ext.setCell ?_ (by simp <;> omega) _ | with_reducible refine Ext.trans ?_ (by assumption))
        replace zr_0 := hx3.frozen qr_0 zr_0
        replace qr_0 := hx3.cell qr_0
        replace zr_1 := hx3.frozen qr_1 zr_1
        replace qr_1 := hx3.cell qr_1
        replace qc_0 := hx3.cell qc_0
        clear hx3
        have qu_0 : w3.cell? ⟨w2.heap.size, 0, none⟩ = some (.int .u64 f1) := (hb3.cells.1 _ _ (by simp <;> omega)).trans (by simp [go_sem])
        have qu_1 : w3.cell? ⟨w2.heap.size, 1, none⟩ = some (.int .i64 n1) := (hb3.cells.1 _ _ (by simp <;> omega)).trans (by simp [go_sem])
        have pu := World.block_lt_of_cell? _ ⟨w2.heap.size, 0, none⟩ qu_0
        have ru := Nat.lt_succ_of_lt pu
        have qo_0 : w3.cell? ⟨w2.heap.size + 1, 0, none⟩ = some (.int .u64 (U64 (f1 + n1))) := (hb3.cells.1 _ _ (by simp <;> omega)).trans (by simp [go_sem])
        have qo_1 : w3.cell? ⟨w2.heap.size + 1, 1, none⟩ = some (.int .i64 0) := (hb3.cells.1 _ _ (by simp <;> omega)).trans (by simp [go_sem])
        have po := World.block_lt_of_cell? _ ⟨w2.heap.size + 1, 0, none⟩ qo_0
        have ro := Nat.lt_succ_of_lt po
        have hsz : rb < w3.heap.size := World.block_lt_of_cell? _ ⟨rb, 0, none⟩ qr_0
        have HM2 := Lib.hid (HMr.out.grow (show Ext wr w3 by repeat (first | with_reducible exact Ext.refl _ | with_reducible assumption | with_reducible refine Ext.alloc ?_ _ | with_reducible refine Ext.drew ?_ | with_reducible refine Ext.drewN ?_ _ | with_reducible refine Ext.setCell ?_ (by simp <;> omega) _ | with_reducible refine Ext.trans ?_ (by assumption))))
        obtain ⟨fn, tmps, assign, body, hy, hR⟩ := HY.out v k cs f1 n1 w3 HM2.out qc_0 hk HF1.out.1 HF1.out.2 (by omega)
        have HR := Lib.hid hR
        clear hR
        refine (wpIn_wide (n := 3)).1 ?_
        gi_wp2
        refine HR.out.mono ?_
        rintro e W1 ⟨rfl, v1, hM1, hbut, hvb⟩
        have HM1 := Lib.hid hM1
        have HBUT := Lib.hid hbut
        have HVB := Lib.hid hvb
        clear hM1 hbut hvb
        gi_wp2
        have hvlt := fun g (h : v.ownBlock = some g) => (HMr.out.row.lt g h)
        have hwl : wr.heap.size ≤ w2.heap.size := (show Ext wr w2 by repeat (first | with_reducible exact Ext.refl _ | with_reducible assumption | with_reducible refine Ext.alloc ?_ _ | with_reducible refine Ext.drew ?_ | with_reducible refine Ext.drewN ?_ _ | with_reducible refine Ext.setCell ?_ (by simp <;> omega) _ | with_reducible refine Ext.trans ?_ (by assumption))).size
        have hpl : w2.heap.size + 1 < w3.heap.size := World.block_lt_of_cell? _ ⟨w2.heap.size + 1, 0, none⟩ qo_0
        have hrw : rb < wr.heap.size := World.block_lt_of_cell? _ ⟨rb, 0, none⟩ qR_0.out
        have nr : ¬ (rb = l ∨ rb = pb ∨ v.ownBlock = some rb) := by
          rintro (h | h | h)
          · omega
          · omega
          · exact hvr h
        have no : ¬ (w2.heap.size + 1 = l ∨ w2.heap.size + 1 = pb ∨ v.ownBlock = some (w2.heap.size + 1)) := by
          rintro (h | h | h)
          · omega
          · omega
          · have := (hvlt _ h).2; omega
        have nc : ¬ (cb = l ∨ cb = pb ∨ v.ownBlock = some cb) := by
          rintro (h | h | h)
          · exact hcl h
          · exact hcp h
          · have := (hvlt _ h).1; omega
        replace zr_0 := HBUT.out.frozen qr_0 zr_0 nr
        replace zr_1 := HBUT.out.frozen qr_1 zr_1 nr
        replace qr_0 := HBUT.out.cell qr_0 nr
        replace qr_1 := HBUT.out.cell qr_1 nr
        replace qo_0 := HBUT.out.cell qo_0 no
        replace qo_1 := HBUT.out.cell qo_1 no
        replace qc_0 := HBUT.out.cell qc_0 nc
        have STEP := Lib.hid (it_step64 (T := 32) hc hl hp hcb' hd h0 (by omega) hsz hrb hvr ⟨hpos, hn1.2⟩ HMIN.out (show n1 - n1 = 0 by omega) HALL.out HM1.out HVB.out qr_0 qr_1 qc_0)
        clear hvlt nr no nc qu_0 qu_1
        go_wp2
        refine ⟨?_, ?_⟩
        · exact STEP.out
        · rw [restN_eq (b := rb) qR_1.out]
          rw [restN_eq (b := W1.heap.size) (z := 0) (q := .i64) (by simp [go_sem])]
          omega
      · have hmin : min n1 (c - f1 % c) = (c - f1 % c) := by omega
        have hlt : ¬ n1 ≤ c - f1 % c → c - f1 % c < n1 := by omega
        have hgt := hlt
        have hm0 : 0 < (c - f1 % c) := by omega
        have hm1 : (c - f1 % c) ≤ n1 := by omega
        have HMIN := Lib.hid hmin
        clear hmin hlt hgt
        go_wp2_with fail
        refine (sCut64_yes _ _ _ _ hkn (by omega) (by omega)).mono ?_
        rintro e w4 ⟨rfl, hb4⟩
        have hx4 : Ext w1 w4 := by repeat (first | with_reducible exact Ext.refl _ | with_reducible assumption | with_reducible refine Ext.alloc ?_ _ | with_reducible refine Ext.drew ?_ | with_reducible refine Ext.drewN ?_ _ | with_reducible refine Ext.setCell ?_ (by simp <;> omega) _ | with_reducible refine Ext.trans ?_ (by assumption))
        replace zr_0 := hx4.frozen qr_0 zr_0
        replace qr_0 := hx4.cell qr_0
        replace zr_1 := hx4.frozen qr_1 zr_1
        replace qr_1 := hx4.cell qr_1
        replace qc_0 := hx4.cell qc_0
        clear hx4
        go_upto_region 4 with (fail)
        refine settle_wp ?_
        intro w5 hb5
        have hx5 : Ext w4 w5 := by repeat (first | with_reducible exact Ext.refl _ | with_reducible assumption | with_reducible refine Ext.alloc ?_ _ | with_reducible refine Ext.drew ?_ | with_reducible refine Ext.drewN ?_ _ | with_reducible refine Ext.setCell ?_ (by simp <;> omega) _ | with_reducible refine Ext.trans ?_ (by assumption))
        replace zr_0 := hx5.frozen qr_0 zr_0
        replace qr_0 := hx5.cell qr_0
        replace zr_1 := hx5.frozen qr_1 zr_1
        replace qr_1 := hx5.cell qr_1
        replace qc_0 := hx5.cell qc_0
        clear hx5
        have qu_0 : w5.cell? ⟨w4.heap.size, 0, none⟩ = some (.int .u64 f1) := (hb5.cells.1 _ _ (by simp <;> omega)).trans (by simp [go_sem])
        have qu_1 : w5.cell? ⟨w4.heap.size, 1, none⟩ = some (.int .i64 (c - f1 % c)) := (hb5.cells.1 _ _ (by simp <;> omega)).trans (by simp [go_sem])
        have pu := World.block_lt_of_cell? _ ⟨w4.heap.size, 0, none⟩ qu_0
        have ru := Nat.lt_succ_of_lt pu
        have qo_0 : w5.cell? ⟨w4.heap.size + 1, 0, none⟩ = some (.int .u64 (U64 (f1 + (c - f1 % c)))) := (hb5.cells.1 _ _ (by simp <;> omega)).trans (by simp [go_sem])
        have qo_1 : w5.cell? ⟨w4.heap.size + 1, 1, none⟩ = some (.int .i64 (n1 - (c - f1 % c))) := (hb5.cells.1 _ _ (by simp <;> omega)).trans (by simp [go_sem])
        have po := World.block_lt_of_cell? _ ⟨w4.heap.size + 1, 0, none⟩ qo_0
        have ro := Nat.lt_succ_of_lt po
        have hsz : rb < w5.heap.size := World.block_lt_of_cell? _ ⟨rb, 0, none⟩ qr_0
        have HM2 := Lib.hid (HMr.out.grow (show Ext wr w5 by repeat (first | with_reducible exact Ext.refl _ | with_reducible assumption | with_reducible refine Ext.alloc ?_ _ | with_reducible refine Ext.drew ?_ | with_reducible refine Ext.drewN ?_ _ | with_reducible refine Ext.setCell ?_ (by simp <;> omega) _ | with_reducible refine Ext.trans ?_ (by assumption))))
        obtain ⟨fn, tmps, assign, body, hy, hR⟩ := HY.out v k cs f1 (c - f1 % c) w5 HM2.out qc_0 hk HF1.out.1 HF1.out.2 (by omega)
        have HR := Lib.hid hR
        clear hR
        refine (wpIn_wide (n := 3)).1 ?_
        gi_wp2
        refine HR.out.mono ?_
        rintro e W1 ⟨rfl, v1, hM1, hbut, hvb⟩
        have HM1 := Lib.hid hM1
        have HBUT := Lib.hid hbut
        have HVB := Lib.hid hvb
        clear hM1 hbut hvb
        gi_wp2
        have hvlt := fun g (h : v.ownBlock = some g) => (HMr.out.row.lt g h)
        have hwl : wr.heap.size ≤ w4.heap.size := (show Ext wr w4 by repeat (first | with_reducible exact Ext.refl _ | with_reducible assumption | with_reducible refine Ext.alloc ?_ _ | with_reducible refine Ext.drew ?_ | with_reducible refine Ext.drewN ?_ _ | with_reducible refine Ext.setCell ?_ (by simp <;> omega) _ | with_reducible refine Ext.trans ?_ (by assumption))).size
        have hpl : w4.heap.size + 1 < w5.heap.size := World.block_lt_of_cell? _ ⟨w4.heap.size + 1, 0, none⟩ qo_0
        have hrw : rb < wr.heap.size := World.block_lt_of_cell? _ ⟨rb, 0, none⟩ qR_0.out
        have nr : ¬ (rb = l ∨ rb = pb ∨ v.ownBlock = some rb) := by
          rintro (h | h | h)
          · omega
          · omega
          · exact hvr h
        have no : ¬ (w4.heap.size + 1 = l ∨ w4.heap.size + 1 = pb ∨ v.ownBlock = some (w4.heap.size + 1)) := by
          rintro (h | h | h)
          · omega
          · omega
          · have := (hvlt _ h).2; omega
        have nc : ¬ (cb = l ∨ cb = pb ∨ v.ownBlock = some cb) := by
          rintro (h | h | h)
          · exact hcl h
          · exact hcp h
          · have := (hvlt _ h).1; omega
        replace zr_0 := HBUT.out.frozen qr_0 zr_0 nr
        replace zr_1 := HBUT.out.frozen qr_1 zr_1 nr
        replace qr_0 := HBUT.out.cell qr_0 nr
        replace qr_1 := HBUT.out.cell qr_1 nr
        replace qo_0 := HBUT.out.cell qo_0 no
        replace qo_1 := HBUT.out.cell qo_1 no
        replace qc_0 := HBUT.out.cell qc_0 nc
        have STEP := Lib.hid (it_step64 (T := 32) hc hl hp hcb' hd h0 (by omega) hsz hrb hvr ⟨hpos, hn1.2⟩ HMIN.out (show n1 - (c - f1 % c) = (n1 - (c - f1 % c)) by omega) HALL.out HM1.out HVB.out qr_0 qr_1 qc_0)
        clear hvlt nr no nc qu_0 qu_1
        go_wp2
        refine ⟨?_, ?_⟩
        · exact STEP.out
        · rw [restN_eq (b := rb) qR_1.out]
          rw [restN_eq (b := W1.heap.size) (z := (n1 - (c - f1 % c))) (q := .i64) (by simp [go_sem])]
          omega
    · have d1 : decide (0 < n1) = false := by simpa using hpos
      obtain rfl : n1 = 0 := by omega
      rw [pcs_zero c (f1 % c) 0 (by omega)] at hall
      have HMr := Lib.hid hM
      have HALL := Lib.hid hall
      clear hM hall
      go_wp2
      go_end0
      refine ⟨⟨_, rfl⟩, v, k, ?_⟩
      have h := HALL.out
      simp [flat] at h
      rw [show flat (pcs c (f % c) n) = cs by rw [h]; rfl]
      exact HMr.out
end Go.Proofs.Ytclhbdedibcgjaa

/- The document's Clock. -/
import Derived.Test.YtoaifbengichbaaOr13
namespace Go.Proofs.Ytoaifbengichbaa
open Go.RowKit
set_option linter.unusedVariables false
set_option linter.unusedSimpArgs false
set_option maxHeartbeats 4000000
attribute [local go_sem] later_cell later_frozen later_const
/-- how many of thread u's first m accesses i knows -/
def kcv (n : Nat) (ls : List Acc) (i m u : Nat) : Int := min ((cl n ls i).getD u 0) (cnt ls u m)
theorem kcv_step (n : Nat) (ls : List Acc) (i m u : Nat) : kcv n ls i (m + 1) u = kcv n ls i m u + (if (A ls m).t = u ∧ kn n ls i m = true then 1 else 0) := by
  unfold kcv
  rw [show cnt ls u (m + 1) = cnt ls u m + (if (A ls m).t = u then 1 else 0) from rfl]
  by_cases ht : (A ls m).t = u
  · have hk : kn n ls i m = true ↔ ((cnt ls u m : Nat) : Int) + 1 ≤ (cl n ls i).getD u 0 := by
      unfold kn
      rw [decide_eq_true_eq, cnt_self, ht, show ((u : Nat) : Int).toNat = u by omega]
      omega
    rw [if_pos ht]
    by_cases hc : ((cnt ls u m : Nat) : Int) + 1 ≤ (cl n ls i).getD u 0
    · rw [if_pos ⟨ht, hk.2 hc⟩]; omega
    · rw [if_neg (fun h => hc (hk.1 h.2))]; omega
  · rw [if_neg ht, if_neg (fun h => ht h.1)]
    simp
theorem kcv_le (n : Nat) (ls : List Acc) (i m u : Nat) : kcv n ls i m u ≤ m := by
  have := cnt_le ls u m
  unfold kcv
  omega
theorem kcv_end {n : Nat} {ls : List Acc} (R : RL n ls) {i u : Nat} (hi : i < ls.length) (hu : u < n) : kcv n ls i (i + 1) u = (cl n ls i).getD u 0 := by
  have := (cl_ok R i hi).rng u hu
  unfold kcv
  omega
theorem kcv_low {n : Nat} {ls : List Acc} (R : RL n ls) {i u m : Nat} (hi : i < ls.length) (hu : u < n) : 0 ≤ kcv n ls i m u := by
  have := (cl_ok R i hi).rng u hu
  unfold kcv
  omega
def kvx (n : Nat) (ls : List Acc) (i m u : Nat) : Value := .int .i64 (kcv n ls i m u)
theorem kvx_yes {n : Nat} {ls : List Acc} {i k tn : Nat} {w : World} {r : Nat} (h : VA n w r (kvx n ls i k)) (ht : (A ls k).t = tn) (htn : tn < n) (hk : kn n ls i k = true) {z : Int} (hz : z = kcv n ls i k tn + 1) :
    VA n (w.setCell ⟨r, tn, none⟩ (.int .i64 z)) r (kvx n ls i (k + 1)) := by
  refine (va_set h _ htn).congr fun u hu => ?_
  unfold kvx
  rw [kcv_step]
  by_cases e : u = tn
  · subst e
    rw [if_pos rfl, if_pos ⟨ht, hk⟩, hz]
  · rw [if_neg e, if_neg (fun h => e (by have := h.1; omega))]
    simp
theorem kvx_no {n : Nat} {ls : List Acc} {i k : Nat} {w : World} {r : Nat} (h : VA n w r (kvx n ls i k)) (hk : kn n ls i k = false) : VA n w r (kvx n ls i (k + 1)) := by
  refine h.congr fun u hu => ?_
  unfold kvx
  rw [kcv_step, if_neg (fun h => by rw [hk] at h; cases h.2)]
  simp
theorem va_ints {n : Nat} {w : World} {r : Nat} {xs : List Int} (h : VA n w r (fun u => .int .i64 (xs.getD u 0))) (hl : xs.length = n) : IntsV w (.slice (some ⟨r, 0, none⟩) n n) xs :=
  .inr ⟨r, 0, n, by rw [hl], fun j hj => by rw [Nat.zero_add]; exact h.c j (by omega)⟩
def RCDoes (w : World) (n : Nat) (ls : List Acc) (i : Nat) (e : Ending) (w' : World) : Prop := ∃ v, e = .returned v ∧ IntsV w' v (cl n ls i) ∧ Ext w w'
set_option maxRecDepth 100000 in
theorem rClock (n : Nat) (v tv : Value) (ls : List Acc) (i : Nat) (w : World) (hA : AccV w v ls) (hT : TbV w tv n ls) (R : RL n ls) (hi : i < ls.length) : Calls Try.prog 22 #[v, tv, .int .i64 n, .int .i64 i] w (RCDoes w n ls i) := by
  obtain ⟨b, off, cap, rfl, hcs⟩ := hA.all (by omega)
  obtain ⟨ta, tcap, rfl, htb⟩ := hT
  obtain ⟨g, f, rfl, hrow⟩ := htb (by omega)
  have hL := R.l
  have n1 := R.n1
  have n2 := R.n2
  have HC := Lib.hid hcs
  have HROW := Lib.hid hrow
  have HR := Lib.hid R
  have hG : ∀ (W : World) (r : Nat), VA n W r (kvx n ls i (i + 1)) → Ext w W → RCDoes w n ls i (.returned (.slice (some ⟨r, 0, none⟩) n n)) W := fun W r hV hX => by
    refine ⟨_, rfl, va_ints (hV.congr fun u hu => ?_) (cl_ok R i hi).len, hX⟩
    unfold kvx
    rw [kcv_end R hi hu]
  have HG := Lib.hid hG
  generalize RCDoes w n ls i = G at *
  have hmk := fun W => run_make_row' (P := Try.prog) 27 3 (.int .i64 0) 8 Try.underlying27 info_int rfl .i64 .i64 n (by omega) (by omega) W
  have V1 := va_new (n := n) w 3 (madeCells #[.int .i64 0] n) (fun _ => .int .i64 0) (made_vl _ rfl n)
  have HV1 : Hid (VA n (w.alloc (.cells (madeCells #[.int .i64 0] n) 3)) w.heap.size (kvx n ls i 0)) := Lib.hid (V1.congr fun u hu => by
    have := (cl_ok R i hi).rng u hu
    have e : kcv n ls i 0 u = 0 := by
      unfold kcv
      rw [show cnt ls u 0 = 0 from rfl]
      omega
    unfold kvx
    rw [e])
  have HX1 := Lib.hid ((Ext.refl w).alloc (.cells (madeCells #[.int .i64 0] n) 3))
  obtain ⟨r, hr⟩ : ∃ r, r = w.heap.size := ⟨_, rfl⟩
  have hrr : w.heap.size ≤ r := Nat.le_of_eq hr.symm
  rw [← hr] at HV1
  clear hG hcs hrow V1 R hA htb
  go_enter Try.func22, Try.ntmps22
  go_wp2
  clear hmk
  rw [← hr]
  clear hr
  generalize w.alloc (.cells (madeCells #[.int .i64 0] n) 3) = w2 at *
  go_loopw [10] (fun x wr => ∃ k : Nat, k ≤ i + 1 ∧ x = .int .i64 k ∧ VA n wr r (kvx n ls i k) ∧ Ext w wr) (fun x _ => i + 1 - (intOf x).toNat)
  case atStart => exact ⟨0, Nat.zero_le _, rfl, HV1.out, HX1.out⟩
  case round =>
    obtain ⟨k, hk, rfl, hV, hx⟩ := hrel
    by_cases hlt : k < i + 1
    case neg =>
      obtain rfl : k = i + 1 := by omega
      have hle : ¬ (((i + 1 : Nat) : Int) ≤ (i : Int)) := by omega
      have d1 : decide (((i + 1 : Nat) : Int) ≤ (i : Int)) = false := decide_eq_false (by omega)
      have hle2 : ¬ ((i : Int) + 1 ≤ (i : Int)) := by omega
      have HF := Lib.hid (HG.out _ _ hV hx)
      clear hV hx
      go_wp2
      first
        | exact HF.out
        | (go_ret; exact HF.out)
        | (go_ret2; exact HF.out)
    have hkl : k < ls.length := by omega
    have hkI : (k : Int) ≤ (i : Int) := by omega
    have hkN : k ≤ i := by omega
    have hkL : (k : Int) < (ls.length : Int) := by omega
    have hiL : (i : Int) < (ls.length : Int) := by omega
    obtain ⟨c0, _⟩ := HC.out _ hx k hkl
    obtain ⟨q1, q2⟩ := HROW.out _ hx i hi
    have q3 := q2 k hkl
    obtain ⟨t0, t1⟩ := HR.out.t hkl
    obtain ⟨tn, htn⟩ : ∃ tn : Nat, (A ls k).t = tn := ⟨(A ls k).t.toNat, by omega⟩
    have htnn : tn < n := by omega
    have htnI : (tn : Int) < (n : Int) := by omega
    have qc := hV.c tn htnn
    have zc := hV.z tn htnn
    unfold kvx at qc
    have b1 := kcv_le n ls i k tn
    have b2 := kcv_low HR.out (m := k) hi htnn
    have HV := Lib.hid hV
    have HX := Lib.hid hx
    have HY := Lib.hid (fun hkn => kvx_yes (z := kcv n ls i k tn + 1) hV htn htnn hkn rfl)
    have HN := Lib.hid (fun hkn => kvx_no (i := i) hV hkn)
    rw [htn] at c0
    have HXS := Lib.hid (hx.setCell (p := ⟨r, tn, none⟩) hrr (.int .i64 (kcv n ls i k tn + 1)))
    generalize kcv n ls i k tn = z at *
    clear q2 hV hx htn t0 t1
    by_cases hki : k = i
    · subst hki
      have HVF := Lib.hid (HY.out (kn_own HR.out hi (Nat.le_refl _) rfl))
      clear HY HN q1 q3
      go_wp2
      exact ⟨⟨k + 1, by omega, by go_num, HVF.out, HXS.out⟩, by simp [intOf] <;> omega⟩
    have hki' : ¬ (k : Int) = (i : Int) := fun e => hki (by omega)
    have e1 : ((k : Int) == (i : Int)) = false := by simpa using hki'
    have e2 : (k == i) = false := by simpa using hki
    rw [show knT n ls i k = kn n ls i k by unfold knT; rw [show decide (k < i) = true from decide_eq_true (by omega), Bool.true_and]] at q3
    cases hkn : kn n ls i k
    · rw [hkn] at q3
      have HVF := Lib.hid (HN.out hkn)
      clear HY HN hkn
      go_wp2
      exact ⟨⟨k + 1, by omega, by go_num, HVF.out, HX.out⟩, by simp [intOf]; omega⟩
    · rw [hkn] at q3
      have HVF := Lib.hid (HY.out hkn)
      clear HY HN hkn
      go_wp2
      exact ⟨⟨k + 1, by omega, by go_num, HVF.out, HXS.out⟩, by simp [intOf]; omega⟩
end Go.Proofs.Ytoaifbengichbaa

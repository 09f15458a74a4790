import Derived.Test.YtkmfamidahlgiaaGreatDoorWide
import Derived.Test.YtkmfamidahlgiaaGreatDoorMem
import Derived.Lib.Hide
import Derived.Test.YtkmfamidahlgiaaGreatDoorKE
import Derived.Test.YtkmfamidahlgiaaGreatDoorKG
import Derived.Test.YtkmfamidahlgiaaGreatDoorRef01
import Derived.RegionTactic
import Derived.Test.YtkmfamidahlgiaaGreatDoorCf3
/- wide.Least: the one behind which there is none. -/
namespace Go.Proofs.YtkmfamidahlgiaaGreatDoor
open Go.RowKit
set_option linter.unusedVariables false
set_option maxHeartbeats 400000
def least32 (f : Int) (xs : List Int) : Int := xs.foldl (fun m x => if D32 (x - m) < 0 then x else m) f
def least64 (f : Int) (xs : List Int) : Int := xs.foldl (fun m x => if D64 (x - m) < 0 then x else m) f
theorem least32_snoc (f : Int) (xs : List Int) (k : Nat) (h : k < xs.length) : least32 f (xs.take (k + 1)) = if D32 (xs.getD k 0 - least32 f (xs.take k)) < 0 then xs.getD k 0 else least32 f (xs.take k) := by
  unfold least32
  rw [List.take_succ_eq_append_getElem h, List.foldl_append]
  simp [h]
theorem least64_snoc (f : Int) (xs : List Int) (k : Nat) (h : k < xs.length) : least64 f (xs.take (k + 1)) = if D64 (xs.getD k 0 - least64 f (xs.take k)) < 0 then xs.getD k 0 else least64 f (xs.take k) := by
  unfold least64
  rw [List.take_succ_eq_append_getElem h, List.foldl_append]
  simp [h]
theorem leastU32 (f : Int) (v : Value) (xs : List Int) (w : World) (h : IntsAt .u32 w v xs) (hl : xs.length ≤ 1000000) :
    Calls Tryz.prog 74 #[.int .u32 f, v] w fun e w' => e = .returned (.int .u32 (least32 f xs)) ∧ w = w' := by
  rcases h with ⟨rfl, rfl⟩ | ⟨b, off, cap, rfl, hc⟩
  · go_enter Tryz.func74, Tryz.ntmps74
    go_wp2
    refine wp_loop_rounds 1 ?_
    rw [rounds_succ]
    go_wp2
    go_ret
    exact ⟨rfl, rfl⟩
  · have HC := Lib.hid hc
    clear hc
    obtain ⟨n, hn⟩ : ∃ n, n = xs.length := ⟨_, rfl⟩
    rw [← hn]
    have HN := Lib.hid hn
    have hl2 : n ≤ 1000000 := by omega
    clear hn hl
    go_enter Tryz.func74, Tryz.ntmps74
    go_wp2
    go_loop [5, 11] (fun m i => ∃ k : Nat, k ≤ n ∧ i = .int .i64 k ∧ m = .int .u32 (least32 f (xs.take k))) (fun _ i => n - (intOf i).toNat)
    case atStart => exact ⟨0, Nat.zero_le _, rfl, rfl⟩
    case round =>
      obtain ⟨k, hk, rfl, rfl⟩ := hrel
      by_cases hlt : k < n
      · have hx : k < xs.length := by have := HN.out; omega
        have hcell := HC.out k hx
        have HS := Lib.hid (least32_snoc f xs k hx)
        clear hx
        have hkn : (k : Int) < (n : Int) := by omega
        generalize xs.getD k 0 = x at *
        generalize least32 f (xs.take k) = m at *
        go_wp2_with fail
        refine (lessU32 _ _ _).mono ?_
        rintro e w' ⟨rfl, rfl⟩
        by_cases hd : D32 (x - m) < 0
        · have d1 : decide (D32 (x - m) < 0) = true := by simpa using hd
          go_wp2
          exact ⟨⟨k + 1, by omega, by go_num, by rw [HS.out, if_pos hd]⟩, by simp [intOf]; omega⟩
        · have d1 : decide (D32 (x - m) < 0) = false := by simpa using hd
          go_wp2
          exact ⟨⟨k + 1, by omega, by go_num, by rw [HS.out, if_neg (by omega)]⟩, by simp [intOf]; omega⟩
      · have e : xs.take k = xs := List.take_of_length_le (by have := HN.out; omega)
        have HE := Lib.hid e
        clear e
        go_wp2
        go_ret
        exact ⟨ret_int (by rw [HE.out]), rfl⟩
theorem leastU64 (f : Int) (v : Value) (xs : List Int) (w : World) (h : IntsAt .u64 w v xs) (hl : xs.length ≤ 1000000) :
    Calls Tryz.prog 118 #[.int .u64 f, v] w fun e w' => e = .returned (.int .u64 (least64 f xs)) ∧ w = w' := by
  rcases h with ⟨rfl, rfl⟩ | ⟨b, off, cap, rfl, hc⟩
  · go_enter Tryz.func118, Tryz.ntmps118
    go_wp2
    refine wp_loop_rounds 1 ?_
    rw [rounds_succ]
    go_wp2
    go_ret
    exact ⟨rfl, rfl⟩
  · have HC := Lib.hid hc
    clear hc
    obtain ⟨n, hn⟩ : ∃ n, n = xs.length := ⟨_, rfl⟩
    rw [← hn]
    have HN := Lib.hid hn
    have hl2 : n ≤ 1000000 := by omega
    clear hn hl
    go_enter Tryz.func118, Tryz.ntmps118
    go_wp2
    go_loop [5, 11] (fun m i => ∃ k : Nat, k ≤ n ∧ i = .int .i64 k ∧ m = .int .u64 (least64 f (xs.take k))) (fun _ i => n - (intOf i).toNat)
    case atStart => exact ⟨0, Nat.zero_le _, rfl, rfl⟩
    case round =>
      obtain ⟨k, hk, rfl, rfl⟩ := hrel
      by_cases hlt : k < n
      · have hx : k < xs.length := by have := HN.out; omega
        have hcell := HC.out k hx
        have HS := Lib.hid (least64_snoc f xs k hx)
        clear hx
        have hkn : (k : Int) < (n : Int) := by omega
        generalize xs.getD k 0 = x at *
        generalize least64 f (xs.take k) = m at *
        go_wp2_with fail
        refine (lessU64 _ _ _).mono ?_
        rintro e w' ⟨rfl, rfl⟩
        by_cases hd : D64 (x - m) < 0
        · have d1 : decide (D64 (x - m) < 0) = true := by simpa using hd
          go_wp2
          exact ⟨⟨k + 1, by omega, by go_num, by rw [HS.out, if_pos hd]⟩, by simp [intOf]; omega⟩
        · have d1 : decide (D64 (x - m) < 0) = false := by simpa using hd
          go_wp2
          exact ⟨⟨k + 1, by omega, by go_num, by rw [HS.out, if_neg (by omega)]⟩, by simp [intOf]; omega⟩
      · have e : xs.take k = xs := List.take_of_length_le (by have := HN.out; omega)
        have HE := Lib.hid e
        clear e
        go_wp2
        go_ret
        exact ⟨ret_int (by rw [HE.out]), rfl⟩
end Go.Proofs.YtkmfamidahlgiaaGreatDoor
/- A step of a scan, and of the document's, told by the same letters. -/
namespace Go.Proofs.YtkmfamidahlgiaaGreatDoor
open Go.RowKit
set_option linter.unusedVariables false
set_option linter.unusedSimpArgs false
set_option maxHeartbeats 4000000
/-- the first cells are gates -/
theorem BK.gate {y : LY} {ups : List (List Int)} (K : BK y ups) (c : Nat) (h : c < y.n) : kd y c = 1 ∧ c < y.m := by
  have hm := K.m
  have hk := K.num
  have h2 := hk.c2
  have hb : (y.n : Int) ≤ nCe y.V y.n y.C := by
    unfold nCe nSl
    split
    · omega
    · split <;> omega
  refine ⟨?_, by omega⟩
  rw [K.kd_at]
  have : useN y.V y.n y.C c = (1, (c : Int)) := by
    unfold useN useL
    rw [if_neg (by omega), if_pos (by omega)]
  rw [this]; rfl
/-- cells that are gates, as many as n of them -/
structure Gts (n : Nat) (xs : List Int) : Prop where
  at_ : ∀ i, i < xs.length → ∃ c : Nat, xs.getD i 0 = c ∧ c < n
  len : xs.length ≤ 1000
/-- a step of a scan -/
def ScRel (D : Int → Int) (f : Nat → Int) (xs : List Int) (th I M : Int) (log : List Acc) (d : Bool) (I' M' : Int) (log' : List Acc) : Prop :=
  (xs.length = 0 ∧ I = 0 ∧ d = true ∧ I' = 0 ∧ M' = M ∧ log' = log) ∨
  (∃ i c : Nat, I = i ∧ i < xs.length ∧ xs.getD i 0 = c ∧ d = decide (i + 1 = xs.length) ∧ I' = (if i + 1 = xs.length then 0 else (i : Int) + 1) ∧ M' = (if i = 0 ∨ D (f c - M) < 0 then f c else M) ∧ log' = log ++ [⟨th, 1, c, f c, f c⟩])
def tOut (x : Fm) (I' M' : Int) : Value := (.agg #[.int .i64 0, .int .i64 (x.N), .int .i64 0, .int .i64 (x.Pc), .int .i64 (I'), .int .i64 0, .int .u64 (x.Fr), .int .u64 (M'), .int .u64 (x.Vl), .int .u64 0, .slice none 0 0])
/-- where a scan may stand -/
def ScAt (xs : List Int) (I : Int) : Prop := (xs.length = 0 ∧ I = 0) ∨ ∃ i : Nat, I = i ∧ i < xs.length
theorem ScAt.zero (xs : List Int) : ScAt xs 0 := by
  by_cases h : xs.length = 0
  · exact .inl ⟨h, rfl⟩
  · exact .inr ⟨0, rfl, by omega⟩
theorem ScRel.at_ {D : Int → Int} {f : Nat → Int} {xs : List Int} {th I M : Int} {log : List Acc} {d : Bool} {I' M' : Int} {log' : List Acc} (h : ScRel D f xs th I M log d I' M' log') : ScAt xs I' := by
  rcases h with ⟨h1, _, _, h2, _, _⟩ | ⟨i, c, h1, h2, _, _, h3, _, _⟩
  · exact .inl ⟨h1, h2⟩
  · rw [h3]
    split
    · exact .zero xs
    · exact .inr ⟨i + 1, by omega, by omega⟩
theorem ScRel.len {D : Int → Int} {f : Nat → Int} {xs : List Int} {th I M : Int} {log : List Acc} {d : Bool} {I' M' : Int} {log' : List Acc} (h : ScRel D f xs th I M log d I' M' log') : log'.length ≤ log.length + 1 := by
  rcases h with ⟨_, _, _, _, _, e⟩ | ⟨_, _, _, _, _, _, _, _, e⟩ <;> rw [e] <;> simp
theorem ScRel.rng {D : Int → Int} {f : Nat → Int} {xs : List Int} {th I M : Int} {log : List Acc} {d : Bool} {I' M' : Int} {log' : List Acc} (h : ScRel D f xs th I M log d I' M' log') {N : Int} (hf : ∀ c, 0 ≤ f c ∧ f c < N) (hM : 0 ≤ M ∧ M < N) : 0 ≤ M' ∧ M' < N := by
  rcases h with ⟨_, _, _, _, e, _⟩ | ⟨_, c, _, _, _, _, _, e, _⟩
  · rw [e]; exact hM
  · rw [e]
    split
    · exact hf c
    · exact hM
theorem ScRel.I0 {D : Int → Int} {f : Nat → Int} {xs : List Int} {th I M : Int} {log : List Acc} {d : Bool} {I' M' : Int} {log' : List Acc} (h : ScRel D f xs th I M log d I' M' log') (hx : xs.length ≤ 1000) : 0 ≤ I' ∧ I' ≤ 1000 := by
  rcases h.at_ with ⟨_, e⟩ | ⟨i, e, h2⟩ <;> omega
/-- cells of the width -/
def Rgs32 (f : Nat → Int) : Prop := ∀ c : Nat, 0 ≤ f c ∧ f c < 4294967296
theorem in_rgs32 {x : Int} (h : 0 ≤ x ∧ x < 4294967296) : (((x) % 4294967296)) = x := by
  first
    | (unfold U64; omega)
    | omega
theorem Rgs32.upd {f : Nat → Int} (h : Rgs32 f) (c : Nat) (z : Int) (hz : 0 ≤ z ∧ z < 4294967296) : Rgs32 (Go.Proofs.YtkmfamidahlgiaaGreatDoor.upd f c z) := fun i => by
  unfold Go.Proofs.YtkmfamidahlgiaaGreatDoor.upd
  split
  · exact hz
  · exact h i
theorem rgs_first32 {y : LY} {ups : List (List Int)} (K : BK y ups) (hW : y.W = 32) (h0 : 0 ≤ y.S) (h1 : y.S < 18446744073709551616) : Rgs32 (fsC y.V y.W y.C y.S y.n) := fun i => by
  have hc := K.ok.rc
  unfold fsC
  rw [hW]
  first
    | exact fst_rng32 hc _ _
    | exact fst_rng (.inr rfl) hc h0 h1 _ _
theorem plusW_rg32 (x n : Int) : 0 ≤ plusW 32 x n ∧ plusW 32 x n < 4294967296 := by
  unfold plusW
  first
    | (rw [if_pos rfl]; omega)
    | (rw [if_neg (by decide)]; exact U64_range _)
/-- the least as the document looks for it is the program's -/
theorem least_eq32 (g : Nat → Int) : ∀ k, leastP D32 g (k + 1) = least32 (g 0) ((List.range k).map (fun i => g (i + 1)))
  | 0 => by rw [leastP_0]; rfl
  | k + 1 => by
    have ih := least_eq32 g k
    rw [List.range_succ, List.map_append]
    unfold least32 at ih ⊢
    rw [List.foldl_append, ← ih]
    show (if k + 1 = 0 ∨ D32 (g (k + 1) - leastP D32 g (k + 1)) < 0 then g (k + 1) else leastP D32 g (k + 1)) = _
    simp
/-- the program's step of a scan -/
theorem pScan32 {w0 w : World} {b g : Nat} {y : LY} {f f' : Nat → Int} {lv : Value} {log log' : List Acc} {b' : Nat} {r : RY} {lv' : Value} {ups : List (List Int)} {fb n t : Nat} {F : Nat → Fm} {v : Value} {xs : List Int} (K : BK y ups) (h : Duo 121 w0 w b g y f lv log b' r f' lv' log' ups) (hF : Sd b g lv b' r lv' w0 w fb n (fmV32 F)) (ht : t * 11 + 11 ≤ n) (E : Parts w) (hv : IntsV w v xs) (hx : Gts y.n xs) (hI : ScAt xs (F t).I) (hf : Rgs32 f) (hl : log.length ≤ 1000) (th : Int) :
    Calls Tryz.prog 26 #[.pointer (some ⟨b, 0, none⟩), .int .i64 th, v, .pointer (some ⟨fb, t * 11, none⟩)] w fun e w' => ∃ d I' M' log2, ScRel D32 f xs th (F t).I (F t).Mn log d I' M' log2 ∧ e = .returned (.bool d) ∧ ∃ lv2, Duo 121 w0 w' b g y f lv2 log2 b' r f' lv' log' ups ∧ Sd b g lv2 b' r lv' w0 w' fb n (fmV32 (updF F t { F t with I := I', Mn := M' })) ∧ But (fun k => Own b g lv k ∨ k = fb) w w' ∧ (lv2.ownBlock = lv.ownBlock ∨ ∃ j, lv2.ownBlock = some j ∧ w.heap.size ≤ j) := by
  have FR := hF.fr32 ht
  rcases hI with ⟨h0, hI0⟩ | ⟨i, hI0, hi⟩
  · obtain ⟨a, c, e, -⟩ := hv.form
    rw [h0] at e
    subst e
    refine (scan32_zero b fb (t * 11) th _ a c w FR.c4 FR.z4 (by omega)).mono ?_
    rintro e w' ⟨rfl, rfl⟩
    have hN := but_setCell w ⟨fb, t * 11 + 4, none⟩ (.int .i64 0)
    refine ⟨true, 0, (F t).Mn, log, .inl ⟨h0, hI0, rfl, rfl, rfl, rfl⟩, rfl, lv, h.off hF hN, ?_, hN.mono fun _ _ h => .inr h, .inl rfl⟩
    refine (hF.set (i := t * 11 + 4) (by omega) (.int .i64 0)).congr fun j hj => ?_
    have hu : updF F t { F t with I := 0, Mn := (F t).Mn } = F := by
      funext q
      unfold updF
      by_cases e : q = t
      · subst e
        rw [if_pos rfl]
        cases hq : F q with
        | mk a1 a2 a3 a4 a5 a6 =>
          have : a3 = 0 := by have := hI0; rw [hq] at this; exact this
          subst this
          rfl
      · rw [if_neg e]
    rw [hu]
    by_cases e : j = t * 11 + 4
    · subst e
      rw [if_pos rfl, fmV32_at F t 4 (by decide)]
      show Value.int .i64 0 = Value.int .i64 (F t).I
      rw [hI0]
    · rw [if_neg e]
  · obtain ⟨c, hc, hcn⟩ := hx.at_ i hi
    obtain ⟨hk, hm⟩ := K.gate c hcn
    rw [hI0] at FR
    have hfc := hf c
    refine (scan32_step b g fb (t * 11) y f lv log th v xs i c (F t).Mn w h.T.B K.yok E hF.aside FR hv hi hc hk hfc.1 (by have := hfc.2; omega) hl hx.len).mono ?_
    rintro e w' ⟨rfl, lv2, B2, F2, K2, N2, A2⟩
    rw [in_rgs32 hfc] at F2
    have e1 : decide ((i : Int) + 1 = (xs.length : Int)) = decide (i + 1 = xs.length) := by
      by_cases e : i + 1 = xs.length
      · rw [decide_eq_true e, decide_eq_true (by omega)]
      · rw [decide_eq_false e, decide_eq_false (by omega)]
    have e2 : (if (i : Int) + 1 = (xs.length : Int) then (0 : Int) else (i : Int) + 1) = (if i + 1 = xs.length then 0 else (i : Int) + 1) := by
      by_cases e : i + 1 = xs.length
      · rw [if_pos e, if_pos (by omega)]
      · rw [if_neg e, if_neg (by omega)]
    have e3 : nextM32 i (F t).Mn (f c) = (if i = 0 ∨ D32 (f c - (F t).Mn) < 0 then f c else (F t).Mn) := by
      unfold nextM32
      by_cases e : i = 0 ∨ D32 (f c - (F t).Mn) < 0
      · rw [if_pos e, if_pos (e.imp (fun e => by omega) id)]
      · rw [if_neg e, if_neg (fun e' => e (e'.imp (fun e => by omega) id))]
    rw [e2, e3] at F2
    rw [e1]
    refine ⟨_, _, _, _, .inr ⟨i, c, hI0, hi, hc, rfl, rfl, rfl, rfl⟩, rfl, lv2, h.stepK32 hF B2 N2 A2, ⟨va_scan32 hF.a ht F2 K2, F2.od, hF.x.stepB N2.size A2⟩, N2, A2⟩
/-- the document's, told the same -/
theorem dScan32 {w0 w : World} {b g : Nat} {y : LY} {f f1 : Nat → Int} {lv : Value} {log log1 : List Acc} {b' : Nat} {r : RY} {lv' : Value} {ups : List (List Int)} {v : Value} {xs : List Int} (K : BK y ups) (R : Rel y r 32) (h : Duo 121 w0 w b g y f1 lv log1 b' r f lv' log ups) (hv : IntsV w v xs) (hx : Gts y.n xs) (hf : Rgs32 f) (hl : log.length ≤ 1000) (th : Int) (x : Fm) (hM : 0 ≤ x.Mn) {d : Bool} {I' M' : Int} {log2 : List Acc} (hE : ScRel D32 f xs th x.I x.Mn log d I' M' log2) :
    Calls Tryz.prog 59 #[.pointer (some ⟨b', 0, none⟩), .int .i64 th, v, (.agg #[.int .i64 0, .int .i64 (x.N), .int .i64 0, .int .i64 (x.Pc), .int .i64 (x.I), .int .i64 0, .int .u64 (x.Fr), .int .u64 (x.Mn), .int .u64 (x.Vl), .int .u64 0, .slice none 0 0])] w fun e w' => e = .returned (.tuple #[(.agg #[.int .i64 0, .int .i64 (x.N), .int .i64 0, .int .i64 (x.Pc), .int .i64 (I'), .int .i64 0, .int .u64 (x.Fr), .int .u64 (M'), .int .u64 (x.Vl), .int .u64 0, .slice none 0 0]), .bool d]) ∧ ∃ lv2, Duo 121 w0 w' b g y f1 lv log1 b' r f lv2 log2 ups ∧ But (Own b' r.gh lv') w w' ∧ (lv2.ownBlock = lv'.ownBlock ∨ ∃ j, lv2.ownBlock = some j ∧ w.heap.size ≤ j) := by
  rcases hE with ⟨h0, hI0, rfl, rfl, rfl, rfl⟩ | ⟨i, c, hI0, hi, hc, rfl, rfl, rfl, rfl⟩
  · refine (rScan_none b' r f lv' log2 th v xs x.N x.Pc x.I x.Fr x.Mn x.Vl w h.T.R hv h0 hI0).mono ?_
    rintro e w' ⟨rfl, hX⟩
    exact ⟨rfl, lv', h.ext hX, hX.but _, .inl rfl⟩
  · obtain ⟨c', hc', hcn⟩ := hx.at_ i hi
    have ecc : c' = c := by omega
    subst ecc
    obtain ⟨hk, hm⟩ := K.gate c' hcn
    have hk' : isK r (c' : Int) 1 = true := by rw [isK_kd R (by decide), hk]; rfl
    have hm' : c' < r.m := by rw [R.m]; exact hm
    have f0 := (hf c').1
    have hW : r.W = 32 := R.w
    have fin : ∀ d2 I2 M2, d2 = decide (i + 1 = xs.length) → I2 = (if i + 1 = xs.length then 0 else (i : Int) + 1) → M2 = (if i = 0 ∨ D32 (f c' - x.Mn) < 0 then f c' else x.Mn) → ∀ e w', RScanDoes b' r lv' f (log ++ [⟨th, 1, c', f c', f c'⟩]) d2 x.N x.Pc I2 x.Fr M2 x.Vl w e w' → e = .returned (.tuple #[tOut x (if i + 1 = xs.length then 0 else (i : Int) + 1) (if i = 0 ∨ D32 (f c' - x.Mn) < 0 then f c' else x.Mn), .bool (decide (i + 1 = xs.length))]) ∧ ∃ lv2, Duo 121 w0 w' b g y f1 lv log1 b' r f lv2 (log ++ [⟨th, 1, c', f c', f c'⟩]) ups ∧ But (Own b' r.gh lv') w w' ∧ (lv2.ownBlock = lv'.ownBlock ∨ ∃ j, lv2.ownBlock = some j ∧ w.heap.size ≤ j) := by
      rintro d2 I2 M2 rfl rfl rfl e w' ⟨he, lv2, R2, N2, A2⟩
      exact ⟨he, lv2, h.stepR R2 N2 A2, N2, A2⟩
    have hn := hx.len
    rw [hI0]
    by_cases hi0 : i = 0
    · by_cases h2 : i + 1 = xs.length
      · refine (rScan32_ze b' r f lv' log th v xs i c' x.N x.Pc x.Fr x.Mn x.Vl w h.T.R hW hv hi hc hk' hm' hl hn f0 hM hi0 h2).mono (fin _ _ _ (by simp [h2]) (by simp [h2]) (by simp [hi0]))
      · refine (rScan32_zc b' r f lv' log th v xs i c' x.N x.Pc x.Fr x.Mn x.Vl w h.T.R hW hv hi hc hk' hm' hl hn f0 hM hi0 (by omega)).mono (fin _ _ _ (by simp [h2]) (by simp [h2]) (by simp [hi0]))
    · by_cases h1 : D32 (f c' - x.Mn) < 0
      · by_cases h2 : i + 1 = xs.length
        · refine (rScan32_le b' r f lv' log th v xs i c' x.N x.Pc x.Fr x.Mn x.Vl w h.T.R hW hv hi hc hk' hm' hl hn f0 hM hi0 h1 h2).mono (fin _ _ _ (by simp [h2]) (by simp [h2]) (by simp [h1]))
        · refine (rScan32_lc b' r f lv' log th v xs i c' x.N x.Pc x.Fr x.Mn x.Vl w h.T.R hW hv hi hc hk' hm' hl hn f0 hM hi0 h1 (by omega)).mono (fin _ _ _ (by simp [h2]) (by simp [h2]) (by simp [h1]))
      · by_cases h2 : i + 1 = xs.length
        · refine (rScan32_ge b' r f lv' log th v xs i c' x.N x.Pc x.Fr x.Mn x.Vl w h.T.R hW hv hi hc hk' hm' hl hn f0 hM hi0 h1 h2).mono (fin _ _ _ (by simp [h2]) (by simp [h2]) (by simp [h1, hi0]))
        · refine (rScan32_gc b' r f lv' log th v xs i c' x.N x.Pc x.Fr x.Mn x.Vl w h.T.R hW hv hi hc hk' hm' hl hn f0 hM hi0 h1 (by omega)).mono (fin _ _ _ (by simp [h2]) (by simp [h2]) (by simp [h1, hi0]))
/-- cells of the width -/
def Rgs64 (f : Nat → Int) : Prop := ∀ c : Nat, 0 ≤ f c ∧ f c < 18446744073709551616
theorem in_rgs64 {x : Int} (h : 0 ≤ x ∧ x < 18446744073709551616) : ((U64 (x))) = x := by
  first
    | (unfold U64; omega)
    | omega
theorem Rgs64.upd {f : Nat → Int} (h : Rgs64 f) (c : Nat) (z : Int) (hz : 0 ≤ z ∧ z < 18446744073709551616) : Rgs64 (Go.Proofs.YtkmfamidahlgiaaGreatDoor.upd f c z) := fun i => by
  unfold Go.Proofs.YtkmfamidahlgiaaGreatDoor.upd
  split
  · exact hz
  · exact h i
theorem rgs_first64 {y : LY} {ups : List (List Int)} (K : BK y ups) (hW : y.W = 64) (h0 : 0 ≤ y.S) (h1 : y.S < 18446744073709551616) : Rgs64 (fsC y.V y.W y.C y.S y.n) := fun i => by
  have hc := K.ok.rc
  unfold fsC
  rw [hW]
  first
    | exact fst_rng32 hc _ _
    | exact fst_rng (.inr rfl) hc h0 h1 _ _
theorem plusW_rg64 (x n : Int) : 0 ≤ plusW 64 x n ∧ plusW 64 x n < 18446744073709551616 := by
  unfold plusW
  first
    | (rw [if_pos rfl]; omega)
    | (rw [if_neg (by decide)]; exact U64_range _)
/-- the least as the document looks for it is the program's -/
theorem least_eq64 (g : Nat → Int) : ∀ k, leastP D64 g (k + 1) = least64 (g 0) ((List.range k).map (fun i => g (i + 1)))
  | 0 => by rw [leastP_0]; rfl
  | k + 1 => by
    have ih := least_eq64 g k
    rw [List.range_succ, List.map_append]
    unfold least64 at ih ⊢
    rw [List.foldl_append, ← ih]
    show (if k + 1 = 0 ∨ D64 (g (k + 1) - leastP D64 g (k + 1)) < 0 then g (k + 1) else leastP D64 g (k + 1)) = _
    simp
/-- the program's step of a scan -/
theorem pScan64 {w0 w : World} {b g : Nat} {y : LY} {f f' : Nat → Int} {lv : Value} {log log' : List Acc} {b' : Nat} {r : RY} {lv' : Value} {ups : List (List Int)} {fb n t : Nat} {F : Nat → Fm} {v : Value} {xs : List Int} (K : BK y ups) (h : Duo 152 w0 w b g y f lv log b' r f' lv' log' ups) (hF : Sd b g lv b' r lv' w0 w fb n (fmV64 F)) (ht : t * 11 + 11 ≤ n) (E : Parts w) (hv : IntsV w v xs) (hx : Gts y.n xs) (hI : ScAt xs (F t).I) (hf : Rgs64 f) (hl : log.length ≤ 1000) (th : Int) :
    Calls Tryz.prog 65 #[.pointer (some ⟨b, 0, none⟩), .int .i64 th, v, .pointer (some ⟨fb, t * 11, none⟩)] w fun e w' => ∃ d I' M' log2, ScRel D64 f xs th (F t).I (F t).Mn log d I' M' log2 ∧ e = .returned (.bool d) ∧ ∃ lv2, Duo 152 w0 w' b g y f lv2 log2 b' r f' lv' log' ups ∧ Sd b g lv2 b' r lv' w0 w' fb n (fmV64 (updF F t { F t with I := I', Mn := M' })) ∧ But (fun k => Own b g lv k ∨ k = fb) w w' ∧ (lv2.ownBlock = lv.ownBlock ∨ ∃ j, lv2.ownBlock = some j ∧ w.heap.size ≤ j) := by
  have FR := hF.fr64 ht
  rcases hI with ⟨h0, hI0⟩ | ⟨i, hI0, hi⟩
  · obtain ⟨a, c, e, -⟩ := hv.form
    rw [h0] at e
    subst e
    refine (scan64_zero b fb (t * 11) th _ a c w FR.c4 FR.z4 (by omega)).mono ?_
    rintro e w' ⟨rfl, rfl⟩
    have hN := but_setCell w ⟨fb, t * 11 + 4, none⟩ (.int .i64 0)
    refine ⟨true, 0, (F t).Mn, log, .inl ⟨h0, hI0, rfl, rfl, rfl, rfl⟩, rfl, lv, h.off hF hN, ?_, hN.mono fun _ _ h => .inr h, .inl rfl⟩
    refine (hF.set (i := t * 11 + 4) (by omega) (.int .i64 0)).congr fun j hj => ?_
    have hu : updF F t { F t with I := 0, Mn := (F t).Mn } = F := by
      funext q
      unfold updF
      by_cases e : q = t
      · subst e
        rw [if_pos rfl]
        cases hq : F q with
        | mk a1 a2 a3 a4 a5 a6 =>
          have : a3 = 0 := by have := hI0; rw [hq] at this; exact this
          subst this
          rfl
      · rw [if_neg e]
    rw [hu]
    by_cases e : j = t * 11 + 4
    · subst e
      rw [if_pos rfl, fmV64_at F t 4 (by decide)]
      show Value.int .i64 0 = Value.int .i64 (F t).I
      rw [hI0]
    · rw [if_neg e]
  · obtain ⟨c, hc, hcn⟩ := hx.at_ i hi
    obtain ⟨hk, hm⟩ := K.gate c hcn
    rw [hI0] at FR
    have hfc := hf c
    refine (scan64_step b g fb (t * 11) y f lv log th v xs i c (F t).Mn w h.T.B K.yok E hF.aside FR hv hi hc hk hfc.1 (by have := hfc.2; omega) hl hx.len).mono ?_
    rintro e w' ⟨rfl, lv2, B2, F2, K2, N2, A2⟩
    rw [in_rgs64 hfc] at F2
    have e1 : decide ((i : Int) + 1 = (xs.length : Int)) = decide (i + 1 = xs.length) := by
      by_cases e : i + 1 = xs.length
      · rw [decide_eq_true e, decide_eq_true (by omega)]
      · rw [decide_eq_false e, decide_eq_false (by omega)]
    have e2 : (if (i : Int) + 1 = (xs.length : Int) then (0 : Int) else (i : Int) + 1) = (if i + 1 = xs.length then 0 else (i : Int) + 1) := by
      by_cases e : i + 1 = xs.length
      · rw [if_pos e, if_pos (by omega)]
      · rw [if_neg e, if_neg (by omega)]
    have e3 : nextM64 i (F t).Mn (f c) = (if i = 0 ∨ D64 (f c - (F t).Mn) < 0 then f c else (F t).Mn) := by
      unfold nextM64
      by_cases e : i = 0 ∨ D64 (f c - (F t).Mn) < 0
      · rw [if_pos e, if_pos (e.imp (fun e => by omega) id)]
      · rw [if_neg e, if_neg (fun e' => e (e'.imp (fun e => by omega) id))]
    rw [e2, e3] at F2
    rw [e1]
    refine ⟨_, _, _, _, .inr ⟨i, c, hI0, hi, hc, rfl, rfl, rfl, rfl⟩, rfl, lv2, h.stepK64 hF B2 N2 A2, ⟨va_scan64 hF.a ht F2 K2, F2.od, hF.x.stepB N2.size A2⟩, N2, A2⟩
/-- the document's, told the same -/
theorem dScan64 {w0 w : World} {b g : Nat} {y : LY} {f f1 : Nat → Int} {lv : Value} {log log1 : List Acc} {b' : Nat} {r : RY} {lv' : Value} {ups : List (List Int)} {v : Value} {xs : List Int} (K : BK y ups) (R : Rel y r 64) (h : Duo 152 w0 w b g y f1 lv log1 b' r f lv' log ups) (hv : IntsV w v xs) (hx : Gts y.n xs) (hf : Rgs64 f) (hl : log.length ≤ 1000) (th : Int) (x : Fm) (hM : 0 ≤ x.Mn) {d : Bool} {I' M' : Int} {log2 : List Acc} (hE : ScRel D64 f xs th x.I x.Mn log d I' M' log2) :
    Calls Tryz.prog 59 #[.pointer (some ⟨b', 0, none⟩), .int .i64 th, v, (.agg #[.int .i64 0, .int .i64 (x.N), .int .i64 0, .int .i64 (x.Pc), .int .i64 (x.I), .int .i64 0, .int .u64 (x.Fr), .int .u64 (x.Mn), .int .u64 (x.Vl), .int .u64 0, .slice none 0 0])] w fun e w' => e = .returned (.tuple #[(.agg #[.int .i64 0, .int .i64 (x.N), .int .i64 0, .int .i64 (x.Pc), .int .i64 (I'), .int .i64 0, .int .u64 (x.Fr), .int .u64 (M'), .int .u64 (x.Vl), .int .u64 0, .slice none 0 0]), .bool d]) ∧ ∃ lv2, Duo 152 w0 w' b g y f1 lv log1 b' r f lv2 log2 ups ∧ But (Own b' r.gh lv') w w' ∧ (lv2.ownBlock = lv'.ownBlock ∨ ∃ j, lv2.ownBlock = some j ∧ w.heap.size ≤ j) := by
  rcases hE with ⟨h0, hI0, rfl, rfl, rfl, rfl⟩ | ⟨i, c, hI0, hi, hc, rfl, rfl, rfl, rfl⟩
  · refine (rScan_none b' r f lv' log2 th v xs x.N x.Pc x.I x.Fr x.Mn x.Vl w h.T.R hv h0 hI0).mono ?_
    rintro e w' ⟨rfl, hX⟩
    exact ⟨rfl, lv', h.ext hX, hX.but _, .inl rfl⟩
  · obtain ⟨c', hc', hcn⟩ := hx.at_ i hi
    have ecc : c' = c := by omega
    subst ecc
    obtain ⟨hk, hm⟩ := K.gate c' hcn
    have hk' : isK r (c' : Int) 1 = true := by rw [isK_kd R (by decide), hk]; rfl
    have hm' : c' < r.m := by rw [R.m]; exact hm
    have f0 := (hf c').1
    have hW : r.W = 64 := R.w
    have fin : ∀ d2 I2 M2, d2 = decide (i + 1 = xs.length) → I2 = (if i + 1 = xs.length then 0 else (i : Int) + 1) → M2 = (if i = 0 ∨ D64 (f c' - x.Mn) < 0 then f c' else x.Mn) → ∀ e w', RScanDoes b' r lv' f (log ++ [⟨th, 1, c', f c', f c'⟩]) d2 x.N x.Pc I2 x.Fr M2 x.Vl w e w' → e = .returned (.tuple #[tOut x (if i + 1 = xs.length then 0 else (i : Int) + 1) (if i = 0 ∨ D64 (f c' - x.Mn) < 0 then f c' else x.Mn), .bool (decide (i + 1 = xs.length))]) ∧ ∃ lv2, Duo 152 w0 w' b g y f1 lv log1 b' r f lv2 (log ++ [⟨th, 1, c', f c', f c'⟩]) ups ∧ But (Own b' r.gh lv') w w' ∧ (lv2.ownBlock = lv'.ownBlock ∨ ∃ j, lv2.ownBlock = some j ∧ w.heap.size ≤ j) := by
      rintro d2 I2 M2 rfl rfl rfl e w' ⟨he, lv2, R2, N2, A2⟩
      exact ⟨he, lv2, h.stepR R2 N2 A2, N2, A2⟩
    have hn := hx.len
    rw [hI0]
    by_cases hi0 : i = 0
    · by_cases h2 : i + 1 = xs.length
      · refine (rScan64_ze b' r f lv' log th v xs i c' x.N x.Pc x.Fr x.Mn x.Vl w h.T.R hW hv hi hc hk' hm' hl hn f0 hM hi0 h2).mono (fin _ _ _ (by simp [h2]) (by simp [h2]) (by simp [hi0]))
      · refine (rScan64_zc b' r f lv' log th v xs i c' x.N x.Pc x.Fr x.Mn x.Vl w h.T.R hW hv hi hc hk' hm' hl hn f0 hM hi0 (by omega)).mono (fin _ _ _ (by simp [h2]) (by simp [h2]) (by simp [hi0]))
    · by_cases h1 : D64 (f c' - x.Mn) < 0
      · by_cases h2 : i + 1 = xs.length
        · refine (rScan64_le b' r f lv' log th v xs i c' x.N x.Pc x.Fr x.Mn x.Vl w h.T.R hW hv hi hc hk' hm' hl hn f0 hM hi0 h1 h2).mono (fin _ _ _ (by simp [h2]) (by simp [h2]) (by simp [h1]))
        · refine (rScan64_lc b' r f lv' log th v xs i c' x.N x.Pc x.Fr x.Mn x.Vl w h.T.R hW hv hi hc hk' hm' hl hn f0 hM hi0 h1 (by omega)).mono (fin _ _ _ (by simp [h2]) (by simp [h2]) (by simp [h1]))
      · by_cases h2 : i + 1 = xs.length
        · refine (rScan64_ge b' r f lv' log th v xs i c' x.N x.Pc x.Fr x.Mn x.Vl w h.T.R hW hv hi hc hk' hm' hl hn f0 hM hi0 h1 h2).mono (fin _ _ _ (by simp [h2]) (by simp [h2]) (by simp [h1, hi0]))
        · refine (rScan64_gc b' r f lv' log th v xs i c' x.N x.Pc x.Fr x.Mn x.Vl w h.T.R hW hv hi hc hk' hm' hl hn f0 hM hi0 h1 (by omega)).mono (fin _ _ _ (by simp [h2]) (by simp [h2]) (by simp [h1, hi0]))
end Go.Proofs.YtkmfamidahlgiaaGreatDoor
/- Room behind the least gate: the program's and the document's. -/
namespace Go.Proofs.YtkmfamidahlgiaaGreatDoor
open Go.RowKit
set_option linter.unusedVariables false
set_option linter.unusedSimpArgs false
set_option maxHeartbeats 1000000
/-- how many positions have room, of a capacity and how much the next one leads the least gate by -/
def spc (c d : Int) : Int := if c ≤ 0 then 0 else if d ≤ 0 then c else if d < c then c - d else 0
theorem fits32 (c a n b : Int) (w : World) : Calls Tryz.prog 37 #[.int .i64 c, .int .u32 a, .int .i64 n, .int .u32 b] w fun e w' => e = .returned (.bool (decide (D32 (((a + n) % 4294967296) - b) ≤ c))) ∧ w = w' := by
  go_enter Tryz.func37, Tryz.ntmps37
  go_wp2_with fail
  refine (addU32 _ _ _).mono ?_
  rintro e w' ⟨rfl, rfl⟩
  go_wp2_with fail
  refine (diffU32 _ _ _).mono ?_
  rintro e w' ⟨rfl, rfl⟩
  go_wp2
  go_ret
  exact ⟨rfl, rfl⟩
theorem space32 (c a b : Int) (w : World) (hc : c ≤ 9223372036854775807) : Calls Tryz.prog 50 #[.int .i64 c, .int .u32 a, .int .u32 b] w fun e w' => e = .returned (.int .i64 (spc c (D32 (a - b)))) ∧ w = w' := by
  have r := D32_range (a - b)
  have C := Lib.hid (fun w => diffU32 a b w)
  generalize D32 (a - b) = d at *
  obtain ⟨r1, r2⟩ := r
  by_cases h1 : c ≤ 0
  · rw [show spc c d = 0 by unfold spc; omega]
    have h1' : ¬ 0 < c := by omega
    by_cases h2 : d ≤ 0
    · go_enter Tryz.func50, Tryz.ntmps50
      go_wp2_with fail
      refine (C.out _).mono ?_
      rintro e w' ⟨rfl, rfl⟩
      go_wp2
      go_ret
      exact ⟨rfl, rfl⟩
    · go_enter Tryz.func50, Tryz.ntmps50
      go_wp2_with fail
      refine (C.out _).mono ?_
      rintro e w' ⟨rfl, rfl⟩
      go_wp2
      go_ret
      exact ⟨rfl, rfl⟩
  · by_cases h2 : d ≤ 0
    · rw [show spc c d = c by unfold spc; omega]
      go_enter Tryz.func50, Tryz.ntmps50
      go_wp2_with fail
      refine (C.out _).mono ?_
      rintro e w' ⟨rfl, rfl⟩
      go_wp2
      go_ret
      exact ⟨rfl, rfl⟩
    · by_cases h3 : d < c
      · rw [show spc c d = c - d by unfold spc; omega]
        go_enter Tryz.func50, Tryz.ntmps50
        go_wp2_with fail
        refine (C.out _).mono ?_
        rintro e w' ⟨rfl, rfl⟩
        go_wp2
        go_ret
        exact ⟨rfl, rfl⟩
      · rw [show spc c d = 0 by unfold spc; omega]
        go_enter Tryz.func50, Tryz.ntmps50
        go_wp2_with fail
        refine (C.out _).mono ?_
        rintro e w' ⟨rfl, rfl⟩
        go_wp2
        go_ret
        exact ⟨rfl, rfl⟩
theorem fits64 (c a n b : Int) (w : World) : Calls Tryz.prog 141 #[.int .i64 c, .int .u64 a, .int .i64 n, .int .u64 b] w fun e w' => e = .returned (.bool (decide (D64 ((U64 (a + n)) - b) ≤ c))) ∧ w = w' := by
  go_enter Tryz.func141, Tryz.ntmps141
  go_wp2_with fail
  refine (addU64 _ _ _).mono ?_
  rintro e w' ⟨rfl, rfl⟩
  go_wp2_with fail
  refine (diffU64 _ _ _).mono ?_
  rintro e w' ⟨rfl, rfl⟩
  go_wp2
  go_ret
  exact ⟨rfl, rfl⟩
theorem rFits32 (c a n b : Int) (w : World) (hb : 0 ≤ b) : Calls Tryz.prog 167 #[.int .i64 32, .int .i64 c, .int .u64 a, .int .i64 n, .int .u64 b] w fun e w' => e = .returned (.bool (decide (D32 ((a + n) - b) ≤ c))) ∧ w = w' := by
  go_enter Tryz.func167, Tryz.ntmps167
  go_wp2_with fail
  refine (rPlus_32 _ _ _).mono ?_
  rintro e w' ⟨rfl, rfl⟩
  go_wp2_with fail
  refine (rGap_32 _ _ _ (by omega) hb).mono ?_
  rintro e w' ⟨rfl, rfl⟩
  go_wp2
  go_ret
  refine ⟨ret_bool ?_, rfl⟩
  rw [show D32 ((a + n) % 4294967296 - b) = D32 ((a + n) - b) by unfold D32; omega]
theorem rFits64 (c a n b : Int) (w : World) : Calls Tryz.prog 167 #[.int .i64 64, .int .i64 c, .int .u64 a, .int .i64 n, .int .u64 b] w fun e w' => e = .returned (.bool (decide (D64 (U64 (a + n) - b) ≤ c))) ∧ w = w' := by
  go_enter Tryz.func167, Tryz.ntmps167
  go_wp2_with fail
  refine (rPlus_64 _ _ _).mono ?_
  rintro e w' ⟨rfl, rfl⟩
  go_wp2_with fail
  refine (rGap_64 _ _ _).mono ?_
  rintro e w' ⟨rfl, rfl⟩
  go_wp2
  go_ret
  exact ⟨rfl, rfl⟩
theorem live16 (w : World) : Calls Tryz.prog 10 #[] w fun e w' => e = .returned (.bool true) ∧ w = w' := by
  have h1 : decide (D32 ((0 + 2) % 4294967296 - 4294967294) ≤ 4) = true := by decide
  have h2 : decide (D32 ((0 + 3) % 4294967296 - 4294967294) ≤ 4) = false := by decide
  have h3 : spc 4 (D32 (0 - 4294967294)) = 2 := by decide
  have H1 := Lib.hid h1
  have H2 := Lib.hid h2
  have H3 := Lib.hid h3
  clear h1 h2 h3
  go_enter Tryz.func10, Tryz.ntmps10
  go_wp2_with fail
  refine (fits32 _ _ _ _ _).mono ?_
  rintro e w' ⟨rfl, rfl⟩
  rw [H1.out]
  go_wp2_with fail
  refine (fits32 _ _ _ _ _).mono ?_
  rintro e w' ⟨rfl, rfl⟩
  rw [H2.out]
  go_wp2_with fail
  refine (space32 _ _ _ _ (by decide)).mono ?_
  rintro e w' ⟨rfl, rfl⟩
  rw [H3.out]
  go_wp2
  go_ret
  exact ⟨rfl, rfl⟩
end Go.Proofs.YtkmfamidahlgiaaGreatDoor
/- A sequencer of one producer: what its small calls do, publishing, looking. -/
namespace Go.Proofs.YtkmfamidahlgiaaGreatDoor
open Go.RowKit
set_option linter.unusedVariables false
set_option linter.unusedSimpArgs false
set_option maxHeartbeats 4000000
attribute [local go_sem] later_cell later_frozen later_const
def LayO (y : LY) (ups : List (List Int)) (w : World) (e : Ending) (w' : World) : Prop :=
  ∃ u : Value, e = .returned (.agg #[.int .i64 (y.V), .int .i64 (y.W), .int .i64 (y.C), .int .i64 (y.P), .int .u64 (y.S), u, .int .i64 (y.Cu), .int .i64 (y.Cl), .int .i64 (y.Ti), .int .i64 (y.Se), .int .i64 (y.Ne), .int .i64 (y.Ma), .int .i64 (y.Sl), .int .i64 (y.m)]) ∧ OwnL w' u ups ∧ Ext w w'
theorem But.trans2 {S T : Nat → Prop} {a b c : World} (h : But S a b) (k : But T b c) (hst : ∀ i, i < a.heap.size → T i → S i) : But S a c :=
  ⟨k.os.trans h.os, k.tape.trans h.tape, k.output.trans h.output, Nat.le_trans h.size k.size, fun i hi hs => (k.block i (Nat.lt_of_lt_of_le hi h.size) (fun e => hs (hst i hi e))).trans (h.block i hi hs)⟩
theorem own_on {v v1 v2 : Value} {n m : Nat} (h : v1.ownBlock = v.ownBlock ∨ ∃ j, v1.ownBlock = some j ∧ n ≤ j) (hn : n ≤ m) (h2 : v2.ownBlock = v1.ownBlock ∨ ∃ j, v2.ownBlock = some j ∧ m ≤ j) : v2.ownBlock = v.ownBlock ∨ ∃ j, v2.ownBlock = some j ∧ n ≤ j := by
  rcases h2 with e | ⟨j, e, hj⟩
  · rw [e]; exact h
  · exact .inr ⟨j, e, by omega⟩
theorem mine_back {b g sb lb k n : Nat} {lv lv2 vL vL2 : Value} (h : Mine b g lv2 sb lb vL2 k) (hk : k < n) (hA : lv2.ownBlock = lv.ownBlock ∨ ∃ j, lv2.ownBlock = some j ∧ n ≤ j) (hL : vL2.ownBlock = vL.ownBlock ∨ ∃ j, vL2.ownBlock = some j ∧ n ≤ j) : Mine b g lv sb lb vL k := by
  rcases h with e | e | e | e
  · rcases e with e | e | e
    · exact .inl (.inl e)
    · exact .inl (.inr (.inl e))
    · rcases hA with e' | ⟨j, e', hj⟩
      · exact .inl (.inr (.inr (by rw [← e']; exact e)))
      · rw [e'] at e
        have := Option.some.inj e
        omega
  · exact .inr (.inl e)
  · exact .inr (.inr (.inl e))
  · rcases hL with e' | ⟨j, e', hj⟩
    · exact .inr (.inr (.inr (by rw [← e']; exact e)))
    · rw [e'] at e
      have := Option.some.inj e
      omega
/-- the cursor of a board of the first variant -/
theorem BK.cursor {y : LY} {ups : List (List Int)} (K : BK y ups) (h : y.V = 1) : y.Cu = y.n ∧ kd y (y.n : Int) = 1 ∧ y.n < y.m := by
  obtain ⟨h1, -⟩ := K.fields
  have hm := K.m
  have hk := K.num
  have h2 := hk.c2
  rw [h] at h1 hm
  have h5 : nCe 1 y.n y.C = y.n + 1 + y.C := rfl
  refine ⟨h1, ?_, by omega⟩
  rw [K.kd_at, h]
  have : useN 1 y.n y.C y.n = (2, 0) := by
    have h6 : nSl 1 y.n y.C = y.n + 1 := rfl
    unfold useN useL
    rw [if_neg (by omega), if_neg (by omega), if_neg (by omega), if_pos (show (y.n : Int) = nCu 1 y.n from rfl)]
  rw [this]; rfl
theorem BK.one {y : LY} {ups : List (List Int)} (K : BK y ups) (h : y.V = 1) (t : Int) : prodB y.V y.W y.C y.P ups t = decide (t = 0) := by
  have ok := K.ok
  have h1 := ok.p1
  have h2 := ok.pm
  have h3 : mostOf y.V = 1 := by unfold mostOf; rw [if_pos h]
  have hp : y.P = 1 := by omega
  have ht : thr y.V y.W y.C y.P ups = y.P + (ups.length : Int) := if_pos K.ck
  unfold prodB
  rw [ht, hp]
  by_cases e : t = 0
  · subst e
    have h4 := ok.rt.pos
    simp
    omega
  · rw [decide_eq_false e]
    simp
    omega
def evT (th n p : Int) : Ev := ⟨3, th, 0, n, p, 0, []⟩
def evG (th : Int) : Ev := ⟨4, th, 0, 0, 0, 0, []⟩
def evP (th n p : Int) : Ev := ⟨5, th, 0, n, p, 0, []⟩
theorem dat_none (w : World) (B : Nat) : Dat w B (.slice none 0 0) [] := .inl ⟨none, 0, rfl, rfl, fun _ => rfl⟩
set_option maxRecDepth 100000 in
theorem LayoutO32 (b g : Nat) (y : LY) (f : Nat → Int) (lv : Value) (log : List Acc) (ups : List (List Int)) (w : World) (hB : BD w 121 b g y f lv log) (hL : ListsV w (.slice y.a y.n y.cap) ups) (hll : ∀ l ∈ ups, l.length ≤ 1000000) (hn : ups.length ≤ 1000000) (hg : ckC y.V y.W y.C y.P ups = 0)
    (hy : ∀ u, layV y.V y.W y.C y.P y.S u ups.length = (.agg #[.int .i64 (y.V), .int .i64 (y.W), .int .i64 (y.C), .int .i64 (y.P), .int .u64 (y.S), u, .int .i64 (y.Cu), .int .i64 (y.Cl), .int .i64 (y.Ti), .int .i64 (y.Se), .int .i64 (y.Ne), .int .i64 (y.Ma), .int .i64 (y.Sl), .int .i64 (y.m)])) :
    Calls Tryz.prog 72 #[.pointer (some ⟨b, 0, none⟩)] w (LayO y ups w) := by
  have CO := Lib.hid (fun w' (hx : Ext w w') => lOf_ok y.V y.W y.C y.P y.S _ ups w' (hL.ext hx) hll hn hg)
  have HY := Lib.hid hy
  have q0 := hB.q0
  have q1 := hB.q1
  have q2 := hB.q2
  have q3 := hB.q3
  have q4 := hB.q4
  have q5 := hB.q5
  have HG : Hid (∀ (b2 n : Nat) w', OwnL w' (.slice (some ⟨b2, 0, none⟩) n n) ups → Ext w w' → LayO y ups w (.returned (.agg #[.int .i64 (y.V), .int .i64 (y.W), .int .i64 (y.C), .int .i64 (y.P), .int .u64 (y.S), .slice (some ⟨b2, 0, none⟩) n n, .int .i64 (y.Cu), .int .i64 (y.Cl), .int .i64 (y.Ti), .int .i64 (y.Se), .int .i64 (y.Ne), .int .i64 (y.Ma), .int .i64 (y.Sl), .int .i64 (y.m)])) w') := Lib.hid (fun b2 n w' h1 h2 => ⟨_, rfl, h1, h2⟩)
  generalize LayO y ups w = G at *
  have hbw := World.block_lt_of_cell? w ⟨b, 0, none⟩ q0
  obtain ⟨V, W, C, P, S, a, n, cap, Cu, Cl, Ti, Se, Ne, Ma, Sl, m⟩ := y
  dsimp only at CO HY HG q0 q1 q2 q3 q4 q5
  clear hB hL hll hg hy hn
  go_enter Tryz.func72, Tryz.ntmps72
  go_wp2_with fail
  refine (CO.out _ ((Ext.refl w).alloc _)).mono ?_
  rintro e wo ⟨uo, rfl, Oo, Xo⟩
  obtain ⟨bo, fo, cuo, eo, -⟩ := id Oo
  rw [HY.out]
  subst eo
  have qr_0 : wo.cell? ⟨w.heap.size, 0, none⟩ = some (.int .i64 0) := Xo.cell (by simp [go_sem])
  have zr_0 : wo.frozen? ⟨w.heap.size, 0, none⟩ = false := Xo.frozen (v := .int .i64 0) (by simp [go_sem]) (by simp [go_sem])
  have qr_1 : wo.cell? ⟨w.heap.size, 1, none⟩ = some (.int .i64 0) := Xo.cell (by simp [go_sem])
  have zr_1 : wo.frozen? ⟨w.heap.size, 1, none⟩ = false := Xo.frozen (v := .int .i64 0) (by simp [go_sem]) (by simp [go_sem])
  have qr_2 : wo.cell? ⟨w.heap.size, 2, none⟩ = some (.int .i64 0) := Xo.cell (by simp [go_sem])
  have zr_2 : wo.frozen? ⟨w.heap.size, 2, none⟩ = false := Xo.frozen (v := .int .i64 0) (by simp [go_sem]) (by simp [go_sem])
  have qr_3 : wo.cell? ⟨w.heap.size, 3, none⟩ = some (.int .i64 0) := Xo.cell (by simp [go_sem])
  have zr_3 : wo.frozen? ⟨w.heap.size, 3, none⟩ = false := Xo.frozen (v := .int .i64 0) (by simp [go_sem]) (by simp [go_sem])
  have qr_4 : wo.cell? ⟨w.heap.size, 4, none⟩ = some (.int .u64 0) := Xo.cell (by simp [go_sem])
  have zr_4 : wo.frozen? ⟨w.heap.size, 4, none⟩ = false := Xo.frozen (v := .int .u64 0) (by simp [go_sem]) (by simp [go_sem])
  have qr_5 : wo.cell? ⟨w.heap.size, 5, none⟩ = some (.slice none 0 0) := Xo.cell (by simp [go_sem])
  have zr_5 : wo.frozen? ⟨w.heap.size, 5, none⟩ = false := Xo.frozen (v := .slice none 0 0) (by simp [go_sem]) (by simp [go_sem])
  have qr_6 : wo.cell? ⟨w.heap.size, 6, none⟩ = some (.int .i64 0) := Xo.cell (by simp [go_sem])
  have zr_6 : wo.frozen? ⟨w.heap.size, 6, none⟩ = false := Xo.frozen (v := .int .i64 0) (by simp [go_sem]) (by simp [go_sem])
  have qr_7 : wo.cell? ⟨w.heap.size, 7, none⟩ = some (.int .i64 0) := Xo.cell (by simp [go_sem])
  have zr_7 : wo.frozen? ⟨w.heap.size, 7, none⟩ = false := Xo.frozen (v := .int .i64 0) (by simp [go_sem]) (by simp [go_sem])
  have qr_8 : wo.cell? ⟨w.heap.size, 8, none⟩ = some (.int .i64 0) := Xo.cell (by simp [go_sem])
  have zr_8 : wo.frozen? ⟨w.heap.size, 8, none⟩ = false := Xo.frozen (v := .int .i64 0) (by simp [go_sem]) (by simp [go_sem])
  have qr_9 : wo.cell? ⟨w.heap.size, 9, none⟩ = some (.int .i64 0) := Xo.cell (by simp [go_sem])
  have zr_9 : wo.frozen? ⟨w.heap.size, 9, none⟩ = false := Xo.frozen (v := .int .i64 0) (by simp [go_sem]) (by simp [go_sem])
  have qr_10 : wo.cell? ⟨w.heap.size, 10, none⟩ = some (.int .i64 0) := Xo.cell (by simp [go_sem])
  have zr_10 : wo.frozen? ⟨w.heap.size, 10, none⟩ = false := Xo.frozen (v := .int .i64 0) (by simp [go_sem]) (by simp [go_sem])
  have qr_11 : wo.cell? ⟨w.heap.size, 11, none⟩ = some (.int .i64 0) := Xo.cell (by simp [go_sem])
  have zr_11 : wo.frozen? ⟨w.heap.size, 11, none⟩ = false := Xo.frozen (v := .int .i64 0) (by simp [go_sem]) (by simp [go_sem])
  have qr_12 : wo.cell? ⟨w.heap.size, 12, none⟩ = some (.int .i64 0) := Xo.cell (by simp [go_sem])
  have zr_12 : wo.frozen? ⟨w.heap.size, 12, none⟩ = false := Xo.frozen (v := .int .i64 0) (by simp [go_sem]) (by simp [go_sem])
  have qr_13 : wo.cell? ⟨w.heap.size, 13, none⟩ = some (.int .i64 0) := Xo.cell (by simp [go_sem])
  have zr_13 : wo.frozen? ⟨w.heap.size, 13, none⟩ = false := Xo.frozen (v := .int .i64 0) (by simp [go_sem]) (by simp [go_sem])
  have TR : Tag wo w.heap.size 31 := (Tag.new w _ _).ext Xo
  have xo : Ext w wo := Ext.trans ((Ext.refl w).alloc _) Xo
  have po := World.block_lt_of_cell? _ ⟨w.heap.size, 0, none⟩ qr_0
  have ro := Nat.lt_succ_of_lt po
  have HOo := Lib.hid Oo
  generalize hN : ups.length = N at *
  clear Xo Oo q0 q1 q2 q3 q4 q5
  go_upto_region 4 with (fail)
  refine settle_wp ?_
  intro w3 hb3
  have l_0 : w3.cell? ⟨wo.heap.size, 0, none⟩ = some (.int .i64 V) := hb3.cell (by simp [go_sem])
  have l_1 : w3.cell? ⟨wo.heap.size, 1, none⟩ = some (.int .i64 W) := hb3.cell (by simp [go_sem])
  have l_2 : w3.cell? ⟨wo.heap.size, 2, none⟩ = some (.int .i64 C) := hb3.cell (by simp [go_sem])
  have l_3 : w3.cell? ⟨wo.heap.size, 3, none⟩ = some (.int .i64 P) := hb3.cell (by simp [go_sem])
  have l_4 : w3.cell? ⟨wo.heap.size, 4, none⟩ = some (.int .u64 S) := hb3.cell (by simp [go_sem])
  have l_5 : w3.cell? ⟨wo.heap.size, 5, none⟩ = some (.slice (some ⟨bo, 0, none⟩) N N) := hb3.cell (by simp [go_sem])
  have l_6 : w3.cell? ⟨wo.heap.size, 6, none⟩ = some (.int .i64 Cu) := hb3.cell (by simp [go_sem])
  have l_7 : w3.cell? ⟨wo.heap.size, 7, none⟩ = some (.int .i64 Cl) := hb3.cell (by simp [go_sem])
  have l_8 : w3.cell? ⟨wo.heap.size, 8, none⟩ = some (.int .i64 Ti) := hb3.cell (by simp [go_sem])
  have l_9 : w3.cell? ⟨wo.heap.size, 9, none⟩ = some (.int .i64 Se) := hb3.cell (by simp [go_sem])
  have l_10 : w3.cell? ⟨wo.heap.size, 10, none⟩ = some (.int .i64 Ne) := hb3.cell (by simp [go_sem])
  have l_11 : w3.cell? ⟨wo.heap.size, 11, none⟩ = some (.int .i64 Ma) := hb3.cell (by simp [go_sem])
  have l_12 : w3.cell? ⟨wo.heap.size, 12, none⟩ = some (.int .i64 Sl) := hb3.cell (by simp [go_sem])
  have l_13 : w3.cell? ⟨wo.heap.size, 13, none⟩ = some (.int .i64 m) := hb3.cell (by simp [go_sem])
  have x3 := Ext.trans ((Ext.refl wo).alloc _) hb3
  have y_0 := x3.frozen qr_0 zr_0
  have r_0 := x3.cell qr_0
  have y_1 := x3.frozen qr_1 zr_1
  have r_1 := x3.cell qr_1
  have y_2 := x3.frozen qr_2 zr_2
  have r_2 := x3.cell qr_2
  have y_3 := x3.frozen qr_3 zr_3
  have r_3 := x3.cell qr_3
  have y_4 := x3.frozen qr_4 zr_4
  have r_4 := x3.cell qr_4
  have y_5 := x3.frozen qr_5 zr_5
  have r_5 := x3.cell qr_5
  have y_6 := x3.frozen qr_6 zr_6
  have r_6 := x3.cell qr_6
  have y_7 := x3.frozen qr_7 zr_7
  have r_7 := x3.cell qr_7
  have y_8 := x3.frozen qr_8 zr_8
  have r_8 := x3.cell qr_8
  have y_9 := x3.frozen qr_9 zr_9
  have r_9 := x3.cell qr_9
  have y_10 := x3.frozen qr_10 zr_10
  have r_10 := x3.cell qr_10
  have y_11 := x3.frozen qr_11 zr_11
  have r_11 := x3.cell qr_11
  have y_12 := x3.frozen qr_12 zr_12
  have r_12 := x3.cell qr_12
  have y_13 := x3.frozen qr_13 zr_13
  have r_13 := x3.cell qr_13
  have HT3 := Lib.hid (TR.ext x3)
  have HE3 := Lib.hid (xo.trans x3)
  have HO3 := Lib.hid (HOo.out.ext x3)
  clear hb3 x3 xo TR po ro qr_0 zr_0 qr_1 zr_1 qr_2 zr_2 qr_3 zr_3 qr_4 zr_4 qr_5 zr_5 qr_6 zr_6 qr_7 zr_7 qr_8 zr_8 qr_9 zr_9 qr_10 zr_10 qr_11 zr_11 qr_12 zr_12 qr_13 zr_13
  go_wp2
  refine bodyPost_ret (v := (.agg #[.int .i64 V, .int .i64 W, .int .i64 C, .int .i64 P, .int .u64 S, .slice (some ⟨bo, 0, none⟩) N N, .int .i64 Cu, .int .i64 Cl, .int .i64 Ti, .int .i64 Se, .int .i64 Ne, .int .i64 Ma, .int .i64 Sl, .int .i64 m])) (by simp [results, Tryz.results72, go_sem, r_0, r_1, r_2, r_3, r_4, r_5, r_6, r_7, r_8, r_9, r_10, r_11, r_12, r_13]) rfl (HG.out bo N _ ?own ?ext)
  case own => repeat (any_goals (first | with_reducible exact HO3.out | with_reducible exact HT3.out | with_reducible refine Tag.set ?_ | with_reducible refine OwnL.set (t := 31) ?_ ?_ (by decide) (by decide)))
  case ext =>
    have E3 := HE3.out
    repeat (first | with_reducible exact Ext.refl _ | with_reducible assumption | with_reducible refine Ext.alloc ?_ _ | with_reducible refine Ext.drew ?_ | with_reducible refine Ext.drewN ?_ _ | with_reducible refine Ext.setCell ?_ (by simp <;> omega) _ | with_reducible refine Ext.trans ?_ (by assumption))
theorem FB32.at_ {W0 w : World} {b g sb lb : Nat} {lv vL : Value} {fb n t : Nat} {F : Nat → Fm} (h : FB32 W0 w b g sb lb lv vL fb n F) (ht : t * 11 + 11 ≤ n) (j : Nat) (hj : j < 11) : w.cell? ⟨fb, t * 11 + j, none⟩ = some (fmc32 (F t) j) ∧ w.frozen? ⟨fb, t * 11 + j, none⟩ = false := by
  have h1 := h.a.c (t * 11 + j) (by omega)
  rw [fmV32_at F t j hj] at h1
  exact ⟨h1, h.a.z (t * 11 + j) (by omega)⟩
theorem va_fm32 {w : World} {fb n t : Nat} {F : Nat → Fm} (h : VA n w fb (fmV32 F)) (ht : t * 11 + 11 ≤ n) {j : Nat} (hj : j < 11) {x : Fm} {v : Value} (hv : v = fmc32 x j) (hne : ∀ i, i < 11 → i ≠ j → fmc32 x i = fmc32 (F t) i) : VA n (w.setCell ⟨fb, t * 11 + j, none⟩ v) fb (fmV32 (updF F t x)) := by
  refine (va_set h v (show t * 11 + j < n by omega)).congr fun i hi => ?_
  by_cases e : i = t * 11 + j
  · subst e
    rw [if_pos rfl, fmV32_at _ t j hj, hv]
    simp [updF]
  · rw [if_neg e]
    by_cases ho : i < t * 11 ∨ t * 11 + 11 ≤ i
    · rw [fmV32_out F t x i ho]
    · obtain ⟨k, hk, rfl⟩ : ∃ k, k < 11 ∧ i = t * 11 + k := ⟨i - t * 11, by omega, by omega⟩
      rw [fmV32_at _ t k hk, fmV32_at _ t k hk]
      have : updF F t x t = x := if_pos rfl
      rw [this]
      exact (hne k hk (fun e2 => e (by rw [e2]))).symm
/-- a state that goes on from w0 -/
structure Run32 (W0 w0 w : World) (lv0 vL0 : Value) (b g sb lb : Nat) (y : LY) (f : Nat → Int) (lv : Value) (log : List Acc) (ups : List (List Int)) (su ev : Value) (xs : List Int) (N L : Int) (vL : Value) (EL : List Ev) (fb n : Nat) (F : Nat → Fm) : Prop where
  T : ST32 W0 w b g sb lb y f lv log ups su ev xs N L vL EL
  F : FB32 W0 w b g sb lb lv vL fb n F
  N : But (fun k => Mine b g lv0 sb lb vL0 k ∨ k = fb) w0 w
  A : lv.ownBlock = lv0.ownBlock ∨ ∃ j, lv.ownBlock = some j ∧ w0.heap.size ≤ j
  AL : vL.ownBlock = vL0.ownBlock ∨ ∃ j, vL.ownBlock = some j ∧ w0.heap.size ≤ j
section
variable {W0 w0 w w' : World} {lv0 vL0 : Value} {b g sb lb : Nat} {y : LY} {f f2 : Nat → Int} {lv lv2 : Value} {log log2 : List Acc} {ups : List (List Int)} {su ev : Value} {xs : List Int} {N L : Int} {vL : Value} {EL : List Ev} {fb n : Nat} {F F2 : Nat → Fm}
theorem Run32.start (h : ST32 W0 w b g sb lb y f lv log ups su ev xs N L vL EL) (hF : FB32 W0 w b g sb lb lv vL fb n F) : Run32 W0 w w lv vL b g sb lb y f lv log ups su ev xs N L vL EL fb n F :=
  ⟨h, hF, But.refl _ _, .inl rfl, .inl rfl⟩
theorem Run32.ext (h : Run32 W0 w0 w lv0 vL0 b g sb lb y f lv log ups su ev xs N L vL EL fb n F) (hx : Ext w w') : Run32 W0 w0 w' lv0 vL0 b g sb lb y f lv log ups su ev xs N L vL EL fb n F :=
  ⟨h.T.ext hx, h.F.ext hx, h.N.trans (hx.but _), h.A, h.AL⟩
/-- a register is written -/
theorem Run32.setF (h : Run32 W0 w0 w lv0 vL0 b g sb lb y f lv log ups su ev xs N L vL EL fb n F) {t j : Nat} (ht : t * 11 + 11 ≤ n) (hj : j < 11) {x : Fm} {v : Value} (hv : v = fmc32 x j) (hne : ∀ i, i < 11 → i ≠ j → fmc32 x i = fmc32 (F t) i) : Run32 W0 w0 (w.setCell ⟨fb, t * 11 + j, none⟩ v) lv0 vL0 b g sb lb y f lv log ups su ev xs N L vL EL fb n (updF F t x) := by
  have hN := but_setCell w ⟨fb, t * 11 + j, none⟩ v
  refine ⟨h.T.but hN (fun k hk e => h.F.m (by rw [← show k = fb from hk]; exact e)) (fun k hk _ => by rw [show k = fb from hk]; exact ⟨h.F.w0, h.F.o⟩), ⟨va_fm32 h.F.a ht hj hv hne, h.F.o.set, h.F.m, h.F.w0, Nat.lt_of_lt_of_le h.F.l hN.size⟩, h.N.trans (hN.mono fun _ _ e => .inr e), h.A, h.AL⟩
theorem Run32.setN (h : Run32 W0 w0 w lv0 vL0 b g sb lb y f lv log ups su ev xs N L vL EL fb n F) (N' : Int) : Run32 W0 w0 (w.setCell ⟨sb, 10, none⟩ (.int .u32 N')) lv0 vL0 b g sb lb y f lv log ups su ev xs N' L vL EL fb n F := by
  have hN := but_setCell w ⟨sb, 10, none⟩ (.int .u32 N')
  exact ⟨h.T.stepS (h.T.S.setN N') hN, h.F.step hN (fun k hk => .inl (.inr (.inl hk))) (.inl rfl) (.inl rfl), h.N.trans (hN.mono fun _ _ e => .inl (.inr (.inl e))), h.A, h.AL⟩
theorem Run32.setL (h : Run32 W0 w0 w lv0 vL0 b g sb lb y f lv log ups su ev xs N L vL EL fb n F) (L' : Int) : Run32 W0 w0 (w.setCell ⟨sb, 11, none⟩ (.int .u32 L')) lv0 vL0 b g sb lb y f lv log ups su ev xs N L' vL EL fb n F := by
  have hN := but_setCell w ⟨sb, 11, none⟩ (.int .u32 L')
  exact ⟨h.T.stepS (h.T.S.setL L') hN, h.F.step hN (fun k hk => .inl (.inr (.inl hk))) (.inl rfl) (.inl rfl), h.N.trans (hN.mono fun _ _ e => .inl (.inr (.inl e))), h.A, h.AL⟩
/-- an access, which may write registers -/
theorem Run32.board (h : Run32 W0 w0 w lv0 vL0 b g sb lb y f lv log ups su ev xs N L vL EL fb n F) (hB : BD w' 121 b g y f2 lv2 log2) (hN : But (fun k => Own b g lv k ∨ k = fb) w w') (hA : lv2.ownBlock = lv.ownBlock ∨ ∃ j, lv2.ownBlock = some j ∧ w.heap.size ≤ j) (hF : VA n w' fb (fmV32 F2)) (ho : Odd w' fb) : Run32 W0 w0 w' lv0 vL0 b g sb lb y f2 lv2 log2 ups su ev xs N L vL EL fb n F2 := by
  have hs := h.N.size
  refine ⟨h.T.stepB hB hN h.F.m h.F.o h.F.w0 hA, ⟨hF, ho, mine_out h.F.m h.F.l hA (.inl rfl), h.F.w0, Nat.lt_of_lt_of_le h.F.l hN.size⟩, h.N.trans2 hN (fun i hi e => ?_), own_on h.A hs hA, h.AL⟩
  rcases e with e | e
  · exact .inl (mine_back (.inl e) hi h.A h.AL)
  · exact .inr e
theorem Run32.boardB (h : Run32 W0 w0 w lv0 vL0 b g sb lb y f lv log ups su ev xs N L vL EL fb n F) (hB : BD w' 121 b g y f2 lv2 log2) (hN : But (Own b g lv) w w') (hA : lv2.ownBlock = lv.ownBlock ∨ ∃ j, lv2.ownBlock = some j ∧ w.heap.size ≤ j) : Run32 W0 w0 w' lv0 vL0 b g sb lb y f2 lv2 log2 ups su ev xs N L vL EL fb n F :=
  h.board hB (hN.mono fun _ _ e => .inl e) hA (h.F.a.but hN (fun e => h.F.m (.inl e))) (h.F.o.but hN (fun e => h.F.m (.inl e)))
/-- a note -/
theorem Run32.note (h : Run32 W0 w0 w lv0 vL0 b g sb lb y f lv log ups su ev xs N L vL EL fb n F) {vL2 : Value} {EL2 : List Ev} (hG : LG W0 w' lb vL2 EL2) (hN : But (fun k => k = lb ∨ vL.ownBlock = some k) w w') (hL : vL2.ownBlock = vL.ownBlock ∨ ∃ j, vL2.ownBlock = some j ∧ w.heap.size ≤ j) : Run32 W0 w0 w' lv0 vL0 b g sb lb y f lv log ups su ev xs N L vL2 EL2 fb n F := by
  have hs := h.N.size
  refine ⟨h.T.stepE hG hN, h.F.step hN (fun k hk => .inl (.inr (.inr hk))) (.inl rfl) hL, h.N.trans2 hN (fun i hi e => ?_), h.A, own_on h.AL hs hL⟩
  rcases e with e | e
  · exact .inl (.inr (.inr (.inl e)))
  · exact .inl (mine_back (.inr (.inr (.inr e))) hi h.A h.AL)
end
set_option maxRecDepth 100000 in
/-- whether what is asked for has room -/
theorem soFits32 {W0 w : World} {b g sb lb : Nat} {y : LY} {f : Nat → Int} {lv : Value} {log : List Acc} {ups : List (List Int)} {su ev : Value} {xs : List Int} {N L : Int} {vL : Value} {EL : List Ev} {fb n t : Nat} {F : Nat → Fm} (h : ST32 W0 w b g sb lb y f lv log ups su ev xs N L vL EL) (hF : FB32 W0 w b g sb lb lv vL fb n F) (ht : t * 11 + 11 ≤ n) :
    Calls Tryz.prog 88 #[.pointer (some ⟨sb, 0, none⟩), .pointer (some ⟨fb, t * 11, none⟩)] w fun e w' => e = .returned (.bool (decide (D32 ((((F t).Fr + (F t).N) % 4294967296) - L) ≤ y.C))) ∧ Ext w w' := by
  have c1 : w.cell? ⟨fb, t * 11 + 1, none⟩ = some (.int .i64 (F t).N) := (hF.at_ ht 1 (by decide)).1
  have c6 : w.cell? ⟨fb, t * 11 + 6, none⟩ = some (.int .u32 (F t).Fr) := (hF.at_ ht 6 (by decide)).1
  have s4 := h.S.q4
  have s11 := h.S.q11
  generalize t * 11 = o at *
  clear h hF ht
  go_enter Tryz.func88, Tryz.ntmps88
  go_upto_region 1 with (fail)
  have k1 := fun w' (hx : Ext w w') => hx.cell c1
  have k2 := fun w' (hx : Ext w w') => hx.cell c6
  have k3 := fun w' (hx : Ext w w') => hx.cell s4
  have k4 := fun w' (hx : Ext w w') => hx.cell s11
  refine wp_region_held_drew (S := fun w' => Ext w w') (by kernel_rfl) ?hbeg (fun hHeld => ?_)
  case hbeg => exact (Ext.refl w).drew
  have hHeld0 : Ext w w := by first | exact Ext.refl _ | assumption
  first
    | (refine take_at (i := 0) (v := ?_) rfl rfl (by kernel_rfl) (by kernel_rfl) (by kernel_rfl) (fun _ _ _ h => h) (Or.inl ⟨by rfl, ?hy⟩) (by assumption) ?_
       case hy => (intro wz hSw; (try dsimp only at hSw); go_simp <;> with_reducible rfl)
       simp only [List.setIfInBounds_toArray, List.set_cons_zero, List.set_cons_succ])
    | (refine take_at (i := 0) (v := undef) rfl rfl (by kernel_rfl) (by kernel_rfl) (by kernel_rfl) (fun _ _ _ h => h) (Or.inr ⟨by rfl, rfl⟩) (by assumption) ?_
       simp only [List.setIfInBounds_toArray, List.set_cons_zero, List.set_cons_succ])
  first
    | (refine take_at (i := 1) (v := ?_) rfl rfl (by kernel_rfl) (by kernel_rfl) (by kernel_rfl) (fun _ _ _ h => h) (Or.inl ⟨by rfl, ?hy⟩) (by assumption) ?_
       case hy => (intro wz hSw; (try dsimp only at hSw); go_simp <;> with_reducible rfl)
       simp only [List.setIfInBounds_toArray, List.set_cons_zero, List.set_cons_succ])
    | (refine take_at (i := 1) (v := undef) rfl rfl (by kernel_rfl) (by kernel_rfl) (by kernel_rfl) (fun _ _ _ h => h) (Or.inr ⟨by rfl, rfl⟩) (by assumption) ?_
       simp only [List.setIfInBounds_toArray, List.set_cons_zero, List.set_cons_succ])
  first
    | (refine take_at (i := 2) (v := ?_) rfl rfl (by kernel_rfl) (by kernel_rfl) (by kernel_rfl) (fun _ _ _ h => h) (Or.inl ⟨by rfl, ?hy⟩) (by assumption) ?_
       case hy => (intro wz hSw; (try dsimp only at hSw); go_simp <;> with_reducible rfl)
       simp only [List.setIfInBounds_toArray, List.set_cons_zero, List.set_cons_succ])
    | (refine take_at (i := 2) (v := undef) rfl rfl (by kernel_rfl) (by kernel_rfl) (by kernel_rfl) (fun _ _ _ h => h) (Or.inr ⟨by rfl, rfl⟩) (by assumption) ?_
       simp only [List.setIfInBounds_toArray, List.set_cons_zero, List.set_cons_succ])
  first
    | (refine take_at (i := 3) (v := ?_) rfl rfl (by kernel_rfl) (by kernel_rfl) (by kernel_rfl) (fun _ _ _ h => h) (Or.inl ⟨by rfl, ?hy⟩) (by assumption) ?_
       case hy => (intro wz hSw; (try dsimp only at hSw); go_simp <;> with_reducible rfl)
       simp only [List.setIfInBounds_toArray, List.set_cons_zero, List.set_cons_succ])
    | (refine take_at (i := 3) (v := undef) rfl rfl (by kernel_rfl) (by kernel_rfl) (by kernel_rfl) (fun _ _ _ h => h) (Or.inr ⟨by rfl, rfl⟩) (by assumption) ?_
       simp only [List.setIfInBounds_toArray, List.set_cons_zero, List.set_cons_succ])
  first
    | (refine take_at (i := 4) (v := ?_) rfl rfl (by kernel_rfl) (by kernel_rfl) (by kernel_rfl) (fun _ _ _ h => h) (Or.inl ⟨by rfl, ?hy⟩) (by assumption) ?_
       case hy => (intro wz hSw; (try dsimp only at hSw); go_simp <;> with_reducible rfl)
       simp only [List.setIfInBounds_toArray, List.set_cons_zero, List.set_cons_succ])
    | (refine take_at (i := 4) (v := undef) rfl rfl (by kernel_rfl) (by kernel_rfl) (by kernel_rfl) (fun _ _ _ h => h) (Or.inr ⟨by rfl, rfl⟩) (by assumption) ?_
       simp only [List.setIfInBounds_toArray, List.set_cons_zero, List.set_cons_succ])
  first
    | (refine take_at (i := 5) (v := ?_) rfl rfl (by kernel_rfl) (by kernel_rfl) (by kernel_rfl) (fun _ _ _ h => h) (Or.inl ⟨by rfl, ?hy⟩) (by assumption) ?_
       case hy => (intro wz hSw; (try dsimp only at hSw); go_simp <;> with_reducible rfl)
       simp only [List.setIfInBounds_toArray, List.set_cons_zero, List.set_cons_succ])
    | (refine take_at (i := 5) (v := undef) rfl rfl (by kernel_rfl) (by kernel_rfl) (by kernel_rfl) (fun _ _ _ h => h) (Or.inr ⟨by rfl, rfl⟩) (by assumption) ?_
       simp only [List.setIfInBounds_toArray, List.set_cons_zero, List.set_cons_succ])
  first
    | (refine take_at (i := 6) (v := ?_) rfl rfl (by kernel_rfl) (by kernel_rfl) (by kernel_rfl) (fun _ _ _ h => h) (Or.inl ⟨by rfl, ?hy⟩) (by assumption) ?_
       case hy => (intro wz hSw; (try dsimp only at hSw); go_simp <;> with_reducible rfl)
       simp only [List.setIfInBounds_toArray, List.set_cons_zero, List.set_cons_succ])
    | (refine take_at (i := 6) (v := undef) rfl rfl (by kernel_rfl) (by kernel_rfl) (by kernel_rfl) (fun _ _ _ h => h) (Or.inr ⟨by rfl, rfl⟩) (by assumption) ?_
       simp only [List.setIfInBounds_toArray, List.set_cons_zero, List.set_cons_succ])
  first
    | (refine take_at (i := 7) (v := ?_) rfl rfl (by kernel_rfl) (by kernel_rfl) (by kernel_rfl) (fun _ _ _ h => h) (Or.inl ⟨by rfl, ?hy⟩) (by assumption) ?_
       case hy => (intro wz hSw; (try dsimp only at hSw); go_simp <;> with_reducible rfl)
       simp only [List.setIfInBounds_toArray, List.set_cons_zero, List.set_cons_succ])
    | (refine take_at (i := 7) (v := undef) rfl rfl (by kernel_rfl) (by kernel_rfl) (by kernel_rfl) (fun _ _ _ h => h) (Or.inr ⟨by rfl, rfl⟩) (by assumption) ?_
       simp only [List.setIfInBounds_toArray, List.set_cons_zero, List.set_cons_succ])
  first
    | (refine take_at (i := 8) (v := ?_) rfl rfl (by kernel_rfl) (by kernel_rfl) (by kernel_rfl) (fun _ _ _ h => h) (Or.inl ⟨by rfl, ?hy⟩) (by assumption) ?_
       case hy => (intro wz hSw; (try dsimp only at hSw); go_simp <;> with_reducible rfl)
       simp only [List.setIfInBounds_toArray, List.set_cons_zero, List.set_cons_succ])
    | (refine take_at (i := 8) (v := undef) rfl rfl (by kernel_rfl) (by kernel_rfl) (by kernel_rfl) (fun _ _ _ h => h) (Or.inr ⟨by rfl, rfl⟩) (by assumption) ?_
       simp only [List.setIfInBounds_toArray, List.set_cons_zero, List.set_cons_succ])
  first
    | (refine take_at (i := 9) (v := ?_) rfl rfl (by kernel_rfl) (by kernel_rfl) (by kernel_rfl) (fun _ _ _ h => h) (Or.inl ⟨by rfl, ?hy⟩) (by assumption) ?_
       case hy => (intro wz hSw; (try dsimp only at hSw); go_simp <;> with_reducible rfl)
       simp only [List.setIfInBounds_toArray, List.set_cons_zero, List.set_cons_succ])
    | (refine take_at (i := 9) (v := undef) rfl rfl (by kernel_rfl) (by kernel_rfl) (by kernel_rfl) (fun _ _ _ h => h) (Or.inr ⟨by rfl, rfl⟩) (by assumption) ?_
       simp only [List.setIfInBounds_toArray, List.set_cons_zero, List.set_cons_succ])
  first
    | (refine take_at (i := 10) (v := ?_) rfl rfl (by kernel_rfl) (by kernel_rfl) (by kernel_rfl) (fun _ _ _ h => h) (Or.inl ⟨by rfl, ?hy⟩) (by assumption) ?_
       case hy => (intro wz hSw; (try dsimp only at hSw); go_simp <;> with_reducible rfl)
       simp only [List.setIfInBounds_toArray, List.set_cons_zero, List.set_cons_succ])
    | (refine take_at (i := 10) (v := undef) rfl rfl (by kernel_rfl) (by kernel_rfl) (by kernel_rfl) (fun _ _ _ h => h) (Or.inr ⟨by rfl, rfl⟩) (by assumption) ?_
       simp only [List.setIfInBounds_toArray, List.set_cons_zero, List.set_cons_succ])
  first
    | (refine take_at (i := 11) (v := ?_) rfl rfl (by kernel_rfl) (by kernel_rfl) (by kernel_rfl) (fun _ _ _ h => h) (Or.inl ⟨by rfl, ?hy⟩) (by assumption) ?_
       case hy => (intro wz hSw; (try dsimp only at hSw); go_simp <;> with_reducible rfl)
       simp only [List.setIfInBounds_toArray, List.set_cons_zero, List.set_cons_succ])
    | (refine take_at (i := 11) (v := undef) rfl rfl (by kernel_rfl) (by kernel_rfl) (by kernel_rfl) (fun _ _ _ h => h) (Or.inr ⟨by rfl, rfl⟩) (by assumption) ?_
       simp only [List.setIfInBounds_toArray, List.set_cons_zero, List.set_cons_succ])
  first
    | (refine take_at (i := 12) (v := ?_) rfl rfl (by kernel_rfl) (by kernel_rfl) (by kernel_rfl) (fun _ _ _ h => h) (Or.inl ⟨by rfl, ?hy⟩) (by assumption) ?_
       case hy => (intro wz hSw; (try dsimp only at hSw); go_simp <;> with_reducible rfl)
       simp only [List.setIfInBounds_toArray, List.set_cons_zero, List.set_cons_succ])
    | (refine take_at (i := 12) (v := undef) rfl rfl (by kernel_rfl) (by kernel_rfl) (by kernel_rfl) (fun _ _ _ h => h) (Or.inr ⟨by rfl, rfl⟩) (by assumption) ?_
       simp only [List.setIfInBounds_toArray, List.set_cons_zero, List.set_cons_succ])
  first
    | (refine take_at (i := 13) (v := ?_) rfl rfl (by kernel_rfl) (by kernel_rfl) (by kernel_rfl) (fun _ _ _ h => h) (Or.inl ⟨by rfl, ?hy⟩) (by assumption) ?_
       case hy => (intro wz hSw; (try dsimp only at hSw); go_simp <;> with_reducible rfl)
       simp only [List.setIfInBounds_toArray, List.set_cons_zero, List.set_cons_succ])
    | (refine take_at (i := 13) (v := undef) rfl rfl (by kernel_rfl) (by kernel_rfl) (by kernel_rfl) (fun _ _ _ h => h) (Or.inr ⟨by rfl, rfl⟩) (by assumption) ?_
       simp only [List.setIfInBounds_toArray, List.set_cons_zero, List.set_cons_succ])
  first
    | (refine take_at (i := 14) (v := ?_) rfl rfl (by kernel_rfl) (by kernel_rfl) (by kernel_rfl) (fun _ _ _ h => h) (Or.inl ⟨by rfl, ?hy⟩) (by assumption) ?_
       case hy => (intro wz hSw; (try dsimp only at hSw); go_simp <;> with_reducible rfl)
       simp only [List.setIfInBounds_toArray, List.set_cons_zero, List.set_cons_succ])
    | (refine take_at (i := 14) (v := undef) rfl rfl (by kernel_rfl) (by kernel_rfl) (by kernel_rfl) (fun _ _ _ h => h) (Or.inr ⟨by rfl, rfl⟩) (by assumption) ?_
       simp only [List.setIfInBounds_toArray, List.set_cons_zero, List.set_cons_succ])
  first
    | (refine take_at (i := 15) (v := ?_) rfl rfl (by kernel_rfl) (by kernel_rfl) (by kernel_rfl) (fun _ _ _ h => h) (Or.inl ⟨by rfl, ?hy⟩) (by assumption) ?_
       case hy => (intro wz hSw; (try dsimp only at hSw); go_simp <;> with_reducible rfl)
       simp only [List.setIfInBounds_toArray, List.set_cons_zero, List.set_cons_succ])
    | (refine take_at (i := 15) (v := undef) rfl rfl (by kernel_rfl) (by kernel_rfl) (by kernel_rfl) (fun _ _ _ h => h) (Or.inr ⟨by rfl, rfl⟩) (by assumption) ?_
       simp only [List.setIfInBounds_toArray, List.set_cons_zero, List.set_cons_succ])
  first
    | (refine take_at (i := 16) (v := ?_) rfl rfl (by kernel_rfl) (by kernel_rfl) (by kernel_rfl) (fun _ _ _ h => h) (Or.inl ⟨by rfl, ?hy⟩) (by assumption) ?_
       case hy => (intro wz hSw; (try dsimp only at hSw); go_simp <;> with_reducible rfl)
       simp only [List.setIfInBounds_toArray, List.set_cons_zero, List.set_cons_succ])
    | (refine take_at (i := 16) (v := undef) rfl rfl (by kernel_rfl) (by kernel_rfl) (by kernel_rfl) (fun _ _ _ h => h) (Or.inr ⟨by rfl, rfl⟩) (by assumption) ?_
       simp only [List.setIfInBounds_toArray, List.set_cons_zero, List.set_cons_succ])
  refine call_at (i := 17) (F := 37) (fits32 y.C (F t).Fr (F t).N L _) rfl rfl (by kernel_rfl) (by rfl) (by first | rfl | (go_simp <;> rfl)) ?_
  rintro e w' ⟨rfl, rfl⟩
  refine ⟨_, rfl, by assumption, ?_⟩
  simp only [List.setIfInBounds_toArray, List.set_cons_zero, List.set_cons_succ]
  first
    | (refine take_at (i := 18) (v := ?_) rfl rfl (by kernel_rfl) (by kernel_rfl) (by kernel_rfl) (fun _ _ _ h => h) (Or.inl ⟨by rfl, ?hy⟩) (by assumption) ?_
       case hy => (intro wz hSw; (try dsimp only at hSw); go_simp <;> with_reducible rfl)
       simp only [List.setIfInBounds_toArray, List.set_cons_zero, List.set_cons_succ])
    | (refine take_at (i := 18) (v := undef) rfl rfl (by kernel_rfl) (by kernel_rfl) (by kernel_rfl) (fun _ _ _ h => h) (Or.inr ⟨by rfl, rfl⟩) (by assumption) ?_
       simp only [List.setIfInBounds_toArray, List.set_cons_zero, List.set_cons_succ])
  refine wpAnyH_done (by kernel_rfl) ?_ _
  have HX := Lib.hid (Ext.drew (Ext.refl w))
  clear k1 k2 k3 k4
  go_wp2
  first
    | exact ⟨rfl, HX.out⟩
    | (go_ret; exact ⟨rfl, HX.out⟩)
set_option maxRecDepth 100000 in
/-- an event of a thread -/
theorem soNote32 {W0 w0 w : World} {lv0 vL0 : Value} {b g sb lb : Nat} {y : LY} {f : Nat → Int} {lv : Value} {log : List Acc} {ups : List (List Int)} {su ev : Value} {xs : List Int} {N L : Int} {vL : Value} {EL : List Ev} {fb n t : Nat} {F : Nat → Fm} (h : Run32 W0 w0 w lv0 vL0 b g sb lb y f lv log ups su ev xs N L vL EL fb n F) (ht : t * 11 + 11 ≤ n) (kind th : Int) (hl : EL.length ≤ 900000) (h0 : 0 ≤ (F t).Fr ∧ (F t).Fr < 4294967296) :
    Calls Tryz.prog 89 #[.pointer (some ⟨sb, 0, none⟩), .int .i64 kind, .int .i64 th, .pointer (some ⟨fb, t * 11, none⟩)] w fun e w' => e = .returned (.tuple #[]) ∧ ∃ vL2, Run32 W0 w0 w' lv0 vL0 b g sb lb y f lv log ups su ev xs N L vL2 (EL ++ [⟨kind, th, 0, (F t).N, (F t).Fr, 0, []⟩]) fb n F := by
  have c1 : w.cell? ⟨fb, t * 11 + 1, none⟩ = some (.int .i64 (F t).N) := (h.F.at_ ht 1 (by decide)).1
  have c6 : w.cell? ⟨fb, t * 11 + 6, none⟩ = some (.int .u32 (F t).Fr) := (h.F.at_ ht 6 (by decide)).1
  have s1 := h.T.S.q1
  have CN := Lib.hid (fun w' (hx : Ext w w') => eNoteB (B := 0) W0 w' lb vL EL ⟨kind, th, 0, (F t).N, (F t).Fr, 0, []⟩ (.slice none 0 0) (h.ext hx).T.G (h.T.X.trans hx) (dat_none _ _) hl (by simp))
  unfold evA at CN
  have HG : Hid (∀ w2 w', Ext w w2 → NoteB W0 w2 lb vL (EL ++ [⟨kind, th, 0, (F t).N, (F t).Fr, 0, []⟩]) (.returned (.tuple #[])) w' → ∃ vL2, Run32 W0 w0 w' lv0 vL0 b g sb lb y f lv log ups su ev xs N L vL2 (EL ++ [⟨kind, th, 0, (F t).N, (F t).Fr, 0, []⟩]) fb n F) := Lib.hid (fun w2 w' hx ⟨_, v2, h1, h2, h3⟩ => ⟨v2, (h.ext hx).note h1 h2 h3⟩)
  have CU := Lib.hid (fun w => upU32 (F t).Fr w h0.1 h0.2)
  generalize t * 11 = o at *
  generalize (F t).N = nn at *
  generalize (F t).Fr = fr at *
  clear h ht
  go_enter Tryz.func89, Tryz.ntmps89
  go_upto_region 0 with (fail)
  have k1 := fun w' (hx : Ext w w') => hx.cell c1
  have k2 := fun w' (hx : Ext w w') => hx.cell c6
  have k3 := fun w' (hx : Ext w w') => hx.cell s1
  refine wp_region_D (fun i => decide (i ≤ 15)) (by kernel_rfl) ?_
  refine take_D (i := 0) (v := ?_) rfl rfl rfl (by kernel_rfl) (by kernel_rfl) (by kernel_rfl) (by kernel_rfl) (by kernel_rfl) (((Ext.refl w).drew)) ?hyp ?_
  case hyp => intro wz hSw; (try dsimp only at hSw); go_simp <;> with_reducible rfl
  simp only [List.setIfInBounds_toArray, List.set_cons_zero, List.set_cons_succ]
  refine take_D (i := 1) (v := ?_) rfl rfl rfl (by kernel_rfl) (by kernel_rfl) (by kernel_rfl) (by kernel_rfl) (by kernel_rfl) (((Ext.refl w).drew)) ?hyp ?_
  case hyp => intro wz hSw; (try dsimp only at hSw); go_simp <;> with_reducible rfl
  simp only [List.setIfInBounds_toArray, List.set_cons_zero, List.set_cons_succ]
  refine take_D (i := 2) (v := ?_) rfl rfl rfl (by kernel_rfl) (by kernel_rfl) (by kernel_rfl) (by kernel_rfl) (by kernel_rfl) (((Ext.refl w).drew)) ?hyp ?_
  case hyp => intro wz hSw; (try dsimp only at hSw); go_simp <;> with_reducible rfl
  simp only [List.setIfInBounds_toArray, List.set_cons_zero, List.set_cons_succ]
  refine take_D (i := 3) (v := ?_) rfl rfl rfl (by kernel_rfl) (by kernel_rfl) (by kernel_rfl) (by kernel_rfl) (by kernel_rfl) (((Ext.refl w).drew)) ?hyp ?_
  case hyp => intro wz hSw; (try dsimp only at hSw); go_simp <;> with_reducible rfl
  simp only [List.setIfInBounds_toArray, List.set_cons_zero, List.set_cons_succ]
  refine take_D (i := 4) (v := ?_) rfl rfl rfl (by kernel_rfl) (by kernel_rfl) (by kernel_rfl) (by kernel_rfl) (by kernel_rfl) (((Ext.refl w).drew)) ?hyp ?_
  case hyp => intro wz hSw; (try dsimp only at hSw); go_simp <;> with_reducible rfl
  simp only [List.setIfInBounds_toArray, List.set_cons_zero, List.set_cons_succ]
  refine take_D (i := 5) (v := ?_) rfl rfl rfl (by kernel_rfl) (by kernel_rfl) (by kernel_rfl) (by kernel_rfl) (by kernel_rfl) (((Ext.refl w).drew)) ?hyp ?_
  case hyp => intro wz hSw; (try dsimp only at hSw); go_simp <;> with_reducible rfl
  simp only [List.setIfInBounds_toArray, List.set_cons_zero, List.set_cons_succ]
  refine take_D (i := 6) (v := ?_) rfl rfl rfl (by kernel_rfl) (by kernel_rfl) (by kernel_rfl) (by kernel_rfl) (by kernel_rfl) (((Ext.refl w).drew)) ?hyp ?_
  case hyp => intro wz hSw; (try dsimp only at hSw); go_simp <;> with_reducible rfl
  simp only [List.setIfInBounds_toArray, List.set_cons_zero, List.set_cons_succ]
  refine take_D (i := 7) (v := ?_) rfl rfl rfl (by kernel_rfl) (by kernel_rfl) (by kernel_rfl) (by kernel_rfl) (by kernel_rfl) (((Ext.refl w).drew)) ?hyp ?_
  case hyp => intro wz hSw; (try dsimp only at hSw); go_simp <;> with_reducible rfl
  simp only [List.setIfInBounds_toArray, List.set_cons_zero, List.set_cons_succ]
  refine take_D (i := 8) (v := ?_) rfl rfl rfl (by kernel_rfl) (by kernel_rfl) (by kernel_rfl) (by kernel_rfl) (by kernel_rfl) (((Ext.refl w).drew)) ?hyp ?_
  case hyp => intro wz hSw; (try dsimp only at hSw); go_simp <;> with_reducible rfl
  simp only [List.setIfInBounds_toArray, List.set_cons_zero, List.set_cons_succ]
  refine take_D (i := 9) (v := ?_) rfl rfl rfl (by kernel_rfl) (by kernel_rfl) (by kernel_rfl) (by kernel_rfl) (by kernel_rfl) (((Ext.refl w).drew)) ?hyp ?_
  case hyp => intro wz hSw; (try dsimp only at hSw); go_simp <;> with_reducible rfl
  simp only [List.setIfInBounds_toArray, List.set_cons_zero, List.set_cons_succ]
  refine take_D (i := 11) (v := ?_) rfl rfl rfl (by kernel_rfl) (by kernel_rfl) (by kernel_rfl) (by kernel_rfl) (by kernel_rfl) (((Ext.refl w).drew)) ?hyp ?_
  case hyp => intro wz hSw; (try dsimp only at hSw); go_simp <;> with_reducible rfl
  simp only [List.setIfInBounds_toArray, List.set_cons_zero, List.set_cons_succ]
  refine take_D (i := 12) (v := ?_) rfl rfl rfl (by kernel_rfl) (by kernel_rfl) (by kernel_rfl) (by kernel_rfl) (by kernel_rfl) (((Ext.refl w).drew)) ?hyp ?_
  case hyp => intro wz hSw; (try dsimp only at hSw); go_simp <;> with_reducible rfl
  simp only [List.setIfInBounds_toArray, List.set_cons_zero, List.set_cons_succ]
  refine take_D (i := 13) (v := ?_) rfl rfl rfl (by kernel_rfl) (by kernel_rfl) (by kernel_rfl) (by kernel_rfl) (by kernel_rfl) (((Ext.refl w).drew)) ?hyp ?_
  case hyp => intro wz hSw; (try dsimp only at hSw); go_simp <;> with_reducible rfl
  simp only [List.setIfInBounds_toArray, List.set_cons_zero, List.set_cons_succ]
  refine take_D (i := 14) (v := ?_) rfl rfl rfl (by kernel_rfl) (by kernel_rfl) (by kernel_rfl) (by kernel_rfl) (by kernel_rfl) (((Ext.refl w).drew)) ?hyp ?_
  case hyp => intro wz hSw; (try dsimp only at hSw); go_simp <;> with_reducible rfl
  simp only [List.setIfInBounds_toArray, List.set_cons_zero, List.set_cons_succ]
  refine step_D (i := 10) rfl (by kernel_rfl) ?_
  go_wp2_with fail
  refine (CU.out _).mono ?_
  rintro e w' ⟨rfl, rfl⟩
  go_wp2
  refine ⟨(Ext.refl w).drew, ?_⟩
  try simp only [List.setIfInBounds_toArray, List.set_cons_zero, List.set_cons_succ]
  refine take_D (i := 15) (v := ?_) rfl rfl rfl (by kernel_rfl) (by kernel_rfl) (by kernel_rfl) (by kernel_rfl) (by kernel_rfl) (((Ext.refl w).drew)) ?hyp ?_
  case hyp => intro wz hSw; (try dsimp only at hSw); go_simp <;> with_reducible rfl
  simp only [List.setIfInBounds_toArray, List.set_cons_zero, List.set_cons_succ]
  refine rest_D (n := 16) rfl rfl (fun j hj => by simp; omega) (by kernel_rfl) ?_
  clear k1 k2 k3
  go_wp2_with fail
  refine (CN.out _ ((Ext.refl w).drew)).mono ?_
  rintro e w2 hN
  have he := hN.1
  subst he
  have HN := Lib.hid (HG.out _ w2 ((Ext.refl w).drew) hN)
  clear hN
  go_wp2
  refine off_normal ?_
  go_wp2
  refine bodyPost_end (v := .tuple #[]) (by simp [results, Tryz.results89, go_sem]) rfl ?_
  exact ⟨rfl, HN.out⟩
set_option maxRecDepth 100000 in
theorem LayoutO64 (b g : Nat) (y : LY) (f : Nat → Int) (lv : Value) (log : List Acc) (ups : List (List Int)) (w : World) (hB : BD w 152 b g y f lv log) (hL : ListsV w (.slice y.a y.n y.cap) ups) (hll : ∀ l ∈ ups, l.length ≤ 1000000) (hn : ups.length ≤ 1000000) (hg : ckC y.V y.W y.C y.P ups = 0)
    (hy : ∀ u, layV y.V y.W y.C y.P y.S u ups.length = (.agg #[.int .i64 (y.V), .int .i64 (y.W), .int .i64 (y.C), .int .i64 (y.P), .int .u64 (y.S), u, .int .i64 (y.Cu), .int .i64 (y.Cl), .int .i64 (y.Ti), .int .i64 (y.Se), .int .i64 (y.Ne), .int .i64 (y.Ma), .int .i64 (y.Sl), .int .i64 (y.m)])) :
    Calls Tryz.prog 93 #[.pointer (some ⟨b, 0, none⟩)] w (LayO y ups w) := by
  have CO := Lib.hid (fun w' (hx : Ext w w') => lOf_ok y.V y.W y.C y.P y.S _ ups w' (hL.ext hx) hll hn hg)
  have HY := Lib.hid hy
  have q0 := hB.q0
  have q1 := hB.q1
  have q2 := hB.q2
  have q3 := hB.q3
  have q4 := hB.q4
  have q5 := hB.q5
  have HG : Hid (∀ (b2 n : Nat) w', OwnL w' (.slice (some ⟨b2, 0, none⟩) n n) ups → Ext w w' → LayO y ups w (.returned (.agg #[.int .i64 (y.V), .int .i64 (y.W), .int .i64 (y.C), .int .i64 (y.P), .int .u64 (y.S), .slice (some ⟨b2, 0, none⟩) n n, .int .i64 (y.Cu), .int .i64 (y.Cl), .int .i64 (y.Ti), .int .i64 (y.Se), .int .i64 (y.Ne), .int .i64 (y.Ma), .int .i64 (y.Sl), .int .i64 (y.m)])) w') := Lib.hid (fun b2 n w' h1 h2 => ⟨_, rfl, h1, h2⟩)
  generalize LayO y ups w = G at *
  have hbw := World.block_lt_of_cell? w ⟨b, 0, none⟩ q0
  obtain ⟨V, W, C, P, S, a, n, cap, Cu, Cl, Ti, Se, Ne, Ma, Sl, m⟩ := y
  dsimp only at CO HY HG q0 q1 q2 q3 q4 q5
  clear hB hL hll hg hy hn
  go_enter Tryz.func93, Tryz.ntmps93
  go_wp2_with fail
  refine (CO.out _ ((Ext.refl w).alloc _)).mono ?_
  rintro e wo ⟨uo, rfl, Oo, Xo⟩
  obtain ⟨bo, fo, cuo, eo, -⟩ := id Oo
  rw [HY.out]
  subst eo
  have qr_0 : wo.cell? ⟨w.heap.size, 0, none⟩ = some (.int .i64 0) := Xo.cell (by simp [go_sem])
  have zr_0 : wo.frozen? ⟨w.heap.size, 0, none⟩ = false := Xo.frozen (v := .int .i64 0) (by simp [go_sem]) (by simp [go_sem])
  have qr_1 : wo.cell? ⟨w.heap.size, 1, none⟩ = some (.int .i64 0) := Xo.cell (by simp [go_sem])
  have zr_1 : wo.frozen? ⟨w.heap.size, 1, none⟩ = false := Xo.frozen (v := .int .i64 0) (by simp [go_sem]) (by simp [go_sem])
  have qr_2 : wo.cell? ⟨w.heap.size, 2, none⟩ = some (.int .i64 0) := Xo.cell (by simp [go_sem])
  have zr_2 : wo.frozen? ⟨w.heap.size, 2, none⟩ = false := Xo.frozen (v := .int .i64 0) (by simp [go_sem]) (by simp [go_sem])
  have qr_3 : wo.cell? ⟨w.heap.size, 3, none⟩ = some (.int .i64 0) := Xo.cell (by simp [go_sem])
  have zr_3 : wo.frozen? ⟨w.heap.size, 3, none⟩ = false := Xo.frozen (v := .int .i64 0) (by simp [go_sem]) (by simp [go_sem])
  have qr_4 : wo.cell? ⟨w.heap.size, 4, none⟩ = some (.int .u64 0) := Xo.cell (by simp [go_sem])
  have zr_4 : wo.frozen? ⟨w.heap.size, 4, none⟩ = false := Xo.frozen (v := .int .u64 0) (by simp [go_sem]) (by simp [go_sem])
  have qr_5 : wo.cell? ⟨w.heap.size, 5, none⟩ = some (.slice none 0 0) := Xo.cell (by simp [go_sem])
  have zr_5 : wo.frozen? ⟨w.heap.size, 5, none⟩ = false := Xo.frozen (v := .slice none 0 0) (by simp [go_sem]) (by simp [go_sem])
  have qr_6 : wo.cell? ⟨w.heap.size, 6, none⟩ = some (.int .i64 0) := Xo.cell (by simp [go_sem])
  have zr_6 : wo.frozen? ⟨w.heap.size, 6, none⟩ = false := Xo.frozen (v := .int .i64 0) (by simp [go_sem]) (by simp [go_sem])
  have qr_7 : wo.cell? ⟨w.heap.size, 7, none⟩ = some (.int .i64 0) := Xo.cell (by simp [go_sem])
  have zr_7 : wo.frozen? ⟨w.heap.size, 7, none⟩ = false := Xo.frozen (v := .int .i64 0) (by simp [go_sem]) (by simp [go_sem])
  have qr_8 : wo.cell? ⟨w.heap.size, 8, none⟩ = some (.int .i64 0) := Xo.cell (by simp [go_sem])
  have zr_8 : wo.frozen? ⟨w.heap.size, 8, none⟩ = false := Xo.frozen (v := .int .i64 0) (by simp [go_sem]) (by simp [go_sem])
  have qr_9 : wo.cell? ⟨w.heap.size, 9, none⟩ = some (.int .i64 0) := Xo.cell (by simp [go_sem])
  have zr_9 : wo.frozen? ⟨w.heap.size, 9, none⟩ = false := Xo.frozen (v := .int .i64 0) (by simp [go_sem]) (by simp [go_sem])
  have qr_10 : wo.cell? ⟨w.heap.size, 10, none⟩ = some (.int .i64 0) := Xo.cell (by simp [go_sem])
  have zr_10 : wo.frozen? ⟨w.heap.size, 10, none⟩ = false := Xo.frozen (v := .int .i64 0) (by simp [go_sem]) (by simp [go_sem])
  have qr_11 : wo.cell? ⟨w.heap.size, 11, none⟩ = some (.int .i64 0) := Xo.cell (by simp [go_sem])
  have zr_11 : wo.frozen? ⟨w.heap.size, 11, none⟩ = false := Xo.frozen (v := .int .i64 0) (by simp [go_sem]) (by simp [go_sem])
  have qr_12 : wo.cell? ⟨w.heap.size, 12, none⟩ = some (.int .i64 0) := Xo.cell (by simp [go_sem])
  have zr_12 : wo.frozen? ⟨w.heap.size, 12, none⟩ = false := Xo.frozen (v := .int .i64 0) (by simp [go_sem]) (by simp [go_sem])
  have qr_13 : wo.cell? ⟨w.heap.size, 13, none⟩ = some (.int .i64 0) := Xo.cell (by simp [go_sem])
  have zr_13 : wo.frozen? ⟨w.heap.size, 13, none⟩ = false := Xo.frozen (v := .int .i64 0) (by simp [go_sem]) (by simp [go_sem])
  have TR : Tag wo w.heap.size 31 := (Tag.new w _ _).ext Xo
  have xo : Ext w wo := Ext.trans ((Ext.refl w).alloc _) Xo
  have po := World.block_lt_of_cell? _ ⟨w.heap.size, 0, none⟩ qr_0
  have ro := Nat.lt_succ_of_lt po
  have HOo := Lib.hid Oo
  generalize hN : ups.length = N at *
  clear Xo Oo q0 q1 q2 q3 q4 q5
  go_upto_region 4 with (fail)
  refine settle_wp ?_
  intro w3 hb3
  have l_0 : w3.cell? ⟨wo.heap.size, 0, none⟩ = some (.int .i64 V) := hb3.cell (by simp [go_sem])
  have l_1 : w3.cell? ⟨wo.heap.size, 1, none⟩ = some (.int .i64 W) := hb3.cell (by simp [go_sem])
  have l_2 : w3.cell? ⟨wo.heap.size, 2, none⟩ = some (.int .i64 C) := hb3.cell (by simp [go_sem])
  have l_3 : w3.cell? ⟨wo.heap.size, 3, none⟩ = some (.int .i64 P) := hb3.cell (by simp [go_sem])
  have l_4 : w3.cell? ⟨wo.heap.size, 4, none⟩ = some (.int .u64 S) := hb3.cell (by simp [go_sem])
  have l_5 : w3.cell? ⟨wo.heap.size, 5, none⟩ = some (.slice (some ⟨bo, 0, none⟩) N N) := hb3.cell (by simp [go_sem])
  have l_6 : w3.cell? ⟨wo.heap.size, 6, none⟩ = some (.int .i64 Cu) := hb3.cell (by simp [go_sem])
  have l_7 : w3.cell? ⟨wo.heap.size, 7, none⟩ = some (.int .i64 Cl) := hb3.cell (by simp [go_sem])
  have l_8 : w3.cell? ⟨wo.heap.size, 8, none⟩ = some (.int .i64 Ti) := hb3.cell (by simp [go_sem])
  have l_9 : w3.cell? ⟨wo.heap.size, 9, none⟩ = some (.int .i64 Se) := hb3.cell (by simp [go_sem])
  have l_10 : w3.cell? ⟨wo.heap.size, 10, none⟩ = some (.int .i64 Ne) := hb3.cell (by simp [go_sem])
  have l_11 : w3.cell? ⟨wo.heap.size, 11, none⟩ = some (.int .i64 Ma) := hb3.cell (by simp [go_sem])
  have l_12 : w3.cell? ⟨wo.heap.size, 12, none⟩ = some (.int .i64 Sl) := hb3.cell (by simp [go_sem])
  have l_13 : w3.cell? ⟨wo.heap.size, 13, none⟩ = some (.int .i64 m) := hb3.cell (by simp [go_sem])
  have x3 := Ext.trans ((Ext.refl wo).alloc _) hb3
  have y_0 := x3.frozen qr_0 zr_0
  have r_0 := x3.cell qr_0
  have y_1 := x3.frozen qr_1 zr_1
  have r_1 := x3.cell qr_1
  have y_2 := x3.frozen qr_2 zr_2
  have r_2 := x3.cell qr_2
  have y_3 := x3.frozen qr_3 zr_3
  have r_3 := x3.cell qr_3
  have y_4 := x3.frozen qr_4 zr_4
  have r_4 := x3.cell qr_4
  have y_5 := x3.frozen qr_5 zr_5
  have r_5 := x3.cell qr_5
  have y_6 := x3.frozen qr_6 zr_6
  have r_6 := x3.cell qr_6
  have y_7 := x3.frozen qr_7 zr_7
  have r_7 := x3.cell qr_7
  have y_8 := x3.frozen qr_8 zr_8
  have r_8 := x3.cell qr_8
  have y_9 := x3.frozen qr_9 zr_9
  have r_9 := x3.cell qr_9
  have y_10 := x3.frozen qr_10 zr_10
  have r_10 := x3.cell qr_10
  have y_11 := x3.frozen qr_11 zr_11
  have r_11 := x3.cell qr_11
  have y_12 := x3.frozen qr_12 zr_12
  have r_12 := x3.cell qr_12
  have y_13 := x3.frozen qr_13 zr_13
  have r_13 := x3.cell qr_13
  have HT3 := Lib.hid (TR.ext x3)
  have HE3 := Lib.hid (xo.trans x3)
  have HO3 := Lib.hid (HOo.out.ext x3)
  clear hb3 x3 xo TR po ro qr_0 zr_0 qr_1 zr_1 qr_2 zr_2 qr_3 zr_3 qr_4 zr_4 qr_5 zr_5 qr_6 zr_6 qr_7 zr_7 qr_8 zr_8 qr_9 zr_9 qr_10 zr_10 qr_11 zr_11 qr_12 zr_12 qr_13 zr_13
  go_wp2
  refine bodyPost_ret (v := (.agg #[.int .i64 V, .int .i64 W, .int .i64 C, .int .i64 P, .int .u64 S, .slice (some ⟨bo, 0, none⟩) N N, .int .i64 Cu, .int .i64 Cl, .int .i64 Ti, .int .i64 Se, .int .i64 Ne, .int .i64 Ma, .int .i64 Sl, .int .i64 m])) (by simp [results, Tryz.results93, go_sem, r_0, r_1, r_2, r_3, r_4, r_5, r_6, r_7, r_8, r_9, r_10, r_11, r_12, r_13]) rfl (HG.out bo N _ ?own ?ext)
  case own => repeat (any_goals (first | with_reducible exact HO3.out | with_reducible exact HT3.out | with_reducible refine Tag.set ?_ | with_reducible refine OwnL.set (t := 31) ?_ ?_ (by decide) (by decide)))
  case ext =>
    have E3 := HE3.out
    repeat (first | with_reducible exact Ext.refl _ | with_reducible assumption | with_reducible refine Ext.alloc ?_ _ | with_reducible refine Ext.drew ?_ | with_reducible refine Ext.drewN ?_ _ | with_reducible refine Ext.setCell ?_ (by simp <;> omega) _ | with_reducible refine Ext.trans ?_ (by assumption))
theorem FB64.at_ {W0 w : World} {b g sb lb : Nat} {lv vL : Value} {fb n t : Nat} {F : Nat → Fm} (h : FB64 W0 w b g sb lb lv vL fb n F) (ht : t * 11 + 11 ≤ n) (j : Nat) (hj : j < 11) : w.cell? ⟨fb, t * 11 + j, none⟩ = some (fmc64 (F t) j) ∧ w.frozen? ⟨fb, t * 11 + j, none⟩ = false := by
  have h1 := h.a.c (t * 11 + j) (by omega)
  rw [fmV64_at F t j hj] at h1
  exact ⟨h1, h.a.z (t * 11 + j) (by omega)⟩
theorem va_fm64 {w : World} {fb n t : Nat} {F : Nat → Fm} (h : VA n w fb (fmV64 F)) (ht : t * 11 + 11 ≤ n) {j : Nat} (hj : j < 11) {x : Fm} {v : Value} (hv : v = fmc64 x j) (hne : ∀ i, i < 11 → i ≠ j → fmc64 x i = fmc64 (F t) i) : VA n (w.setCell ⟨fb, t * 11 + j, none⟩ v) fb (fmV64 (updF F t x)) := by
  refine (va_set h v (show t * 11 + j < n by omega)).congr fun i hi => ?_
  by_cases e : i = t * 11 + j
  · subst e
    rw [if_pos rfl, fmV64_at _ t j hj, hv]
    simp [updF]
  · rw [if_neg e]
    by_cases ho : i < t * 11 ∨ t * 11 + 11 ≤ i
    · rw [fmV64_out F t x i ho]
    · obtain ⟨k, hk, rfl⟩ : ∃ k, k < 11 ∧ i = t * 11 + k := ⟨i - t * 11, by omega, by omega⟩
      rw [fmV64_at _ t k hk, fmV64_at _ t k hk]
      have : updF F t x t = x := if_pos rfl
      rw [this]
      exact (hne k hk (fun e2 => e (by rw [e2]))).symm
/-- a state that goes on from w0 -/
structure Run64 (W0 w0 w : World) (lv0 vL0 : Value) (b g sb lb : Nat) (y : LY) (f : Nat → Int) (lv : Value) (log : List Acc) (ups : List (List Int)) (su ev : Value) (xs : List Int) (N L : Int) (vL : Value) (EL : List Ev) (fb n : Nat) (F : Nat → Fm) : Prop where
  T : ST64 W0 w b g sb lb y f lv log ups su ev xs N L vL EL
  F : FB64 W0 w b g sb lb lv vL fb n F
  N : But (fun k => Mine b g lv0 sb lb vL0 k ∨ k = fb) w0 w
  A : lv.ownBlock = lv0.ownBlock ∨ ∃ j, lv.ownBlock = some j ∧ w0.heap.size ≤ j
  AL : vL.ownBlock = vL0.ownBlock ∨ ∃ j, vL.ownBlock = some j ∧ w0.heap.size ≤ j
section
variable {W0 w0 w w' : World} {lv0 vL0 : Value} {b g sb lb : Nat} {y : LY} {f f2 : Nat → Int} {lv lv2 : Value} {log log2 : List Acc} {ups : List (List Int)} {su ev : Value} {xs : List Int} {N L : Int} {vL : Value} {EL : List Ev} {fb n : Nat} {F F2 : Nat → Fm}
theorem Run64.start (h : ST64 W0 w b g sb lb y f lv log ups su ev xs N L vL EL) (hF : FB64 W0 w b g sb lb lv vL fb n F) : Run64 W0 w w lv vL b g sb lb y f lv log ups su ev xs N L vL EL fb n F :=
  ⟨h, hF, But.refl _ _, .inl rfl, .inl rfl⟩
theorem Run64.ext (h : Run64 W0 w0 w lv0 vL0 b g sb lb y f lv log ups su ev xs N L vL EL fb n F) (hx : Ext w w') : Run64 W0 w0 w' lv0 vL0 b g sb lb y f lv log ups su ev xs N L vL EL fb n F :=
  ⟨h.T.ext hx, h.F.ext hx, h.N.trans (hx.but _), h.A, h.AL⟩
/-- a register is written -/
theorem Run64.setF (h : Run64 W0 w0 w lv0 vL0 b g sb lb y f lv log ups su ev xs N L vL EL fb n F) {t j : Nat} (ht : t * 11 + 11 ≤ n) (hj : j < 11) {x : Fm} {v : Value} (hv : v = fmc64 x j) (hne : ∀ i, i < 11 → i ≠ j → fmc64 x i = fmc64 (F t) i) : Run64 W0 w0 (w.setCell ⟨fb, t * 11 + j, none⟩ v) lv0 vL0 b g sb lb y f lv log ups su ev xs N L vL EL fb n (updF F t x) := by
  have hN := but_setCell w ⟨fb, t * 11 + j, none⟩ v
  refine ⟨h.T.but hN (fun k hk e => h.F.m (by rw [← show k = fb from hk]; exact e)) (fun k hk _ => by rw [show k = fb from hk]; exact ⟨h.F.w0, h.F.o⟩), ⟨va_fm64 h.F.a ht hj hv hne, h.F.o.set, h.F.m, h.F.w0, Nat.lt_of_lt_of_le h.F.l hN.size⟩, h.N.trans (hN.mono fun _ _ e => .inr e), h.A, h.AL⟩
theorem Run64.setN (h : Run64 W0 w0 w lv0 vL0 b g sb lb y f lv log ups su ev xs N L vL EL fb n F) (N' : Int) : Run64 W0 w0 (w.setCell ⟨sb, 10, none⟩ (.int .u64 N')) lv0 vL0 b g sb lb y f lv log ups su ev xs N' L vL EL fb n F := by
  have hN := but_setCell w ⟨sb, 10, none⟩ (.int .u64 N')
  exact ⟨h.T.stepS (h.T.S.setN N') hN, h.F.step hN (fun k hk => .inl (.inr (.inl hk))) (.inl rfl) (.inl rfl), h.N.trans (hN.mono fun _ _ e => .inl (.inr (.inl e))), h.A, h.AL⟩
theorem Run64.setL (h : Run64 W0 w0 w lv0 vL0 b g sb lb y f lv log ups su ev xs N L vL EL fb n F) (L' : Int) : Run64 W0 w0 (w.setCell ⟨sb, 11, none⟩ (.int .u64 L')) lv0 vL0 b g sb lb y f lv log ups su ev xs N L' vL EL fb n F := by
  have hN := but_setCell w ⟨sb, 11, none⟩ (.int .u64 L')
  exact ⟨h.T.stepS (h.T.S.setL L') hN, h.F.step hN (fun k hk => .inl (.inr (.inl hk))) (.inl rfl) (.inl rfl), h.N.trans (hN.mono fun _ _ e => .inl (.inr (.inl e))), h.A, h.AL⟩
/-- an access, which may write registers -/
theorem Run64.board (h : Run64 W0 w0 w lv0 vL0 b g sb lb y f lv log ups su ev xs N L vL EL fb n F) (hB : BD w' 152 b g y f2 lv2 log2) (hN : But (fun k => Own b g lv k ∨ k = fb) w w') (hA : lv2.ownBlock = lv.ownBlock ∨ ∃ j, lv2.ownBlock = some j ∧ w.heap.size ≤ j) (hF : VA n w' fb (fmV64 F2)) (ho : Odd w' fb) : Run64 W0 w0 w' lv0 vL0 b g sb lb y f2 lv2 log2 ups su ev xs N L vL EL fb n F2 := by
  have hs := h.N.size
  refine ⟨h.T.stepB hB hN h.F.m h.F.o h.F.w0 hA, ⟨hF, ho, mine_out h.F.m h.F.l hA (.inl rfl), h.F.w0, Nat.lt_of_lt_of_le h.F.l hN.size⟩, h.N.trans2 hN (fun i hi e => ?_), own_on h.A hs hA, h.AL⟩
  rcases e with e | e
  · exact .inl (mine_back (.inl e) hi h.A h.AL)
  · exact .inr e
theorem Run64.boardB (h : Run64 W0 w0 w lv0 vL0 b g sb lb y f lv log ups su ev xs N L vL EL fb n F) (hB : BD w' 152 b g y f2 lv2 log2) (hN : But (Own b g lv) w w') (hA : lv2.ownBlock = lv.ownBlock ∨ ∃ j, lv2.ownBlock = some j ∧ w.heap.size ≤ j) : Run64 W0 w0 w' lv0 vL0 b g sb lb y f2 lv2 log2 ups su ev xs N L vL EL fb n F :=
  h.board hB (hN.mono fun _ _ e => .inl e) hA (h.F.a.but hN (fun e => h.F.m (.inl e))) (h.F.o.but hN (fun e => h.F.m (.inl e)))
/-- a note -/
theorem Run64.note (h : Run64 W0 w0 w lv0 vL0 b g sb lb y f lv log ups su ev xs N L vL EL fb n F) {vL2 : Value} {EL2 : List Ev} (hG : LG W0 w' lb vL2 EL2) (hN : But (fun k => k = lb ∨ vL.ownBlock = some k) w w') (hL : vL2.ownBlock = vL.ownBlock ∨ ∃ j, vL2.ownBlock = some j ∧ w.heap.size ≤ j) : Run64 W0 w0 w' lv0 vL0 b g sb lb y f lv log ups su ev xs N L vL2 EL2 fb n F := by
  have hs := h.N.size
  refine ⟨h.T.stepE hG hN, h.F.step hN (fun k hk => .inl (.inr (.inr hk))) (.inl rfl) hL, h.N.trans2 hN (fun i hi e => ?_), h.A, own_on h.AL hs hL⟩
  rcases e with e | e
  · exact .inl (.inr (.inr (.inl e)))
  · exact .inl (mine_back (.inr (.inr (.inr e))) hi h.A h.AL)
end
set_option maxRecDepth 100000 in
/-- whether what is asked for has room -/
theorem soFits64 {W0 w : World} {b g sb lb : Nat} {y : LY} {f : Nat → Int} {lv : Value} {log : List Acc} {ups : List (List Int)} {su ev : Value} {xs : List Int} {N L : Int} {vL : Value} {EL : List Ev} {fb n t : Nat} {F : Nat → Fm} (h : ST64 W0 w b g sb lb y f lv log ups su ev xs N L vL EL) (hF : FB64 W0 w b g sb lb lv vL fb n F) (ht : t * 11 + 11 ≤ n) :
    Calls Tryz.prog 95 #[.pointer (some ⟨sb, 0, none⟩), .pointer (some ⟨fb, t * 11, none⟩)] w fun e w' => e = .returned (.bool (decide (D64 ((U64 ((F t).Fr + (F t).N)) - L) ≤ y.C))) ∧ Ext w w' := by
  have c1 : w.cell? ⟨fb, t * 11 + 1, none⟩ = some (.int .i64 (F t).N) := (hF.at_ ht 1 (by decide)).1
  have c6 : w.cell? ⟨fb, t * 11 + 6, none⟩ = some (.int .u64 (F t).Fr) := (hF.at_ ht 6 (by decide)).1
  have s4 := h.S.q4
  have s11 := h.S.q11
  generalize t * 11 = o at *
  clear h hF ht
  go_enter Tryz.func95, Tryz.ntmps95
  go_upto_region 1 with (fail)
  have k1 := fun w' (hx : Ext w w') => hx.cell c1
  have k2 := fun w' (hx : Ext w w') => hx.cell c6
  have k3 := fun w' (hx : Ext w w') => hx.cell s4
  have k4 := fun w' (hx : Ext w w') => hx.cell s11
  refine wp_region_held_drew (S := fun w' => Ext w w') (by kernel_rfl) ?hbeg (fun hHeld => ?_)
  case hbeg => exact (Ext.refl w).drew
  have hHeld0 : Ext w w := by first | exact Ext.refl _ | assumption
  first
    | (refine take_at (i := 0) (v := ?_) rfl rfl (by kernel_rfl) (by kernel_rfl) (by kernel_rfl) (fun _ _ _ h => h) (Or.inl ⟨by rfl, ?hy⟩) (by assumption) ?_
       case hy => (intro wz hSw; (try dsimp only at hSw); go_simp <;> with_reducible rfl)
       simp only [List.setIfInBounds_toArray, List.set_cons_zero, List.set_cons_succ])
    | (refine take_at (i := 0) (v := undef) rfl rfl (by kernel_rfl) (by kernel_rfl) (by kernel_rfl) (fun _ _ _ h => h) (Or.inr ⟨by rfl, rfl⟩) (by assumption) ?_
       simp only [List.setIfInBounds_toArray, List.set_cons_zero, List.set_cons_succ])
  first
    | (refine take_at (i := 1) (v := ?_) rfl rfl (by kernel_rfl) (by kernel_rfl) (by kernel_rfl) (fun _ _ _ h => h) (Or.inl ⟨by rfl, ?hy⟩) (by assumption) ?_
       case hy => (intro wz hSw; (try dsimp only at hSw); go_simp <;> with_reducible rfl)
       simp only [List.setIfInBounds_toArray, List.set_cons_zero, List.set_cons_succ])
    | (refine take_at (i := 1) (v := undef) rfl rfl (by kernel_rfl) (by kernel_rfl) (by kernel_rfl) (fun _ _ _ h => h) (Or.inr ⟨by rfl, rfl⟩) (by assumption) ?_
       simp only [List.setIfInBounds_toArray, List.set_cons_zero, List.set_cons_succ])
  first
    | (refine take_at (i := 2) (v := ?_) rfl rfl (by kernel_rfl) (by kernel_rfl) (by kernel_rfl) (fun _ _ _ h => h) (Or.inl ⟨by rfl, ?hy⟩) (by assumption) ?_
       case hy => (intro wz hSw; (try dsimp only at hSw); go_simp <;> with_reducible rfl)
       simp only [List.setIfInBounds_toArray, List.set_cons_zero, List.set_cons_succ])
    | (refine take_at (i := 2) (v := undef) rfl rfl (by kernel_rfl) (by kernel_rfl) (by kernel_rfl) (fun _ _ _ h => h) (Or.inr ⟨by rfl, rfl⟩) (by assumption) ?_
       simp only [List.setIfInBounds_toArray, List.set_cons_zero, List.set_cons_succ])
  first
    | (refine take_at (i := 3) (v := ?_) rfl rfl (by kernel_rfl) (by kernel_rfl) (by kernel_rfl) (fun _ _ _ h => h) (Or.inl ⟨by rfl, ?hy⟩) (by assumption) ?_
       case hy => (intro wz hSw; (try dsimp only at hSw); go_simp <;> with_reducible rfl)
       simp only [List.setIfInBounds_toArray, List.set_cons_zero, List.set_cons_succ])
    | (refine take_at (i := 3) (v := undef) rfl rfl (by kernel_rfl) (by kernel_rfl) (by kernel_rfl) (fun _ _ _ h => h) (Or.inr ⟨by rfl, rfl⟩) (by assumption) ?_
       simp only [List.setIfInBounds_toArray, List.set_cons_zero, List.set_cons_succ])
  first
    | (refine take_at (i := 4) (v := ?_) rfl rfl (by kernel_rfl) (by kernel_rfl) (by kernel_rfl) (fun _ _ _ h => h) (Or.inl ⟨by rfl, ?hy⟩) (by assumption) ?_
       case hy => (intro wz hSw; (try dsimp only at hSw); go_simp <;> with_reducible rfl)
       simp only [List.setIfInBounds_toArray, List.set_cons_zero, List.set_cons_succ])
    | (refine take_at (i := 4) (v := undef) rfl rfl (by kernel_rfl) (by kernel_rfl) (by kernel_rfl) (fun _ _ _ h => h) (Or.inr ⟨by rfl, rfl⟩) (by assumption) ?_
       simp only [List.setIfInBounds_toArray, List.set_cons_zero, List.set_cons_succ])
  first
    | (refine take_at (i := 5) (v := ?_) rfl rfl (by kernel_rfl) (by kernel_rfl) (by kernel_rfl) (fun _ _ _ h => h) (Or.inl ⟨by rfl, ?hy⟩) (by assumption) ?_
       case hy => (intro wz hSw; (try dsimp only at hSw); go_simp <;> with_reducible rfl)
       simp only [List.setIfInBounds_toArray, List.set_cons_zero, List.set_cons_succ])
    | (refine take_at (i := 5) (v := undef) rfl rfl (by kernel_rfl) (by kernel_rfl) (by kernel_rfl) (fun _ _ _ h => h) (Or.inr ⟨by rfl, rfl⟩) (by assumption) ?_
       simp only [List.setIfInBounds_toArray, List.set_cons_zero, List.set_cons_succ])
  first
    | (refine take_at (i := 6) (v := ?_) rfl rfl (by kernel_rfl) (by kernel_rfl) (by kernel_rfl) (fun _ _ _ h => h) (Or.inl ⟨by rfl, ?hy⟩) (by assumption) ?_
       case hy => (intro wz hSw; (try dsimp only at hSw); go_simp <;> with_reducible rfl)
       simp only [List.setIfInBounds_toArray, List.set_cons_zero, List.set_cons_succ])
    | (refine take_at (i := 6) (v := undef) rfl rfl (by kernel_rfl) (by kernel_rfl) (by kernel_rfl) (fun _ _ _ h => h) (Or.inr ⟨by rfl, rfl⟩) (by assumption) ?_
       simp only [List.setIfInBounds_toArray, List.set_cons_zero, List.set_cons_succ])
  first
    | (refine take_at (i := 7) (v := ?_) rfl rfl (by kernel_rfl) (by kernel_rfl) (by kernel_rfl) (fun _ _ _ h => h) (Or.inl ⟨by rfl, ?hy⟩) (by assumption) ?_
       case hy => (intro wz hSw; (try dsimp only at hSw); go_simp <;> with_reducible rfl)
       simp only [List.setIfInBounds_toArray, List.set_cons_zero, List.set_cons_succ])
    | (refine take_at (i := 7) (v := undef) rfl rfl (by kernel_rfl) (by kernel_rfl) (by kernel_rfl) (fun _ _ _ h => h) (Or.inr ⟨by rfl, rfl⟩) (by assumption) ?_
       simp only [List.setIfInBounds_toArray, List.set_cons_zero, List.set_cons_succ])
  first
    | (refine take_at (i := 8) (v := ?_) rfl rfl (by kernel_rfl) (by kernel_rfl) (by kernel_rfl) (fun _ _ _ h => h) (Or.inl ⟨by rfl, ?hy⟩) (by assumption) ?_
       case hy => (intro wz hSw; (try dsimp only at hSw); go_simp <;> with_reducible rfl)
       simp only [List.setIfInBounds_toArray, List.set_cons_zero, List.set_cons_succ])
    | (refine take_at (i := 8) (v := undef) rfl rfl (by kernel_rfl) (by kernel_rfl) (by kernel_rfl) (fun _ _ _ h => h) (Or.inr ⟨by rfl, rfl⟩) (by assumption) ?_
       simp only [List.setIfInBounds_toArray, List.set_cons_zero, List.set_cons_succ])
  first
    | (refine take_at (i := 9) (v := ?_) rfl rfl (by kernel_rfl) (by kernel_rfl) (by kernel_rfl) (fun _ _ _ h => h) (Or.inl ⟨by rfl, ?hy⟩) (by assumption) ?_
       case hy => (intro wz hSw; (try dsimp only at hSw); go_simp <;> with_reducible rfl)
       simp only [List.setIfInBounds_toArray, List.set_cons_zero, List.set_cons_succ])
    | (refine take_at (i := 9) (v := undef) rfl rfl (by kernel_rfl) (by kernel_rfl) (by kernel_rfl) (fun _ _ _ h => h) (Or.inr ⟨by rfl, rfl⟩) (by assumption) ?_
       simp only [List.setIfInBounds_toArray, List.set_cons_zero, List.set_cons_succ])
  first
    | (refine take_at (i := 10) (v := ?_) rfl rfl (by kernel_rfl) (by kernel_rfl) (by kernel_rfl) (fun _ _ _ h => h) (Or.inl ⟨by rfl, ?hy⟩) (by assumption) ?_
       case hy => (intro wz hSw; (try dsimp only at hSw); go_simp <;> with_reducible rfl)
       simp only [List.setIfInBounds_toArray, List.set_cons_zero, List.set_cons_succ])
    | (refine take_at (i := 10) (v := undef) rfl rfl (by kernel_rfl) (by kernel_rfl) (by kernel_rfl) (fun _ _ _ h => h) (Or.inr ⟨by rfl, rfl⟩) (by assumption) ?_
       simp only [List.setIfInBounds_toArray, List.set_cons_zero, List.set_cons_succ])
  first
    | (refine take_at (i := 11) (v := ?_) rfl rfl (by kernel_rfl) (by kernel_rfl) (by kernel_rfl) (fun _ _ _ h => h) (Or.inl ⟨by rfl, ?hy⟩) (by assumption) ?_
       case hy => (intro wz hSw; (try dsimp only at hSw); go_simp <;> with_reducible rfl)
       simp only [List.setIfInBounds_toArray, List.set_cons_zero, List.set_cons_succ])
    | (refine take_at (i := 11) (v := undef) rfl rfl (by kernel_rfl) (by kernel_rfl) (by kernel_rfl) (fun _ _ _ h => h) (Or.inr ⟨by rfl, rfl⟩) (by assumption) ?_
       simp only [List.setIfInBounds_toArray, List.set_cons_zero, List.set_cons_succ])
  first
    | (refine take_at (i := 12) (v := ?_) rfl rfl (by kernel_rfl) (by kernel_rfl) (by kernel_rfl) (fun _ _ _ h => h) (Or.inl ⟨by rfl, ?hy⟩) (by assumption) ?_
       case hy => (intro wz hSw; (try dsimp only at hSw); go_simp <;> with_reducible rfl)
       simp only [List.setIfInBounds_toArray, List.set_cons_zero, List.set_cons_succ])
    | (refine take_at (i := 12) (v := undef) rfl rfl (by kernel_rfl) (by kernel_rfl) (by kernel_rfl) (fun _ _ _ h => h) (Or.inr ⟨by rfl, rfl⟩) (by assumption) ?_
       simp only [List.setIfInBounds_toArray, List.set_cons_zero, List.set_cons_succ])
  first
    | (refine take_at (i := 13) (v := ?_) rfl rfl (by kernel_rfl) (by kernel_rfl) (by kernel_rfl) (fun _ _ _ h => h) (Or.inl ⟨by rfl, ?hy⟩) (by assumption) ?_
       case hy => (intro wz hSw; (try dsimp only at hSw); go_simp <;> with_reducible rfl)
       simp only [List.setIfInBounds_toArray, List.set_cons_zero, List.set_cons_succ])
    | (refine take_at (i := 13) (v := undef) rfl rfl (by kernel_rfl) (by kernel_rfl) (by kernel_rfl) (fun _ _ _ h => h) (Or.inr ⟨by rfl, rfl⟩) (by assumption) ?_
       simp only [List.setIfInBounds_toArray, List.set_cons_zero, List.set_cons_succ])
  first
    | (refine take_at (i := 14) (v := ?_) rfl rfl (by kernel_rfl) (by kernel_rfl) (by kernel_rfl) (fun _ _ _ h => h) (Or.inl ⟨by rfl, ?hy⟩) (by assumption) ?_
       case hy => (intro wz hSw; (try dsimp only at hSw); go_simp <;> with_reducible rfl)
       simp only [List.setIfInBounds_toArray, List.set_cons_zero, List.set_cons_succ])
    | (refine take_at (i := 14) (v := undef) rfl rfl (by kernel_rfl) (by kernel_rfl) (by kernel_rfl) (fun _ _ _ h => h) (Or.inr ⟨by rfl, rfl⟩) (by assumption) ?_
       simp only [List.setIfInBounds_toArray, List.set_cons_zero, List.set_cons_succ])
  first
    | (refine take_at (i := 15) (v := ?_) rfl rfl (by kernel_rfl) (by kernel_rfl) (by kernel_rfl) (fun _ _ _ h => h) (Or.inl ⟨by rfl, ?hy⟩) (by assumption) ?_
       case hy => (intro wz hSw; (try dsimp only at hSw); go_simp <;> with_reducible rfl)
       simp only [List.setIfInBounds_toArray, List.set_cons_zero, List.set_cons_succ])
    | (refine take_at (i := 15) (v := undef) rfl rfl (by kernel_rfl) (by kernel_rfl) (by kernel_rfl) (fun _ _ _ h => h) (Or.inr ⟨by rfl, rfl⟩) (by assumption) ?_
       simp only [List.setIfInBounds_toArray, List.set_cons_zero, List.set_cons_succ])
  first
    | (refine take_at (i := 16) (v := ?_) rfl rfl (by kernel_rfl) (by kernel_rfl) (by kernel_rfl) (fun _ _ _ h => h) (Or.inl ⟨by rfl, ?hy⟩) (by assumption) ?_
       case hy => (intro wz hSw; (try dsimp only at hSw); go_simp <;> with_reducible rfl)
       simp only [List.setIfInBounds_toArray, List.set_cons_zero, List.set_cons_succ])
    | (refine take_at (i := 16) (v := undef) rfl rfl (by kernel_rfl) (by kernel_rfl) (by kernel_rfl) (fun _ _ _ h => h) (Or.inr ⟨by rfl, rfl⟩) (by assumption) ?_
       simp only [List.setIfInBounds_toArray, List.set_cons_zero, List.set_cons_succ])
  refine call_at (i := 17) (F := 141) (fits64 y.C (F t).Fr (F t).N L _) rfl rfl (by kernel_rfl) (by rfl) (by first | rfl | (go_simp <;> rfl)) ?_
  rintro e w' ⟨rfl, rfl⟩
  refine ⟨_, rfl, by assumption, ?_⟩
  simp only [List.setIfInBounds_toArray, List.set_cons_zero, List.set_cons_succ]
  first
    | (refine take_at (i := 18) (v := ?_) rfl rfl (by kernel_rfl) (by kernel_rfl) (by kernel_rfl) (fun _ _ _ h => h) (Or.inl ⟨by rfl, ?hy⟩) (by assumption) ?_
       case hy => (intro wz hSw; (try dsimp only at hSw); go_simp <;> with_reducible rfl)
       simp only [List.setIfInBounds_toArray, List.set_cons_zero, List.set_cons_succ])
    | (refine take_at (i := 18) (v := undef) rfl rfl (by kernel_rfl) (by kernel_rfl) (by kernel_rfl) (fun _ _ _ h => h) (Or.inr ⟨by rfl, rfl⟩) (by assumption) ?_
       simp only [List.setIfInBounds_toArray, List.set_cons_zero, List.set_cons_succ])
  refine wpAnyH_done (by kernel_rfl) ?_ _
  have HX := Lib.hid (Ext.drew (Ext.refl w))
  clear k1 k2 k3 k4
  go_wp2
  first
    | exact ⟨rfl, HX.out⟩
    | (go_ret; exact ⟨rfl, HX.out⟩)
set_option maxRecDepth 100000 in
/-- an event of a thread -/
theorem soNote64 {W0 w0 w : World} {lv0 vL0 : Value} {b g sb lb : Nat} {y : LY} {f : Nat → Int} {lv : Value} {log : List Acc} {ups : List (List Int)} {su ev : Value} {xs : List Int} {N L : Int} {vL : Value} {EL : List Ev} {fb n t : Nat} {F : Nat → Fm} (h : Run64 W0 w0 w lv0 vL0 b g sb lb y f lv log ups su ev xs N L vL EL fb n F) (ht : t * 11 + 11 ≤ n) (kind th : Int) (hl : EL.length ≤ 900000) (h0 : 0 ≤ (F t).Fr ∧ (F t).Fr < 18446744073709551616) :
    Calls Tryz.prog 96 #[.pointer (some ⟨sb, 0, none⟩), .int .i64 kind, .int .i64 th, .pointer (some ⟨fb, t * 11, none⟩)] w fun e w' => e = .returned (.tuple #[]) ∧ ∃ vL2, Run64 W0 w0 w' lv0 vL0 b g sb lb y f lv log ups su ev xs N L vL2 (EL ++ [⟨kind, th, 0, (F t).N, (F t).Fr, 0, []⟩]) fb n F := by
  have c1 : w.cell? ⟨fb, t * 11 + 1, none⟩ = some (.int .i64 (F t).N) := (h.F.at_ ht 1 (by decide)).1
  have c6 : w.cell? ⟨fb, t * 11 + 6, none⟩ = some (.int .u64 (F t).Fr) := (h.F.at_ ht 6 (by decide)).1
  have s1 := h.T.S.q1
  have CN := Lib.hid (fun w' (hx : Ext w w') => eNoteB (B := 0) W0 w' lb vL EL ⟨kind, th, 0, (F t).N, (F t).Fr, 0, []⟩ (.slice none 0 0) (h.ext hx).T.G (h.T.X.trans hx) (dat_none _ _) hl (by simp))
  unfold evA at CN
  have HG : Hid (∀ w2 w', Ext w w2 → NoteB W0 w2 lb vL (EL ++ [⟨kind, th, 0, (F t).N, (F t).Fr, 0, []⟩]) (.returned (.tuple #[])) w' → ∃ vL2, Run64 W0 w0 w' lv0 vL0 b g sb lb y f lv log ups su ev xs N L vL2 (EL ++ [⟨kind, th, 0, (F t).N, (F t).Fr, 0, []⟩]) fb n F) := Lib.hid (fun w2 w' hx ⟨_, v2, h1, h2, h3⟩ => ⟨v2, (h.ext hx).note h1 h2 h3⟩)
  have CU := Lib.hid (fun w => upU64 (F t).Fr w h0.1 h0.2)
  generalize t * 11 = o at *
  generalize (F t).N = nn at *
  generalize (F t).Fr = fr at *
  clear h ht
  go_enter Tryz.func96, Tryz.ntmps96
  go_upto_region 0 with (fail)
  have k1 := fun w' (hx : Ext w w') => hx.cell c1
  have k2 := fun w' (hx : Ext w w') => hx.cell c6
  have k3 := fun w' (hx : Ext w w') => hx.cell s1
  refine wp_region_D (fun i => decide (i ≤ 15)) (by kernel_rfl) ?_
  refine take_D (i := 0) (v := ?_) rfl rfl rfl (by kernel_rfl) (by kernel_rfl) (by kernel_rfl) (by kernel_rfl) (by kernel_rfl) (((Ext.refl w).drew)) ?hyp ?_
  case hyp => intro wz hSw; (try dsimp only at hSw); go_simp <;> with_reducible rfl
  simp only [List.setIfInBounds_toArray, List.set_cons_zero, List.set_cons_succ]
  refine take_D (i := 1) (v := ?_) rfl rfl rfl (by kernel_rfl) (by kernel_rfl) (by kernel_rfl) (by kernel_rfl) (by kernel_rfl) (((Ext.refl w).drew)) ?hyp ?_
  case hyp => intro wz hSw; (try dsimp only at hSw); go_simp <;> with_reducible rfl
  simp only [List.setIfInBounds_toArray, List.set_cons_zero, List.set_cons_succ]
  refine take_D (i := 2) (v := ?_) rfl rfl rfl (by kernel_rfl) (by kernel_rfl) (by kernel_rfl) (by kernel_rfl) (by kernel_rfl) (((Ext.refl w).drew)) ?hyp ?_
  case hyp => intro wz hSw; (try dsimp only at hSw); go_simp <;> with_reducible rfl
  simp only [List.setIfInBounds_toArray, List.set_cons_zero, List.set_cons_succ]
  refine take_D (i := 3) (v := ?_) rfl rfl rfl (by kernel_rfl) (by kernel_rfl) (by kernel_rfl) (by kernel_rfl) (by kernel_rfl) (((Ext.refl w).drew)) ?hyp ?_
  case hyp => intro wz hSw; (try dsimp only at hSw); go_simp <;> with_reducible rfl
  simp only [List.setIfInBounds_toArray, List.set_cons_zero, List.set_cons_succ]
  refine take_D (i := 4) (v := ?_) rfl rfl rfl (by kernel_rfl) (by kernel_rfl) (by kernel_rfl) (by kernel_rfl) (by kernel_rfl) (((Ext.refl w).drew)) ?hyp ?_
  case hyp => intro wz hSw; (try dsimp only at hSw); go_simp <;> with_reducible rfl
  simp only [List.setIfInBounds_toArray, List.set_cons_zero, List.set_cons_succ]
  refine take_D (i := 5) (v := ?_) rfl rfl rfl (by kernel_rfl) (by kernel_rfl) (by kernel_rfl) (by kernel_rfl) (by kernel_rfl) (((Ext.refl w).drew)) ?hyp ?_
  case hyp => intro wz hSw; (try dsimp only at hSw); go_simp <;> with_reducible rfl
  simp only [List.setIfInBounds_toArray, List.set_cons_zero, List.set_cons_succ]
  refine take_D (i := 6) (v := ?_) rfl rfl rfl (by kernel_rfl) (by kernel_rfl) (by kernel_rfl) (by kernel_rfl) (by kernel_rfl) (((Ext.refl w).drew)) ?hyp ?_
  case hyp => intro wz hSw; (try dsimp only at hSw); go_simp <;> with_reducible rfl
  simp only [List.setIfInBounds_toArray, List.set_cons_zero, List.set_cons_succ]
  refine take_D (i := 7) (v := ?_) rfl rfl rfl (by kernel_rfl) (by kernel_rfl) (by kernel_rfl) (by kernel_rfl) (by kernel_rfl) (((Ext.refl w).drew)) ?hyp ?_
  case hyp => intro wz hSw; (try dsimp only at hSw); go_simp <;> with_reducible rfl
  simp only [List.setIfInBounds_toArray, List.set_cons_zero, List.set_cons_succ]
  refine take_D (i := 8) (v := ?_) rfl rfl rfl (by kernel_rfl) (by kernel_rfl) (by kernel_rfl) (by kernel_rfl) (by kernel_rfl) (((Ext.refl w).drew)) ?hyp ?_
  case hyp => intro wz hSw; (try dsimp only at hSw); go_simp <;> with_reducible rfl
  simp only [List.setIfInBounds_toArray, List.set_cons_zero, List.set_cons_succ]
  refine take_D (i := 9) (v := ?_) rfl rfl rfl (by kernel_rfl) (by kernel_rfl) (by kernel_rfl) (by kernel_rfl) (by kernel_rfl) (((Ext.refl w).drew)) ?hyp ?_
  case hyp => intro wz hSw; (try dsimp only at hSw); go_simp <;> with_reducible rfl
  simp only [List.setIfInBounds_toArray, List.set_cons_zero, List.set_cons_succ]
  refine take_D (i := 11) (v := ?_) rfl rfl rfl (by kernel_rfl) (by kernel_rfl) (by kernel_rfl) (by kernel_rfl) (by kernel_rfl) (((Ext.refl w).drew)) ?hyp ?_
  case hyp => intro wz hSw; (try dsimp only at hSw); go_simp <;> with_reducible rfl
  simp only [List.setIfInBounds_toArray, List.set_cons_zero, List.set_cons_succ]
  refine take_D (i := 12) (v := ?_) rfl rfl rfl (by kernel_rfl) (by kernel_rfl) (by kernel_rfl) (by kernel_rfl) (by kernel_rfl) (((Ext.refl w).drew)) ?hyp ?_
  case hyp => intro wz hSw; (try dsimp only at hSw); go_simp <;> with_reducible rfl
  simp only [List.setIfInBounds_toArray, List.set_cons_zero, List.set_cons_succ]
  refine take_D (i := 13) (v := ?_) rfl rfl rfl (by kernel_rfl) (by kernel_rfl) (by kernel_rfl) (by kernel_rfl) (by kernel_rfl) (((Ext.refl w).drew)) ?hyp ?_
  case hyp => intro wz hSw; (try dsimp only at hSw); go_simp <;> with_reducible rfl
  simp only [List.setIfInBounds_toArray, List.set_cons_zero, List.set_cons_succ]
  refine take_D (i := 14) (v := ?_) rfl rfl rfl (by kernel_rfl) (by kernel_rfl) (by kernel_rfl) (by kernel_rfl) (by kernel_rfl) (((Ext.refl w).drew)) ?hyp ?_
  case hyp => intro wz hSw; (try dsimp only at hSw); go_simp <;> with_reducible rfl
  simp only [List.setIfInBounds_toArray, List.set_cons_zero, List.set_cons_succ]
  refine step_D (i := 10) rfl (by kernel_rfl) ?_
  go_wp2_with fail
  refine (CU.out _).mono ?_
  rintro e w' ⟨rfl, rfl⟩
  go_wp2
  refine ⟨(Ext.refl w).drew, ?_⟩
  try simp only [List.setIfInBounds_toArray, List.set_cons_zero, List.set_cons_succ]
  refine take_D (i := 15) (v := ?_) rfl rfl rfl (by kernel_rfl) (by kernel_rfl) (by kernel_rfl) (by kernel_rfl) (by kernel_rfl) (((Ext.refl w).drew)) ?hyp ?_
  case hyp => intro wz hSw; (try dsimp only at hSw); go_simp <;> with_reducible rfl
  simp only [List.setIfInBounds_toArray, List.set_cons_zero, List.set_cons_succ]
  refine rest_D (n := 16) rfl rfl (fun j hj => by simp; omega) (by kernel_rfl) ?_
  clear k1 k2 k3
  go_wp2_with fail
  refine (CN.out _ ((Ext.refl w).drew)).mono ?_
  rintro e w2 hN
  have he := hN.1
  subst he
  have HN := Lib.hid (HG.out _ w2 ((Ext.refl w).drew) hN)
  clear hN
  go_wp2
  refine off_normal ?_
  go_wp2
  refine bodyPost_end (v := .tuple #[]) (by simp [results, Tryz.results96, go_sem]) rfl ?_
  exact ⟨rfl, HN.out⟩
end Go.Proofs.YtkmfamidahlgiaaGreatDoor
/- Whether a thread may go on with a claim, or publish one. -/
namespace Go.Proofs.YtkmfamidahlgiaaGreatDoor
open Go.RowKit
set_option linter.unusedVariables false
set_option linter.unusedSimpArgs false
set_option maxHeartbeats 4000000
attribute [local go_sem] later_cell later_frozen later_const
set_option maxRecDepth 100000 in
/-- whether a thread may -/
theorem soMay32 {W0 w : World} {b g sb lb : Nat} {y : LY} {f : Nat → Int} {lv : Value} {log : List Acc} {ups : List (List Int)} {su ev : Value} {xs : List Int} {N L : Int} {vL : Value} {EL : List Ev} {fb n t : Nat} {F : Nat → Fm} (K : BK y ups) (hV : y.V = 1) (h : ST32 W0 w b g sb lb y f lv log ups su ev xs N L vL EL) (hF : FB32 W0 w b g sb lb lv vL fb n F) (ht : t * 11 + 11 ≤ n) (th : Int) :
    Calls Tryz.prog 87 #[.pointer (some ⟨sb, 0, none⟩), .int .i64 th, .pointer (some ⟨fb, t * 11, none⟩)] w fun e w' => e = .returned (.bool (decide (th = 0) && decide (1 ≤ (F t).N) && decide ((F t).N ≤ y.C))) ∧ Ext w w' := by
  have c1 : w.cell? ⟨fb, t * 11 + 1, none⟩ = some (.int .i64 (F t).N) := (hF.at_ ht 1 (by decide)).1
  have s2 := h.S.q2
  have s3 := h.S.q3
  have s4 := h.S.q4
  have s5 := h.S.q5
  have s6 := h.S.q6
  have s7 := h.S.q7
  have CP := fun w' (hx : Ext w w') => cProducer y.V y.W y.C y.P y.S th su ups w' (h.U.ext hx).lists K.ll K.hn
  rw [K.one hV th] at CP
  generalize (F t).N = nn at *
  obtain ⟨p, hp⟩ : ∃ p, decide (th = 0) = p := ⟨_, rfl⟩
  rw [hp] at CP ⊢
  have HCP := Lib.hid CP
  generalize t * 11 = o at *
  clear h hF ht CP hp K hV
  have k1 := fun w' (hx : Ext w w') => hx.cell c1
  have k2 := fun w' (hx : Ext w w') => hx.cell s2
  have k3 := fun w' (hx : Ext w w') => hx.cell s3
  have k4 := fun w' (hx : Ext w w') => hx.cell s4
  have k5 := fun w' (hx : Ext w w') => hx.cell s5
  have k6 := fun w' (hx : Ext w w') => hx.cell s6
  have k7 := fun w' (hx : Ext w w') => hx.cell s7
  obtain ⟨q1, hq1⟩ : ∃ q, decide (1 ≤ nn) = q := ⟨_, rfl⟩
  obtain ⟨q2, hq2⟩ : ∃ q, decide (nn ≤ y.C) = q := ⟨_, rfl⟩
  rw [hq1, hq2]
  have hc : p = false ∨ (p = true ∧ q1 = false) ∨ (p = true ∧ q1 = true ∧ q2 = false) ∨ (p = true ∧ q1 = true ∧ q2 = true) := by cases p <;> cases q1 <;> cases q2 <;> simp
  rcases hc with rfl | ⟨rfl, rfl⟩ | ⟨rfl, rfl, rfl⟩ | ⟨rfl, rfl, rfl⟩
  all_goals
    go_enter Tryz.func87, Tryz.ntmps87
    go_upto_region 1 with (fail)
    refine wp_region_held_drew (S := fun w' => Ext w w') (by kernel_rfl) ?hbeg (fun hHeld => ?_)
    case hbeg => exact (Ext.refl w).drew
    have hHeld0 : Ext w w := by first | exact Ext.refl _ | assumption
    first
      | (refine take_at (i := 0) (v := ?_) rfl rfl (by kernel_rfl) (by kernel_rfl) (by kernel_rfl) (fun _ _ _ h => h) (Or.inl ⟨by rfl, ?hy⟩) (by assumption) ?_
         case hy => (intro wz hSw; (try dsimp only at hSw); go_simp <;> with_reducible rfl)
         simp only [List.setIfInBounds_toArray, List.set_cons_zero, List.set_cons_succ])
      | (refine take_at (i := 0) (v := undef) rfl rfl (by kernel_rfl) (by kernel_rfl) (by kernel_rfl) (fun _ _ _ h => h) (Or.inr ⟨by rfl, rfl⟩) (by assumption) ?_
         simp only [List.setIfInBounds_toArray, List.set_cons_zero, List.set_cons_succ])
    first
      | (refine take_at (i := 1) (v := ?_) rfl rfl (by kernel_rfl) (by kernel_rfl) (by kernel_rfl) (fun _ _ _ h => h) (Or.inl ⟨by rfl, ?hy⟩) (by assumption) ?_
         case hy => (intro wz hSw; (try dsimp only at hSw); go_simp <;> with_reducible rfl)
         simp only [List.setIfInBounds_toArray, List.set_cons_zero, List.set_cons_succ])
      | (refine take_at (i := 1) (v := undef) rfl rfl (by kernel_rfl) (by kernel_rfl) (by kernel_rfl) (fun _ _ _ h => h) (Or.inr ⟨by rfl, rfl⟩) (by assumption) ?_
         simp only [List.setIfInBounds_toArray, List.set_cons_zero, List.set_cons_succ])
    first
      | (refine take_at (i := 2) (v := ?_) rfl rfl (by kernel_rfl) (by kernel_rfl) (by kernel_rfl) (fun _ _ _ h => h) (Or.inl ⟨by rfl, ?hy⟩) (by assumption) ?_
         case hy => (intro wz hSw; (try dsimp only at hSw); go_simp <;> with_reducible rfl)
         simp only [List.setIfInBounds_toArray, List.set_cons_zero, List.set_cons_succ])
      | (refine take_at (i := 2) (v := undef) rfl rfl (by kernel_rfl) (by kernel_rfl) (by kernel_rfl) (fun _ _ _ h => h) (Or.inr ⟨by rfl, rfl⟩) (by assumption) ?_
         simp only [List.setIfInBounds_toArray, List.set_cons_zero, List.set_cons_succ])
    first
      | (refine take_at (i := 3) (v := ?_) rfl rfl (by kernel_rfl) (by kernel_rfl) (by kernel_rfl) (fun _ _ _ h => h) (Or.inl ⟨by rfl, ?hy⟩) (by assumption) ?_
         case hy => (intro wz hSw; (try dsimp only at hSw); go_simp <;> with_reducible rfl)
         simp only [List.setIfInBounds_toArray, List.set_cons_zero, List.set_cons_succ])
      | (refine take_at (i := 3) (v := undef) rfl rfl (by kernel_rfl) (by kernel_rfl) (by kernel_rfl) (fun _ _ _ h => h) (Or.inr ⟨by rfl, rfl⟩) (by assumption) ?_
         simp only [List.setIfInBounds_toArray, List.set_cons_zero, List.set_cons_succ])
    first
      | (refine take_at (i := 4) (v := ?_) rfl rfl (by kernel_rfl) (by kernel_rfl) (by kernel_rfl) (fun _ _ _ h => h) (Or.inl ⟨by rfl, ?hy⟩) (by assumption) ?_
         case hy => (intro wz hSw; (try dsimp only at hSw); go_simp <;> with_reducible rfl)
         simp only [List.setIfInBounds_toArray, List.set_cons_zero, List.set_cons_succ])
      | (refine take_at (i := 4) (v := undef) rfl rfl (by kernel_rfl) (by kernel_rfl) (by kernel_rfl) (fun _ _ _ h => h) (Or.inr ⟨by rfl, rfl⟩) (by assumption) ?_
         simp only [List.setIfInBounds_toArray, List.set_cons_zero, List.set_cons_succ])
    first
      | (refine take_at (i := 5) (v := ?_) rfl rfl (by kernel_rfl) (by kernel_rfl) (by kernel_rfl) (fun _ _ _ h => h) (Or.inl ⟨by rfl, ?hy⟩) (by assumption) ?_
         case hy => (intro wz hSw; (try dsimp only at hSw); go_simp <;> with_reducible rfl)
         simp only [List.setIfInBounds_toArray, List.set_cons_zero, List.set_cons_succ])
      | (refine take_at (i := 5) (v := undef) rfl rfl (by kernel_rfl) (by kernel_rfl) (by kernel_rfl) (fun _ _ _ h => h) (Or.inr ⟨by rfl, rfl⟩) (by assumption) ?_
         simp only [List.setIfInBounds_toArray, List.set_cons_zero, List.set_cons_succ])
    first
      | (refine take_at (i := 6) (v := ?_) rfl rfl (by kernel_rfl) (by kernel_rfl) (by kernel_rfl) (fun _ _ _ h => h) (Or.inl ⟨by rfl, ?hy⟩) (by assumption) ?_
         case hy => (intro wz hSw; (try dsimp only at hSw); go_simp <;> with_reducible rfl)
         simp only [List.setIfInBounds_toArray, List.set_cons_zero, List.set_cons_succ])
      | (refine take_at (i := 6) (v := undef) rfl rfl (by kernel_rfl) (by kernel_rfl) (by kernel_rfl) (fun _ _ _ h => h) (Or.inr ⟨by rfl, rfl⟩) (by assumption) ?_
         simp only [List.setIfInBounds_toArray, List.set_cons_zero, List.set_cons_succ])
    first
      | (refine take_at (i := 7) (v := ?_) rfl rfl (by kernel_rfl) (by kernel_rfl) (by kernel_rfl) (fun _ _ _ h => h) (Or.inl ⟨by rfl, ?hy⟩) (by assumption) ?_
         case hy => (intro wz hSw; (try dsimp only at hSw); go_simp <;> with_reducible rfl)
         simp only [List.setIfInBounds_toArray, List.set_cons_zero, List.set_cons_succ])
      | (refine take_at (i := 7) (v := undef) rfl rfl (by kernel_rfl) (by kernel_rfl) (by kernel_rfl) (fun _ _ _ h => h) (Or.inr ⟨by rfl, rfl⟩) (by assumption) ?_
         simp only [List.setIfInBounds_toArray, List.set_cons_zero, List.set_cons_succ])
    first
      | (refine take_at (i := 8) (v := ?_) rfl rfl (by kernel_rfl) (by kernel_rfl) (by kernel_rfl) (fun _ _ _ h => h) (Or.inl ⟨by rfl, ?hy⟩) (by assumption) ?_
         case hy => (intro wz hSw; (try dsimp only at hSw); go_simp <;> with_reducible rfl)
         simp only [List.setIfInBounds_toArray, List.set_cons_zero, List.set_cons_succ])
      | (refine take_at (i := 8) (v := undef) rfl rfl (by kernel_rfl) (by kernel_rfl) (by kernel_rfl) (fun _ _ _ h => h) (Or.inr ⟨by rfl, rfl⟩) (by assumption) ?_
         simp only [List.setIfInBounds_toArray, List.set_cons_zero, List.set_cons_succ])
    first
      | (refine take_at (i := 9) (v := ?_) rfl rfl (by kernel_rfl) (by kernel_rfl) (by kernel_rfl) (fun _ _ _ h => h) (Or.inl ⟨by rfl, ?hy⟩) (by assumption) ?_
         case hy => (intro wz hSw; (try dsimp only at hSw); go_simp <;> with_reducible rfl)
         simp only [List.setIfInBounds_toArray, List.set_cons_zero, List.set_cons_succ])
      | (refine take_at (i := 9) (v := undef) rfl rfl (by kernel_rfl) (by kernel_rfl) (by kernel_rfl) (fun _ _ _ h => h) (Or.inr ⟨by rfl, rfl⟩) (by assumption) ?_
         simp only [List.setIfInBounds_toArray, List.set_cons_zero, List.set_cons_succ])
    first
      | (refine take_at (i := 10) (v := ?_) rfl rfl (by kernel_rfl) (by kernel_rfl) (by kernel_rfl) (fun _ _ _ h => h) (Or.inl ⟨by rfl, ?hy⟩) (by assumption) ?_
         case hy => (intro wz hSw; (try dsimp only at hSw); go_simp <;> with_reducible rfl)
         simp only [List.setIfInBounds_toArray, List.set_cons_zero, List.set_cons_succ])
      | (refine take_at (i := 10) (v := undef) rfl rfl (by kernel_rfl) (by kernel_rfl) (by kernel_rfl) (fun _ _ _ h => h) (Or.inr ⟨by rfl, rfl⟩) (by assumption) ?_
         simp only [List.setIfInBounds_toArray, List.set_cons_zero, List.set_cons_succ])
    first
      | (refine take_at (i := 11) (v := ?_) rfl rfl (by kernel_rfl) (by kernel_rfl) (by kernel_rfl) (fun _ _ _ h => h) (Or.inl ⟨by rfl, ?hy⟩) (by assumption) ?_
         case hy => (intro wz hSw; (try dsimp only at hSw); go_simp <;> with_reducible rfl)
         simp only [List.setIfInBounds_toArray, List.set_cons_zero, List.set_cons_succ])
      | (refine take_at (i := 11) (v := undef) rfl rfl (by kernel_rfl) (by kernel_rfl) (by kernel_rfl) (fun _ _ _ h => h) (Or.inr ⟨by rfl, rfl⟩) (by assumption) ?_
         simp only [List.setIfInBounds_toArray, List.set_cons_zero, List.set_cons_succ])
    refine call_at (i := 12) (F := 136) (HCP.out _ hHeld) rfl rfl (by kernel_rfl) (by rfl) (by first | rfl | (go_simp <;> rfl)) ?_
    rintro e wq1 ⟨rfl, Xq1⟩
    have Yq1 := Ext.trans hHeld Xq1
    refine ⟨_, rfl, Yq1, wpAnyH_strong (S' := fun w' => Ext wq1 w') (fun w' h => Ext.trans Yq1 h) _ _ _ _ ?_⟩
    simp only [List.setIfInBounds_toArray, List.set_cons_zero, List.set_cons_succ]
    have Zq1 : Ext w wq1 := Ext.trans (by assumption) Yq1
    clear hHeld Xq1 Yq1
    have hHeld := Ext.refl wq1
    clear k1 k2 k3 k4 k5 k6 k7
    have j1 := fun w' (hx : Ext wq1 w') => hx.cell (Zq1.cell c1)
    have j4 := fun w' (hx : Ext wq1 w') => hx.cell (Zq1.cell s4)
    first
      | (refine take_at (i := 13) (v := ?_) rfl rfl (by kernel_rfl) (by kernel_rfl) (by kernel_rfl) (fun _ _ _ h => h) (Or.inl ⟨by rfl, ?hy⟩) (by assumption) ?_
         case hy => (intro wz hSw; (try dsimp only at hSw); go_simp <;> with_reducible rfl)
         simp only [List.setIfInBounds_toArray, List.set_cons_zero, List.set_cons_succ])
      | (refine take_at (i := 13) (v := undef) rfl rfl (by kernel_rfl) (by kernel_rfl) (by kernel_rfl) (fun _ _ _ h => h) (Or.inr ⟨by rfl, rfl⟩) (by assumption) ?_
         simp only [List.setIfInBounds_toArray, List.set_cons_zero, List.set_cons_succ])
    first
      | (refine take_at (i := 14) (v := ?_) rfl rfl (by kernel_rfl) (by kernel_rfl) (by kernel_rfl) (fun _ _ _ h => h) (Or.inl ⟨by rfl, ?hy⟩) (by assumption) ?_
         case hy => (intro wz hSw; (try dsimp only at hSw); go_simp <;> with_reducible rfl)
         simp only [List.setIfInBounds_toArray, List.set_cons_zero, List.set_cons_succ])
      | (refine take_at (i := 14) (v := undef) rfl rfl (by kernel_rfl) (by kernel_rfl) (by kernel_rfl) (fun _ _ _ h => h) (Or.inr ⟨by rfl, rfl⟩) (by assumption) ?_
         simp only [List.setIfInBounds_toArray, List.set_cons_zero, List.set_cons_succ])
    first
      | (refine take_at (i := 15) (v := ?_) rfl rfl (by kernel_rfl) (by kernel_rfl) (by kernel_rfl) (fun _ _ _ h => h) (Or.inl ⟨by rfl, ?hy⟩) (by assumption) ?_
         case hy => (intro wz hSw; (try dsimp only at hSw); go_simp <;> with_reducible rfl)
         simp only [List.setIfInBounds_toArray, List.set_cons_zero, List.set_cons_succ])
      | (refine take_at (i := 15) (v := undef) rfl rfl (by kernel_rfl) (by kernel_rfl) (by kernel_rfl) (fun _ _ _ h => h) (Or.inr ⟨by rfl, rfl⟩) (by assumption) ?_
         simp only [List.setIfInBounds_toArray, List.set_cons_zero, List.set_cons_succ])
    first
      | (refine take_at (i := 16) (v := ?_) rfl rfl (by kernel_rfl) (by kernel_rfl) (by kernel_rfl) (fun _ _ _ h => h) (Or.inl ⟨by rfl, ?hy⟩) (by assumption) ?_
         case hy => (intro wz hSw; (try dsimp only at hSw); go_simp <;> with_reducible rfl)
         simp only [List.setIfInBounds_toArray, List.set_cons_zero, List.set_cons_succ])
      | (refine take_at (i := 16) (v := undef) rfl rfl (by kernel_rfl) (by kernel_rfl) (by kernel_rfl) (fun _ _ _ h => h) (Or.inr ⟨by rfl, rfl⟩) (by assumption) ?_
         simp only [List.setIfInBounds_toArray, List.set_cons_zero, List.set_cons_succ])
    first
      | (refine take_at (i := 17) (v := ?_) rfl rfl (by kernel_rfl) (by kernel_rfl) (by kernel_rfl) (fun _ _ _ h => h) (Or.inl ⟨by rfl, ?hy⟩) (by assumption) ?_
         case hy => (intro wz hSw; (try dsimp only at hSw); go_simp <;> with_reducible rfl)
         simp only [List.setIfInBounds_toArray, List.set_cons_zero, List.set_cons_succ])
      | (refine take_at (i := 17) (v := undef) rfl rfl (by kernel_rfl) (by kernel_rfl) (by kernel_rfl) (fun _ _ _ h => h) (Or.inr ⟨by rfl, rfl⟩) (by assumption) ?_
         simp only [List.setIfInBounds_toArray, List.set_cons_zero, List.set_cons_succ])
    first
      | (refine take_at (i := 18) (v := ?_) rfl rfl (by kernel_rfl) (by kernel_rfl) (by kernel_rfl) (fun _ _ _ h => h) (Or.inl ⟨by rfl, ?hy⟩) (by assumption) ?_
         case hy => (intro wz hSw; (try dsimp only at hSw); go_simp <;> with_reducible rfl)
         simp only [List.setIfInBounds_toArray, List.set_cons_zero, List.set_cons_succ])
      | (refine take_at (i := 18) (v := undef) rfl rfl (by kernel_rfl) (by kernel_rfl) (by kernel_rfl) (fun _ _ _ h => h) (Or.inr ⟨by rfl, rfl⟩) (by assumption) ?_
         simp only [List.setIfInBounds_toArray, List.set_cons_zero, List.set_cons_succ])
    first
      | (refine take_at (i := 19) (v := ?_) rfl rfl (by kernel_rfl) (by kernel_rfl) (by kernel_rfl) (fun _ _ _ h => h) (Or.inl ⟨by rfl, ?hy⟩) (by assumption) ?_
         case hy => (intro wz hSw; (try dsimp only at hSw); go_simp <;> with_reducible rfl)
         simp only [List.setIfInBounds_toArray, List.set_cons_zero, List.set_cons_succ])
      | (refine take_at (i := 19) (v := undef) rfl rfl (by kernel_rfl) (by kernel_rfl) (by kernel_rfl) (fun _ _ _ h => h) (Or.inr ⟨by rfl, rfl⟩) (by assumption) ?_
         simp only [List.setIfInBounds_toArray, List.set_cons_zero, List.set_cons_succ])
    first
      | (refine take_at (i := 20) (v := ?_) rfl rfl (by kernel_rfl) (by kernel_rfl) (by kernel_rfl) (fun _ _ _ h => h) (Or.inl ⟨by rfl, ?hy⟩) (by assumption) ?_
         case hy => (intro wz hSw; (try dsimp only at hSw); go_simp <;> with_reducible rfl)
         simp only [List.setIfInBounds_toArray, List.set_cons_zero, List.set_cons_succ])
      | (refine take_at (i := 20) (v := undef) rfl rfl (by kernel_rfl) (by kernel_rfl) (by kernel_rfl) (fun _ _ _ h => h) (Or.inr ⟨by rfl, rfl⟩) (by assumption) ?_
         simp only [List.setIfInBounds_toArray, List.set_cons_zero, List.set_cons_succ])
    first
      | (refine take_at (i := 21) (v := ?_) rfl rfl (by kernel_rfl) (by kernel_rfl) (by kernel_rfl) (fun _ _ _ h => h) (Or.inl ⟨by rfl, ?hy⟩) (by assumption) ?_
         case hy => (intro wz hSw; (try dsimp only at hSw); go_simp <;> with_reducible rfl)
         simp only [List.setIfInBounds_toArray, List.set_cons_zero, List.set_cons_succ])
      | (refine take_at (i := 21) (v := undef) rfl rfl (by kernel_rfl) (by kernel_rfl) (by kernel_rfl) (fun _ _ _ h => h) (Or.inr ⟨by rfl, rfl⟩) (by assumption) ?_
         simp only [List.setIfInBounds_toArray, List.set_cons_zero, List.set_cons_succ])
    first
      | (refine take_at (i := 22) (v := ?_) rfl rfl (by kernel_rfl) (by kernel_rfl) (by kernel_rfl) (fun _ _ _ h => h) (Or.inl ⟨by rfl, ?hy⟩) (by assumption) ?_
         case hy => (intro wz hSw; (try dsimp only at hSw); go_simp <;> with_reducible rfl)
         simp only [List.setIfInBounds_toArray, List.set_cons_zero, List.set_cons_succ])
      | (refine take_at (i := 22) (v := undef) rfl rfl (by kernel_rfl) (by kernel_rfl) (by kernel_rfl) (fun _ _ _ h => h) (Or.inr ⟨by rfl, rfl⟩) (by assumption) ?_
         simp only [List.setIfInBounds_toArray, List.set_cons_zero, List.set_cons_succ])
    first
      | (refine take_at (i := 23) (v := ?_) rfl rfl (by kernel_rfl) (by kernel_rfl) (by kernel_rfl) (fun _ _ _ h => h) (Or.inl ⟨by rfl, ?hy⟩) (by assumption) ?_
         case hy => (intro wz hSw; (try dsimp only at hSw); go_simp <;> with_reducible rfl)
         simp only [List.setIfInBounds_toArray, List.set_cons_zero, List.set_cons_succ])
      | (refine take_at (i := 23) (v := undef) rfl rfl (by kernel_rfl) (by kernel_rfl) (by kernel_rfl) (fun _ _ _ h => h) (Or.inr ⟨by rfl, rfl⟩) (by assumption) ?_
         simp only [List.setIfInBounds_toArray, List.set_cons_zero, List.set_cons_succ])
    first
      | (refine take_at (i := 24) (v := ?_) rfl rfl (by kernel_rfl) (by kernel_rfl) (by kernel_rfl) (fun _ _ _ h => h) (Or.inl ⟨by rfl, ?hy⟩) (by assumption) ?_
         case hy => (intro wz hSw; (try dsimp only at hSw); go_simp <;> with_reducible rfl)
         simp only [List.setIfInBounds_toArray, List.set_cons_zero, List.set_cons_succ])
      | (refine take_at (i := 24) (v := undef) rfl rfl (by kernel_rfl) (by kernel_rfl) (by kernel_rfl) (fun _ _ _ h => h) (Or.inr ⟨by rfl, rfl⟩) (by assumption) ?_
         simp only [List.setIfInBounds_toArray, List.set_cons_zero, List.set_cons_succ])
    first
      | (refine take_at (i := 25) (v := ?_) rfl rfl (by kernel_rfl) (by kernel_rfl) (by kernel_rfl) (fun _ _ _ h => h) (Or.inl ⟨by rfl, ?hy⟩) (by assumption) ?_
         case hy => (intro wz hSw; (try dsimp only at hSw); go_simp <;> with_reducible rfl)
         simp only [List.setIfInBounds_toArray, List.set_cons_zero, List.set_cons_succ])
      | (refine take_at (i := 25) (v := undef) rfl rfl (by kernel_rfl) (by kernel_rfl) (by kernel_rfl) (fun _ _ _ h => h) (Or.inr ⟨by rfl, rfl⟩) (by assumption) ?_
         simp only [List.setIfInBounds_toArray, List.set_cons_zero, List.set_cons_succ])
    first
      | (refine take_at (i := 26) (v := ?_) rfl rfl (by kernel_rfl) (by kernel_rfl) (by kernel_rfl) (fun _ _ _ h => h) (Or.inl ⟨by rfl, ?hy⟩) (by assumption) ?_
         case hy => (intro wz hSw; (try dsimp only at hSw); go_simp <;> with_reducible rfl)
         simp only [List.setIfInBounds_toArray, List.set_cons_zero, List.set_cons_succ])
      | (refine take_at (i := 26) (v := undef) rfl rfl (by kernel_rfl) (by kernel_rfl) (by kernel_rfl) (fun _ _ _ h => h) (Or.inr ⟨by rfl, rfl⟩) (by assumption) ?_
         simp only [List.setIfInBounds_toArray, List.set_cons_zero, List.set_cons_succ])
    first
      | (refine take_at (i := 27) (v := ?_) rfl rfl (by kernel_rfl) (by kernel_rfl) (by kernel_rfl) (fun _ _ _ h => h) (Or.inl ⟨by rfl, ?hy⟩) (by assumption) ?_
         case hy => (intro wz hSw; (try dsimp only at hSw); go_simp <;> with_reducible rfl)
         simp only [List.setIfInBounds_toArray, List.set_cons_zero, List.set_cons_succ])
      | (refine take_at (i := 27) (v := undef) rfl rfl (by kernel_rfl) (by kernel_rfl) (by kernel_rfl) (fun _ _ _ h => h) (Or.inr ⟨by rfl, rfl⟩) (by assumption) ?_
         simp only [List.setIfInBounds_toArray, List.set_cons_zero, List.set_cons_succ])
    first
      | (refine take_at (i := 28) (v := ?_) rfl rfl (by kernel_rfl) (by kernel_rfl) (by kernel_rfl) (fun _ _ _ h => h) (Or.inl ⟨by rfl, ?hy⟩) (by assumption) ?_
         case hy => (intro wz hSw; (try dsimp only at hSw); go_simp <;> with_reducible rfl)
         simp only [List.setIfInBounds_toArray, List.set_cons_zero, List.set_cons_succ])
      | (refine take_at (i := 28) (v := undef) rfl rfl (by kernel_rfl) (by kernel_rfl) (by kernel_rfl) (fun _ _ _ h => h) (Or.inr ⟨by rfl, rfl⟩) (by assumption) ?_
         simp only [List.setIfInBounds_toArray, List.set_cons_zero, List.set_cons_succ])
    first
      | (refine take_at (i := 29) (v := ?_) rfl rfl (by kernel_rfl) (by kernel_rfl) (by kernel_rfl) (fun _ _ _ h => h) (Or.inl ⟨by rfl, ?hy⟩) (by assumption) ?_
         case hy => (intro wz hSw; (try dsimp only at hSw); go_simp <;> with_reducible rfl)
         simp only [List.setIfInBounds_toArray, List.set_cons_zero, List.set_cons_succ])
      | (refine take_at (i := 29) (v := undef) rfl rfl (by kernel_rfl) (by kernel_rfl) (by kernel_rfl) (fun _ _ _ h => h) (Or.inr ⟨by rfl, rfl⟩) (by assumption) ?_
         simp only [List.setIfInBounds_toArray, List.set_cons_zero, List.set_cons_succ])
    first
      | (refine take_at (i := 30) (v := ?_) rfl rfl (by kernel_rfl) (by kernel_rfl) (by kernel_rfl) (fun _ _ _ h => h) (Or.inl ⟨by rfl, ?hy⟩) (by assumption) ?_
         case hy => (intro wz hSw; (try dsimp only at hSw); go_simp <;> with_reducible rfl)
         simp only [List.setIfInBounds_toArray, List.set_cons_zero, List.set_cons_succ])
      | (refine take_at (i := 30) (v := undef) rfl rfl (by kernel_rfl) (by kernel_rfl) (by kernel_rfl) (fun _ _ _ h => h) (Or.inr ⟨by rfl, rfl⟩) (by assumption) ?_
         simp only [List.setIfInBounds_toArray, List.set_cons_zero, List.set_cons_succ])
    first
      | (refine take_at (i := 31) (v := ?_) rfl rfl (by kernel_rfl) (by kernel_rfl) (by kernel_rfl) (fun _ _ _ h => h) (Or.inl ⟨by rfl, ?hy⟩) (by assumption) ?_
         case hy => (intro wz hSw; (try dsimp only at hSw); go_simp <;> with_reducible rfl)
         simp only [List.setIfInBounds_toArray, List.set_cons_zero, List.set_cons_succ])
      | (refine take_at (i := 31) (v := undef) rfl rfl (by kernel_rfl) (by kernel_rfl) (by kernel_rfl) (fun _ _ _ h => h) (Or.inr ⟨by rfl, rfl⟩) (by assumption) ?_
         simp only [List.setIfInBounds_toArray, List.set_cons_zero, List.set_cons_succ])
    first
      | (refine take_at (i := 32) (v := ?_) rfl rfl (by kernel_rfl) (by kernel_rfl) (by kernel_rfl) (fun _ _ _ h => h) (Or.inl ⟨by rfl, ?hy⟩) (by assumption) ?_
         case hy => (intro wz hSw; (try dsimp only at hSw); go_simp <;> with_reducible rfl)
         simp only [List.setIfInBounds_toArray, List.set_cons_zero, List.set_cons_succ])
      | (refine take_at (i := 32) (v := undef) rfl rfl (by kernel_rfl) (by kernel_rfl) (by kernel_rfl) (fun _ _ _ h => h) (Or.inr ⟨by rfl, rfl⟩) (by assumption) ?_
         simp only [List.setIfInBounds_toArray, List.set_cons_zero, List.set_cons_succ])
    first
      | (refine take_at (i := 33) (v := ?_) rfl rfl (by kernel_rfl) (by kernel_rfl) (by kernel_rfl) (fun _ _ _ h => h) (Or.inl ⟨by rfl, ?hy⟩) (by assumption) ?_
         case hy => (intro wz hSw; (try dsimp only at hSw); go_simp <;> with_reducible rfl)
         simp only [List.setIfInBounds_toArray, List.set_cons_zero, List.set_cons_succ])
      | (refine take_at (i := 33) (v := undef) rfl rfl (by kernel_rfl) (by kernel_rfl) (by kernel_rfl) (fun _ _ _ h => h) (Or.inr ⟨by rfl, rfl⟩) (by assumption) ?_
         simp only [List.setIfInBounds_toArray, List.set_cons_zero, List.set_cons_succ])
    refine wpAnyH_done (by kernel_rfl) ?_ _
    have HX := Lib.hid Zq1
    go_wp2
    first
      | exact ⟨rfl, HX.out⟩
      | (go_ret; exact ⟨rfl, HX.out⟩)
set_option maxRecDepth 100000 in
/-- whether a thread may -/
theorem soMay64 {W0 w : World} {b g sb lb : Nat} {y : LY} {f : Nat → Int} {lv : Value} {log : List Acc} {ups : List (List Int)} {su ev : Value} {xs : List Int} {N L : Int} {vL : Value} {EL : List Ev} {fb n t : Nat} {F : Nat → Fm} (K : BK y ups) (hV : y.V = 1) (h : ST64 W0 w b g sb lb y f lv log ups su ev xs N L vL EL) (hF : FB64 W0 w b g sb lb lv vL fb n F) (ht : t * 11 + 11 ≤ n) (th : Int) :
    Calls Tryz.prog 94 #[.pointer (some ⟨sb, 0, none⟩), .int .i64 th, .pointer (some ⟨fb, t * 11, none⟩)] w fun e w' => e = .returned (.bool (decide (th = 0) && decide (1 ≤ (F t).N) && decide ((F t).N ≤ y.C))) ∧ Ext w w' := by
  have c1 : w.cell? ⟨fb, t * 11 + 1, none⟩ = some (.int .i64 (F t).N) := (hF.at_ ht 1 (by decide)).1
  have s2 := h.S.q2
  have s3 := h.S.q3
  have s4 := h.S.q4
  have s5 := h.S.q5
  have s6 := h.S.q6
  have s7 := h.S.q7
  have CP := fun w' (hx : Ext w w') => cProducer y.V y.W y.C y.P y.S th su ups w' (h.U.ext hx).lists K.ll K.hn
  rw [K.one hV th] at CP
  generalize (F t).N = nn at *
  obtain ⟨p, hp⟩ : ∃ p, decide (th = 0) = p := ⟨_, rfl⟩
  rw [hp] at CP ⊢
  have HCP := Lib.hid CP
  generalize t * 11 = o at *
  clear h hF ht CP hp K hV
  have k1 := fun w' (hx : Ext w w') => hx.cell c1
  have k2 := fun w' (hx : Ext w w') => hx.cell s2
  have k3 := fun w' (hx : Ext w w') => hx.cell s3
  have k4 := fun w' (hx : Ext w w') => hx.cell s4
  have k5 := fun w' (hx : Ext w w') => hx.cell s5
  have k6 := fun w' (hx : Ext w w') => hx.cell s6
  have k7 := fun w' (hx : Ext w w') => hx.cell s7
  obtain ⟨q1, hq1⟩ : ∃ q, decide (1 ≤ nn) = q := ⟨_, rfl⟩
  obtain ⟨q2, hq2⟩ : ∃ q, decide (nn ≤ y.C) = q := ⟨_, rfl⟩
  rw [hq1, hq2]
  have hc : p = false ∨ (p = true ∧ q1 = false) ∨ (p = true ∧ q1 = true ∧ q2 = false) ∨ (p = true ∧ q1 = true ∧ q2 = true) := by cases p <;> cases q1 <;> cases q2 <;> simp
  rcases hc with rfl | ⟨rfl, rfl⟩ | ⟨rfl, rfl, rfl⟩ | ⟨rfl, rfl, rfl⟩
  all_goals
    go_enter Tryz.func94, Tryz.ntmps94
    go_upto_region 1 with (fail)
    refine wp_region_held_drew (S := fun w' => Ext w w') (by kernel_rfl) ?hbeg (fun hHeld => ?_)
    case hbeg => exact (Ext.refl w).drew
    have hHeld0 : Ext w w := by first | exact Ext.refl _ | assumption
    first
      | (refine take_at (i := 0) (v := ?_) rfl rfl (by kernel_rfl) (by kernel_rfl) (by kernel_rfl) (fun _ _ _ h => h) (Or.inl ⟨by rfl, ?hy⟩) (by assumption) ?_
         case hy => (intro wz hSw; (try dsimp only at hSw); go_simp <;> with_reducible rfl)
         simp only [List.setIfInBounds_toArray, List.set_cons_zero, List.set_cons_succ])
      | (refine take_at (i := 0) (v := undef) rfl rfl (by kernel_rfl) (by kernel_rfl) (by kernel_rfl) (fun _ _ _ h => h) (Or.inr ⟨by rfl, rfl⟩) (by assumption) ?_
         simp only [List.setIfInBounds_toArray, List.set_cons_zero, List.set_cons_succ])
    first
      | (refine take_at (i := 1) (v := ?_) rfl rfl (by kernel_rfl) (by kernel_rfl) (by kernel_rfl) (fun _ _ _ h => h) (Or.inl ⟨by rfl, ?hy⟩) (by assumption) ?_
         case hy => (intro wz hSw; (try dsimp only at hSw); go_simp <;> with_reducible rfl)
         simp only [List.setIfInBounds_toArray, List.set_cons_zero, List.set_cons_succ])
      | (refine take_at (i := 1) (v := undef) rfl rfl (by kernel_rfl) (by kernel_rfl) (by kernel_rfl) (fun _ _ _ h => h) (Or.inr ⟨by rfl, rfl⟩) (by assumption) ?_
         simp only [List.setIfInBounds_toArray, List.set_cons_zero, List.set_cons_succ])
    first
      | (refine take_at (i := 2) (v := ?_) rfl rfl (by kernel_rfl) (by kernel_rfl) (by kernel_rfl) (fun _ _ _ h => h) (Or.inl ⟨by rfl, ?hy⟩) (by assumption) ?_
         case hy => (intro wz hSw; (try dsimp only at hSw); go_simp <;> with_reducible rfl)
         simp only [List.setIfInBounds_toArray, List.set_cons_zero, List.set_cons_succ])
      | (refine take_at (i := 2) (v := undef) rfl rfl (by kernel_rfl) (by kernel_rfl) (by kernel_rfl) (fun _ _ _ h => h) (Or.inr ⟨by rfl, rfl⟩) (by assumption) ?_
         simp only [List.setIfInBounds_toArray, List.set_cons_zero, List.set_cons_succ])
    first
      | (refine take_at (i := 3) (v := ?_) rfl rfl (by kernel_rfl) (by kernel_rfl) (by kernel_rfl) (fun _ _ _ h => h) (Or.inl ⟨by rfl, ?hy⟩) (by assumption) ?_
         case hy => (intro wz hSw; (try dsimp only at hSw); go_simp <;> with_reducible rfl)
         simp only [List.setIfInBounds_toArray, List.set_cons_zero, List.set_cons_succ])
      | (refine take_at (i := 3) (v := undef) rfl rfl (by kernel_rfl) (by kernel_rfl) (by kernel_rfl) (fun _ _ _ h => h) (Or.inr ⟨by rfl, rfl⟩) (by assumption) ?_
         simp only [List.setIfInBounds_toArray, List.set_cons_zero, List.set_cons_succ])
    first
      | (refine take_at (i := 4) (v := ?_) rfl rfl (by kernel_rfl) (by kernel_rfl) (by kernel_rfl) (fun _ _ _ h => h) (Or.inl ⟨by rfl, ?hy⟩) (by assumption) ?_
         case hy => (intro wz hSw; (try dsimp only at hSw); go_simp <;> with_reducible rfl)
         simp only [List.setIfInBounds_toArray, List.set_cons_zero, List.set_cons_succ])
      | (refine take_at (i := 4) (v := undef) rfl rfl (by kernel_rfl) (by kernel_rfl) (by kernel_rfl) (fun _ _ _ h => h) (Or.inr ⟨by rfl, rfl⟩) (by assumption) ?_
         simp only [List.setIfInBounds_toArray, List.set_cons_zero, List.set_cons_succ])
    first
      | (refine take_at (i := 5) (v := ?_) rfl rfl (by kernel_rfl) (by kernel_rfl) (by kernel_rfl) (fun _ _ _ h => h) (Or.inl ⟨by rfl, ?hy⟩) (by assumption) ?_
         case hy => (intro wz hSw; (try dsimp only at hSw); go_simp <;> with_reducible rfl)
         simp only [List.setIfInBounds_toArray, List.set_cons_zero, List.set_cons_succ])
      | (refine take_at (i := 5) (v := undef) rfl rfl (by kernel_rfl) (by kernel_rfl) (by kernel_rfl) (fun _ _ _ h => h) (Or.inr ⟨by rfl, rfl⟩) (by assumption) ?_
         simp only [List.setIfInBounds_toArray, List.set_cons_zero, List.set_cons_succ])
    first
      | (refine take_at (i := 6) (v := ?_) rfl rfl (by kernel_rfl) (by kernel_rfl) (by kernel_rfl) (fun _ _ _ h => h) (Or.inl ⟨by rfl, ?hy⟩) (by assumption) ?_
         case hy => (intro wz hSw; (try dsimp only at hSw); go_simp <;> with_reducible rfl)
         simp only [List.setIfInBounds_toArray, List.set_cons_zero, List.set_cons_succ])
      | (refine take_at (i := 6) (v := undef) rfl rfl (by kernel_rfl) (by kernel_rfl) (by kernel_rfl) (fun _ _ _ h => h) (Or.inr ⟨by rfl, rfl⟩) (by assumption) ?_
         simp only [List.setIfInBounds_toArray, List.set_cons_zero, List.set_cons_succ])
    first
      | (refine take_at (i := 7) (v := ?_) rfl rfl (by kernel_rfl) (by kernel_rfl) (by kernel_rfl) (fun _ _ _ h => h) (Or.inl ⟨by rfl, ?hy⟩) (by assumption) ?_
         case hy => (intro wz hSw; (try dsimp only at hSw); go_simp <;> with_reducible rfl)
         simp only [List.setIfInBounds_toArray, List.set_cons_zero, List.set_cons_succ])
      | (refine take_at (i := 7) (v := undef) rfl rfl (by kernel_rfl) (by kernel_rfl) (by kernel_rfl) (fun _ _ _ h => h) (Or.inr ⟨by rfl, rfl⟩) (by assumption) ?_
         simp only [List.setIfInBounds_toArray, List.set_cons_zero, List.set_cons_succ])
    first
      | (refine take_at (i := 8) (v := ?_) rfl rfl (by kernel_rfl) (by kernel_rfl) (by kernel_rfl) (fun _ _ _ h => h) (Or.inl ⟨by rfl, ?hy⟩) (by assumption) ?_
         case hy => (intro wz hSw; (try dsimp only at hSw); go_simp <;> with_reducible rfl)
         simp only [List.setIfInBounds_toArray, List.set_cons_zero, List.set_cons_succ])
      | (refine take_at (i := 8) (v := undef) rfl rfl (by kernel_rfl) (by kernel_rfl) (by kernel_rfl) (fun _ _ _ h => h) (Or.inr ⟨by rfl, rfl⟩) (by assumption) ?_
         simp only [List.setIfInBounds_toArray, List.set_cons_zero, List.set_cons_succ])
    first
      | (refine take_at (i := 9) (v := ?_) rfl rfl (by kernel_rfl) (by kernel_rfl) (by kernel_rfl) (fun _ _ _ h => h) (Or.inl ⟨by rfl, ?hy⟩) (by assumption) ?_
         case hy => (intro wz hSw; (try dsimp only at hSw); go_simp <;> with_reducible rfl)
         simp only [List.setIfInBounds_toArray, List.set_cons_zero, List.set_cons_succ])
      | (refine take_at (i := 9) (v := undef) rfl rfl (by kernel_rfl) (by kernel_rfl) (by kernel_rfl) (fun _ _ _ h => h) (Or.inr ⟨by rfl, rfl⟩) (by assumption) ?_
         simp only [List.setIfInBounds_toArray, List.set_cons_zero, List.set_cons_succ])
    first
      | (refine take_at (i := 10) (v := ?_) rfl rfl (by kernel_rfl) (by kernel_rfl) (by kernel_rfl) (fun _ _ _ h => h) (Or.inl ⟨by rfl, ?hy⟩) (by assumption) ?_
         case hy => (intro wz hSw; (try dsimp only at hSw); go_simp <;> with_reducible rfl)
         simp only [List.setIfInBounds_toArray, List.set_cons_zero, List.set_cons_succ])
      | (refine take_at (i := 10) (v := undef) rfl rfl (by kernel_rfl) (by kernel_rfl) (by kernel_rfl) (fun _ _ _ h => h) (Or.inr ⟨by rfl, rfl⟩) (by assumption) ?_
         simp only [List.setIfInBounds_toArray, List.set_cons_zero, List.set_cons_succ])
    first
      | (refine take_at (i := 11) (v := ?_) rfl rfl (by kernel_rfl) (by kernel_rfl) (by kernel_rfl) (fun _ _ _ h => h) (Or.inl ⟨by rfl, ?hy⟩) (by assumption) ?_
         case hy => (intro wz hSw; (try dsimp only at hSw); go_simp <;> with_reducible rfl)
         simp only [List.setIfInBounds_toArray, List.set_cons_zero, List.set_cons_succ])
      | (refine take_at (i := 11) (v := undef) rfl rfl (by kernel_rfl) (by kernel_rfl) (by kernel_rfl) (fun _ _ _ h => h) (Or.inr ⟨by rfl, rfl⟩) (by assumption) ?_
         simp only [List.setIfInBounds_toArray, List.set_cons_zero, List.set_cons_succ])
    refine call_at (i := 12) (F := 136) (HCP.out _ hHeld) rfl rfl (by kernel_rfl) (by rfl) (by first | rfl | (go_simp <;> rfl)) ?_
    rintro e wq1 ⟨rfl, Xq1⟩
    have Yq1 := Ext.trans hHeld Xq1
    refine ⟨_, rfl, Yq1, wpAnyH_strong (S' := fun w' => Ext wq1 w') (fun w' h => Ext.trans Yq1 h) _ _ _ _ ?_⟩
    simp only [List.setIfInBounds_toArray, List.set_cons_zero, List.set_cons_succ]
    have Zq1 : Ext w wq1 := Ext.trans (by assumption) Yq1
    clear hHeld Xq1 Yq1
    have hHeld := Ext.refl wq1
    clear k1 k2 k3 k4 k5 k6 k7
    have j1 := fun w' (hx : Ext wq1 w') => hx.cell (Zq1.cell c1)
    have j4 := fun w' (hx : Ext wq1 w') => hx.cell (Zq1.cell s4)
    first
      | (refine take_at (i := 13) (v := ?_) rfl rfl (by kernel_rfl) (by kernel_rfl) (by kernel_rfl) (fun _ _ _ h => h) (Or.inl ⟨by rfl, ?hy⟩) (by assumption) ?_
         case hy => (intro wz hSw; (try dsimp only at hSw); go_simp <;> with_reducible rfl)
         simp only [List.setIfInBounds_toArray, List.set_cons_zero, List.set_cons_succ])
      | (refine take_at (i := 13) (v := undef) rfl rfl (by kernel_rfl) (by kernel_rfl) (by kernel_rfl) (fun _ _ _ h => h) (Or.inr ⟨by rfl, rfl⟩) (by assumption) ?_
         simp only [List.setIfInBounds_toArray, List.set_cons_zero, List.set_cons_succ])
    first
      | (refine take_at (i := 14) (v := ?_) rfl rfl (by kernel_rfl) (by kernel_rfl) (by kernel_rfl) (fun _ _ _ h => h) (Or.inl ⟨by rfl, ?hy⟩) (by assumption) ?_
         case hy => (intro wz hSw; (try dsimp only at hSw); go_simp <;> with_reducible rfl)
         simp only [List.setIfInBounds_toArray, List.set_cons_zero, List.set_cons_succ])
      | (refine take_at (i := 14) (v := undef) rfl rfl (by kernel_rfl) (by kernel_rfl) (by kernel_rfl) (fun _ _ _ h => h) (Or.inr ⟨by rfl, rfl⟩) (by assumption) ?_
         simp only [List.setIfInBounds_toArray, List.set_cons_zero, List.set_cons_succ])
    first
      | (refine take_at (i := 15) (v := ?_) rfl rfl (by kernel_rfl) (by kernel_rfl) (by kernel_rfl) (fun _ _ _ h => h) (Or.inl ⟨by rfl, ?hy⟩) (by assumption) ?_
         case hy => (intro wz hSw; (try dsimp only at hSw); go_simp <;> with_reducible rfl)
         simp only [List.setIfInBounds_toArray, List.set_cons_zero, List.set_cons_succ])
      | (refine take_at (i := 15) (v := undef) rfl rfl (by kernel_rfl) (by kernel_rfl) (by kernel_rfl) (fun _ _ _ h => h) (Or.inr ⟨by rfl, rfl⟩) (by assumption) ?_
         simp only [List.setIfInBounds_toArray, List.set_cons_zero, List.set_cons_succ])
    first
      | (refine take_at (i := 16) (v := ?_) rfl rfl (by kernel_rfl) (by kernel_rfl) (by kernel_rfl) (fun _ _ _ h => h) (Or.inl ⟨by rfl, ?hy⟩) (by assumption) ?_
         case hy => (intro wz hSw; (try dsimp only at hSw); go_simp <;> with_reducible rfl)
         simp only [List.setIfInBounds_toArray, List.set_cons_zero, List.set_cons_succ])
      | (refine take_at (i := 16) (v := undef) rfl rfl (by kernel_rfl) (by kernel_rfl) (by kernel_rfl) (fun _ _ _ h => h) (Or.inr ⟨by rfl, rfl⟩) (by assumption) ?_
         simp only [List.setIfInBounds_toArray, List.set_cons_zero, List.set_cons_succ])
    first
      | (refine take_at (i := 17) (v := ?_) rfl rfl (by kernel_rfl) (by kernel_rfl) (by kernel_rfl) (fun _ _ _ h => h) (Or.inl ⟨by rfl, ?hy⟩) (by assumption) ?_
         case hy => (intro wz hSw; (try dsimp only at hSw); go_simp <;> with_reducible rfl)
         simp only [List.setIfInBounds_toArray, List.set_cons_zero, List.set_cons_succ])
      | (refine take_at (i := 17) (v := undef) rfl rfl (by kernel_rfl) (by kernel_rfl) (by kernel_rfl) (fun _ _ _ h => h) (Or.inr ⟨by rfl, rfl⟩) (by assumption) ?_
         simp only [List.setIfInBounds_toArray, List.set_cons_zero, List.set_cons_succ])
    first
      | (refine take_at (i := 18) (v := ?_) rfl rfl (by kernel_rfl) (by kernel_rfl) (by kernel_rfl) (fun _ _ _ h => h) (Or.inl ⟨by rfl, ?hy⟩) (by assumption) ?_
         case hy => (intro wz hSw; (try dsimp only at hSw); go_simp <;> with_reducible rfl)
         simp only [List.setIfInBounds_toArray, List.set_cons_zero, List.set_cons_succ])
      | (refine take_at (i := 18) (v := undef) rfl rfl (by kernel_rfl) (by kernel_rfl) (by kernel_rfl) (fun _ _ _ h => h) (Or.inr ⟨by rfl, rfl⟩) (by assumption) ?_
         simp only [List.setIfInBounds_toArray, List.set_cons_zero, List.set_cons_succ])
    first
      | (refine take_at (i := 19) (v := ?_) rfl rfl (by kernel_rfl) (by kernel_rfl) (by kernel_rfl) (fun _ _ _ h => h) (Or.inl ⟨by rfl, ?hy⟩) (by assumption) ?_
         case hy => (intro wz hSw; (try dsimp only at hSw); go_simp <;> with_reducible rfl)
         simp only [List.setIfInBounds_toArray, List.set_cons_zero, List.set_cons_succ])
      | (refine take_at (i := 19) (v := undef) rfl rfl (by kernel_rfl) (by kernel_rfl) (by kernel_rfl) (fun _ _ _ h => h) (Or.inr ⟨by rfl, rfl⟩) (by assumption) ?_
         simp only [List.setIfInBounds_toArray, List.set_cons_zero, List.set_cons_succ])
    first
      | (refine take_at (i := 20) (v := ?_) rfl rfl (by kernel_rfl) (by kernel_rfl) (by kernel_rfl) (fun _ _ _ h => h) (Or.inl ⟨by rfl, ?hy⟩) (by assumption) ?_
         case hy => (intro wz hSw; (try dsimp only at hSw); go_simp <;> with_reducible rfl)
         simp only [List.setIfInBounds_toArray, List.set_cons_zero, List.set_cons_succ])
      | (refine take_at (i := 20) (v := undef) rfl rfl (by kernel_rfl) (by kernel_rfl) (by kernel_rfl) (fun _ _ _ h => h) (Or.inr ⟨by rfl, rfl⟩) (by assumption) ?_
         simp only [List.setIfInBounds_toArray, List.set_cons_zero, List.set_cons_succ])
    first
      | (refine take_at (i := 21) (v := ?_) rfl rfl (by kernel_rfl) (by kernel_rfl) (by kernel_rfl) (fun _ _ _ h => h) (Or.inl ⟨by rfl, ?hy⟩) (by assumption) ?_
         case hy => (intro wz hSw; (try dsimp only at hSw); go_simp <;> with_reducible rfl)
         simp only [List.setIfInBounds_toArray, List.set_cons_zero, List.set_cons_succ])
      | (refine take_at (i := 21) (v := undef) rfl rfl (by kernel_rfl) (by kernel_rfl) (by kernel_rfl) (fun _ _ _ h => h) (Or.inr ⟨by rfl, rfl⟩) (by assumption) ?_
         simp only [List.setIfInBounds_toArray, List.set_cons_zero, List.set_cons_succ])
    first
      | (refine take_at (i := 22) (v := ?_) rfl rfl (by kernel_rfl) (by kernel_rfl) (by kernel_rfl) (fun _ _ _ h => h) (Or.inl ⟨by rfl, ?hy⟩) (by assumption) ?_
         case hy => (intro wz hSw; (try dsimp only at hSw); go_simp <;> with_reducible rfl)
         simp only [List.setIfInBounds_toArray, List.set_cons_zero, List.set_cons_succ])
      | (refine take_at (i := 22) (v := undef) rfl rfl (by kernel_rfl) (by kernel_rfl) (by kernel_rfl) (fun _ _ _ h => h) (Or.inr ⟨by rfl, rfl⟩) (by assumption) ?_
         simp only [List.setIfInBounds_toArray, List.set_cons_zero, List.set_cons_succ])
    first
      | (refine take_at (i := 23) (v := ?_) rfl rfl (by kernel_rfl) (by kernel_rfl) (by kernel_rfl) (fun _ _ _ h => h) (Or.inl ⟨by rfl, ?hy⟩) (by assumption) ?_
         case hy => (intro wz hSw; (try dsimp only at hSw); go_simp <;> with_reducible rfl)
         simp only [List.setIfInBounds_toArray, List.set_cons_zero, List.set_cons_succ])
      | (refine take_at (i := 23) (v := undef) rfl rfl (by kernel_rfl) (by kernel_rfl) (by kernel_rfl) (fun _ _ _ h => h) (Or.inr ⟨by rfl, rfl⟩) (by assumption) ?_
         simp only [List.setIfInBounds_toArray, List.set_cons_zero, List.set_cons_succ])
    first
      | (refine take_at (i := 24) (v := ?_) rfl rfl (by kernel_rfl) (by kernel_rfl) (by kernel_rfl) (fun _ _ _ h => h) (Or.inl ⟨by rfl, ?hy⟩) (by assumption) ?_
         case hy => (intro wz hSw; (try dsimp only at hSw); go_simp <;> with_reducible rfl)
         simp only [List.setIfInBounds_toArray, List.set_cons_zero, List.set_cons_succ])
      | (refine take_at (i := 24) (v := undef) rfl rfl (by kernel_rfl) (by kernel_rfl) (by kernel_rfl) (fun _ _ _ h => h) (Or.inr ⟨by rfl, rfl⟩) (by assumption) ?_
         simp only [List.setIfInBounds_toArray, List.set_cons_zero, List.set_cons_succ])
    first
      | (refine take_at (i := 25) (v := ?_) rfl rfl (by kernel_rfl) (by kernel_rfl) (by kernel_rfl) (fun _ _ _ h => h) (Or.inl ⟨by rfl, ?hy⟩) (by assumption) ?_
         case hy => (intro wz hSw; (try dsimp only at hSw); go_simp <;> with_reducible rfl)
         simp only [List.setIfInBounds_toArray, List.set_cons_zero, List.set_cons_succ])
      | (refine take_at (i := 25) (v := undef) rfl rfl (by kernel_rfl) (by kernel_rfl) (by kernel_rfl) (fun _ _ _ h => h) (Or.inr ⟨by rfl, rfl⟩) (by assumption) ?_
         simp only [List.setIfInBounds_toArray, List.set_cons_zero, List.set_cons_succ])
    first
      | (refine take_at (i := 26) (v := ?_) rfl rfl (by kernel_rfl) (by kernel_rfl) (by kernel_rfl) (fun _ _ _ h => h) (Or.inl ⟨by rfl, ?hy⟩) (by assumption) ?_
         case hy => (intro wz hSw; (try dsimp only at hSw); go_simp <;> with_reducible rfl)
         simp only [List.setIfInBounds_toArray, List.set_cons_zero, List.set_cons_succ])
      | (refine take_at (i := 26) (v := undef) rfl rfl (by kernel_rfl) (by kernel_rfl) (by kernel_rfl) (fun _ _ _ h => h) (Or.inr ⟨by rfl, rfl⟩) (by assumption) ?_
         simp only [List.setIfInBounds_toArray, List.set_cons_zero, List.set_cons_succ])
    first
      | (refine take_at (i := 27) (v := ?_) rfl rfl (by kernel_rfl) (by kernel_rfl) (by kernel_rfl) (fun _ _ _ h => h) (Or.inl ⟨by rfl, ?hy⟩) (by assumption) ?_
         case hy => (intro wz hSw; (try dsimp only at hSw); go_simp <;> with_reducible rfl)
         simp only [List.setIfInBounds_toArray, List.set_cons_zero, List.set_cons_succ])
      | (refine take_at (i := 27) (v := undef) rfl rfl (by kernel_rfl) (by kernel_rfl) (by kernel_rfl) (fun _ _ _ h => h) (Or.inr ⟨by rfl, rfl⟩) (by assumption) ?_
         simp only [List.setIfInBounds_toArray, List.set_cons_zero, List.set_cons_succ])
    first
      | (refine take_at (i := 28) (v := ?_) rfl rfl (by kernel_rfl) (by kernel_rfl) (by kernel_rfl) (fun _ _ _ h => h) (Or.inl ⟨by rfl, ?hy⟩) (by assumption) ?_
         case hy => (intro wz hSw; (try dsimp only at hSw); go_simp <;> with_reducible rfl)
         simp only [List.setIfInBounds_toArray, List.set_cons_zero, List.set_cons_succ])
      | (refine take_at (i := 28) (v := undef) rfl rfl (by kernel_rfl) (by kernel_rfl) (by kernel_rfl) (fun _ _ _ h => h) (Or.inr ⟨by rfl, rfl⟩) (by assumption) ?_
         simp only [List.setIfInBounds_toArray, List.set_cons_zero, List.set_cons_succ])
    first
      | (refine take_at (i := 29) (v := ?_) rfl rfl (by kernel_rfl) (by kernel_rfl) (by kernel_rfl) (fun _ _ _ h => h) (Or.inl ⟨by rfl, ?hy⟩) (by assumption) ?_
         case hy => (intro wz hSw; (try dsimp only at hSw); go_simp <;> with_reducible rfl)
         simp only [List.setIfInBounds_toArray, List.set_cons_zero, List.set_cons_succ])
      | (refine take_at (i := 29) (v := undef) rfl rfl (by kernel_rfl) (by kernel_rfl) (by kernel_rfl) (fun _ _ _ h => h) (Or.inr ⟨by rfl, rfl⟩) (by assumption) ?_
         simp only [List.setIfInBounds_toArray, List.set_cons_zero, List.set_cons_succ])
    first
      | (refine take_at (i := 30) (v := ?_) rfl rfl (by kernel_rfl) (by kernel_rfl) (by kernel_rfl) (fun _ _ _ h => h) (Or.inl ⟨by rfl, ?hy⟩) (by assumption) ?_
         case hy => (intro wz hSw; (try dsimp only at hSw); go_simp <;> with_reducible rfl)
         simp only [List.setIfInBounds_toArray, List.set_cons_zero, List.set_cons_succ])
      | (refine take_at (i := 30) (v := undef) rfl rfl (by kernel_rfl) (by kernel_rfl) (by kernel_rfl) (fun _ _ _ h => h) (Or.inr ⟨by rfl, rfl⟩) (by assumption) ?_
         simp only [List.setIfInBounds_toArray, List.set_cons_zero, List.set_cons_succ])
    first
      | (refine take_at (i := 31) (v := ?_) rfl rfl (by kernel_rfl) (by kernel_rfl) (by kernel_rfl) (fun _ _ _ h => h) (Or.inl ⟨by rfl, ?hy⟩) (by assumption) ?_
         case hy => (intro wz hSw; (try dsimp only at hSw); go_simp <;> with_reducible rfl)
         simp only [List.setIfInBounds_toArray, List.set_cons_zero, List.set_cons_succ])
      | (refine take_at (i := 31) (v := undef) rfl rfl (by kernel_rfl) (by kernel_rfl) (by kernel_rfl) (fun _ _ _ h => h) (Or.inr ⟨by rfl, rfl⟩) (by assumption) ?_
         simp only [List.setIfInBounds_toArray, List.set_cons_zero, List.set_cons_succ])
    first
      | (refine take_at (i := 32) (v := ?_) rfl rfl (by kernel_rfl) (by kernel_rfl) (by kernel_rfl) (fun _ _ _ h => h) (Or.inl ⟨by rfl, ?hy⟩) (by assumption) ?_
         case hy => (intro wz hSw; (try dsimp only at hSw); go_simp <;> with_reducible rfl)
         simp only [List.setIfInBounds_toArray, List.set_cons_zero, List.set_cons_succ])
      | (refine take_at (i := 32) (v := undef) rfl rfl (by kernel_rfl) (by kernel_rfl) (by kernel_rfl) (fun _ _ _ h => h) (Or.inr ⟨by rfl, rfl⟩) (by assumption) ?_
         simp only [List.setIfInBounds_toArray, List.set_cons_zero, List.set_cons_succ])
    first
      | (refine take_at (i := 33) (v := ?_) rfl rfl (by kernel_rfl) (by kernel_rfl) (by kernel_rfl) (fun _ _ _ h => h) (Or.inl ⟨by rfl, ?hy⟩) (by assumption) ?_
         case hy => (intro wz hSw; (try dsimp only at hSw); go_simp <;> with_reducible rfl)
         simp only [List.setIfInBounds_toArray, List.set_cons_zero, List.set_cons_succ])
      | (refine take_at (i := 33) (v := undef) rfl rfl (by kernel_rfl) (by kernel_rfl) (by kernel_rfl) (fun _ _ _ h => h) (Or.inr ⟨by rfl, rfl⟩) (by assumption) ?_
         simp only [List.setIfInBounds_toArray, List.set_cons_zero, List.set_cons_succ])
    refine wpAnyH_done (by kernel_rfl) ?_ _
    have HX := Lib.hid Zq1
    go_wp2
    first
      | exact ⟨rfl, HX.out⟩
      | (go_ret; exact ⟨rfl, HX.out⟩)
end Go.Proofs.YtkmfamidahlgiaaGreatDoor
/- Publishing, looking. -/
namespace Go.Proofs.YtkmfamidahlgiaaGreatDoor
open Go.RowKit
set_option linter.unusedVariables false
set_option linter.unusedSimpArgs false
set_option maxHeartbeats 4000000
attribute [local go_sem] later_cell later_frozen later_const
set_option maxRecDepth 100000 in
/-- publishing what was claimed -/
theorem soPublish32 {W0 w : World} {b g sb lb : Nat} {y : LY} {f : Nat → Int} {lv : Value} {log : List Acc} {ups : List (List Int)} {su ev : Value} {xs : List Int} {N L : Int} {vL : Value} {EL : List Ev} {fb n t : Nat} {F : Nat → Fm} (K : BK y ups) (hV : y.V = 1) (E : Parts w) (h : ST32 W0 w b g sb lb y f lv log ups su ev xs N L vL EL) (hF : FB32 W0 w b g sb lb lv vL fb n F) (ht : t * 11 + 11 ≤ n) (hf : Rgs32 f) (hl : log.length ≤ 1000) (he : EL.length ≤ 900000) (h1 : 1 ≤ (F t).N) (h2 : (F t).N ≤ y.C) (h0 : 0 ≤ (F t).Fr ∧ (F t).Fr < 4294967296) :
    Calls Tryz.prog 38 #[.pointer (some ⟨sb, 0, none⟩), .int .i64 0, .pointer (some ⟨fb, t * 11, none⟩)] w fun e w' => e = .returned (.bool true) ∧ ∃ lv2 vL2, Run32 W0 w w' lv vL b g sb lb y (upd f y.n ((((F t).Fr + (F t).N) % 4294967296))) lv2 (log ++ [⟨0, 2, y.n, f y.n, (((F t).Fr + (F t).N) % 4294967296)⟩]) ups su ev xs N L vL2 (EL ++ [evP 0 (F t).N (F t).Fr]) fb n F := by
  have CM := soMay32 K hV h hF ht 0
  rw [show (decide ((0 : Int) = 0) && decide (1 ≤ (F t).N) && decide ((F t).N ≤ y.C)) = true by simp [h1, h2]] at CM
  have HCM := Lib.hid CM
  obtain ⟨kc, kk, klt⟩ := K.cursor hV
  have HR := Lib.hid (Run32.start h hF)
  have HE := Lib.hid (fun w' (hx : Ext w w') => E.ext hx)
  have HF1 := Lib.hid (fun w' (hx : Ext w w') => (hF.ext hx))
  have hz : 0 ≤ ((((F t).Fr + (F t).N) % 4294967296)) ∧ ((((F t).Fr + (F t).N) % 4294967296)) < 4294967296 := by
    first
      | omega
      | exact U64_range _
  have CS := Lib.hid (fun w1 (h1 : BD w1 121 b g y f lv log) (E1 : Parts w1) => Store32_yes b g y f lv log 0 ((((F t).Fr + (F t).N) % 4294967296)) y.n w1 h1 K.yok E1 kk hz.1 hz.2 (hf y.n).1 (by have := (hf y.n).2; omega) hl)
  have CN := Lib.hid (fun w1 {f2 lv2 log2} (h1 : Run32 W0 w w1 lv vL b g sb lb y f2 lv2 log2 ups su ev xs N L vL EL fb n F) => soNote32 h1 ht 5 0 he h0)
  have CA := Lib.hid (fun w => addU32 (F t).Fr (F t).N w)
  clear CM h hF E K hf hl he h1 h2 hz kk klt
  have hto := ht
  obtain ⟨o, ho⟩ : ∃ o, o = t * 11 := ⟨_, rfl⟩
  have HO := Lib.hid ho
  rw [← ho] at HCM ⊢
  clear ho hto
  replace ht := Lib.hid ht
  replace h0 := Lib.hid h0
  go_enter Tryz.func38, Tryz.ntmps38
  go_wp2_with fail
  refine HCM.out.mono ?_
  rintro e w1 ⟨rfl, X1⟩
  have HX1 := Lib.hid X1
  have HR1 := Lib.hid (HR.out.ext X1)
  clear X1 HCM HR
  go_upto_region 2 with (fail)
  refine settle_wp ?_
  intro w2 X2
  have HX2 := Lib.hid (HX1.out.trans X2)
  have HR2 := Lib.hid (HR1.out.ext X2)
  have c1 : w2.cell? ⟨fb, o + 1, none⟩ = some (.int .i64 (F t).N) := by rw [HO.out]; exact (HR2.out.F.at_ ht.out 1 (by decide)).1
  have c6 : w2.cell? ⟨fb, o + 6, none⟩ = some (.int .u32 (F t).Fr) := by rw [HO.out]; exact (HR2.out.F.at_ ht.out 6 (by decide)).1
  have s0 := HR2.out.T.S.q0
  have s8 := HR2.out.T.S.q8
  rw [kc] at s8
  clear X2 HX1 HR1
  have k1 := fun w' (hx : Ext w2 w') => hx.cell c1
  have k2 := fun w' (hx : Ext w2 w') => hx.cell c6
  have k3 := fun w' (hx : Ext w2 w') => hx.cell s0
  have k4 := fun w' (hx : Ext w2 w') => hx.cell s8
  refine wp_region_D (fun i => decide (i ≤ 17)) (by kernel_rfl) ?_
  refine take_D (i := 0) (v := ?_) rfl rfl rfl (by kernel_rfl) (by kernel_rfl) (by kernel_rfl) (by kernel_rfl) (by kernel_rfl) (((Ext.refl w2).drew)) ?hyp ?_
  case hyp => intro wz hSw; (try dsimp only at hSw); go_simp <;> with_reducible rfl
  simp only [List.setIfInBounds_toArray, List.set_cons_zero, List.set_cons_succ]
  refine take_D (i := 1) (v := ?_) rfl rfl rfl (by kernel_rfl) (by kernel_rfl) (by kernel_rfl) (by kernel_rfl) (by kernel_rfl) (((Ext.refl w2).drew)) ?hyp ?_
  case hyp => intro wz hSw; (try dsimp only at hSw); go_simp <;> with_reducible rfl
  simp only [List.setIfInBounds_toArray, List.set_cons_zero, List.set_cons_succ]
  refine take_D (i := 2) (v := ?_) rfl rfl rfl (by kernel_rfl) (by kernel_rfl) (by kernel_rfl) (by kernel_rfl) (by kernel_rfl) (((Ext.refl w2).drew)) ?hyp ?_
  case hyp => intro wz hSw; (try dsimp only at hSw); go_simp <;> with_reducible rfl
  simp only [List.setIfInBounds_toArray, List.set_cons_zero, List.set_cons_succ]
  refine take_D (i := 3) (v := ?_) rfl rfl rfl (by kernel_rfl) (by kernel_rfl) (by kernel_rfl) (by kernel_rfl) (by kernel_rfl) (((Ext.refl w2).drew)) ?hyp ?_
  case hyp => intro wz hSw; (try dsimp only at hSw); go_simp <;> with_reducible rfl
  simp only [List.setIfInBounds_toArray, List.set_cons_zero, List.set_cons_succ]
  refine take_D (i := 4) (v := ?_) rfl rfl rfl (by kernel_rfl) (by kernel_rfl) (by kernel_rfl) (by kernel_rfl) (by kernel_rfl) (((Ext.refl w2).drew)) ?hyp ?_
  case hyp => intro wz hSw; (try dsimp only at hSw); go_simp <;> with_reducible rfl
  simp only [List.setIfInBounds_toArray, List.set_cons_zero, List.set_cons_succ]
  refine take_D (i := 5) (v := ?_) rfl rfl rfl (by kernel_rfl) (by kernel_rfl) (by kernel_rfl) (by kernel_rfl) (by kernel_rfl) (((Ext.refl w2).drew)) ?hyp ?_
  case hyp => intro wz hSw; (try dsimp only at hSw); go_simp <;> with_reducible rfl
  simp only [List.setIfInBounds_toArray, List.set_cons_zero, List.set_cons_succ]
  refine take_D (i := 6) (v := ?_) rfl rfl rfl (by kernel_rfl) (by kernel_rfl) (by kernel_rfl) (by kernel_rfl) (by kernel_rfl) (((Ext.refl w2).drew)) ?hyp ?_
  case hyp => intro wz hSw; (try dsimp only at hSw); go_simp <;> with_reducible rfl
  simp only [List.setIfInBounds_toArray, List.set_cons_zero, List.set_cons_succ]
  refine take_D (i := 7) (v := ?_) rfl rfl rfl (by kernel_rfl) (by kernel_rfl) (by kernel_rfl) (by kernel_rfl) (by kernel_rfl) (((Ext.refl w2).drew)) ?hyp ?_
  case hyp => intro wz hSw; (try dsimp only at hSw); go_simp <;> with_reducible rfl
  simp only [List.setIfInBounds_toArray, List.set_cons_zero, List.set_cons_succ]
  refine take_D (i := 8) (v := ?_) rfl rfl rfl (by kernel_rfl) (by kernel_rfl) (by kernel_rfl) (by kernel_rfl) (by kernel_rfl) (((Ext.refl w2).drew)) ?hyp ?_
  case hyp => intro wz hSw; (try dsimp only at hSw); go_simp <;> with_reducible rfl
  simp only [List.setIfInBounds_toArray, List.set_cons_zero, List.set_cons_succ]
  refine take_D (i := 9) (v := ?_) rfl rfl rfl (by kernel_rfl) (by kernel_rfl) (by kernel_rfl) (by kernel_rfl) (by kernel_rfl) (((Ext.refl w2).drew)) ?hyp ?_
  case hyp => intro wz hSw; (try dsimp only at hSw); go_simp <;> with_reducible rfl
  simp only [List.setIfInBounds_toArray, List.set_cons_zero, List.set_cons_succ]
  refine take_D (i := 10) (v := ?_) rfl rfl rfl (by kernel_rfl) (by kernel_rfl) (by kernel_rfl) (by kernel_rfl) (by kernel_rfl) (((Ext.refl w2).drew)) ?hyp ?_
  case hyp => intro wz hSw; (try dsimp only at hSw); go_simp <;> with_reducible rfl
  simp only [List.setIfInBounds_toArray, List.set_cons_zero, List.set_cons_succ]
  refine take_D (i := 11) (v := ?_) rfl rfl rfl (by kernel_rfl) (by kernel_rfl) (by kernel_rfl) (by kernel_rfl) (by kernel_rfl) (((Ext.refl w2).drew)) ?hyp ?_
  case hyp => intro wz hSw; (try dsimp only at hSw); go_simp <;> with_reducible rfl
  simp only [List.setIfInBounds_toArray, List.set_cons_zero, List.set_cons_succ]
  refine take_D (i := 12) (v := ?_) rfl rfl rfl (by kernel_rfl) (by kernel_rfl) (by kernel_rfl) (by kernel_rfl) (by kernel_rfl) (((Ext.refl w2).drew)) ?hyp ?_
  case hyp => intro wz hSw; (try dsimp only at hSw); go_simp <;> with_reducible rfl
  simp only [List.setIfInBounds_toArray, List.set_cons_zero, List.set_cons_succ]
  refine take_D (i := 13) (v := ?_) rfl rfl rfl (by kernel_rfl) (by kernel_rfl) (by kernel_rfl) (by kernel_rfl) (by kernel_rfl) (((Ext.refl w2).drew)) ?hyp ?_
  case hyp => intro wz hSw; (try dsimp only at hSw); go_simp <;> with_reducible rfl
  simp only [List.setIfInBounds_toArray, List.set_cons_zero, List.set_cons_succ]
  refine take_D (i := 14) (v := ?_) rfl rfl rfl (by kernel_rfl) (by kernel_rfl) (by kernel_rfl) (by kernel_rfl) (by kernel_rfl) (((Ext.refl w2).drew)) ?hyp ?_
  case hyp => intro wz hSw; (try dsimp only at hSw); go_simp <;> with_reducible rfl
  simp only [List.setIfInBounds_toArray, List.set_cons_zero, List.set_cons_succ]
  refine take_D (i := 15) (v := ?_) rfl rfl rfl (by kernel_rfl) (by kernel_rfl) (by kernel_rfl) (by kernel_rfl) (by kernel_rfl) (((Ext.refl w2).drew)) ?hyp ?_
  case hyp => intro wz hSw; (try dsimp only at hSw); go_simp <;> with_reducible rfl
  simp only [List.setIfInBounds_toArray, List.set_cons_zero, List.set_cons_succ]
  refine take_D (i := 16) (v := ?_) rfl rfl rfl (by kernel_rfl) (by kernel_rfl) (by kernel_rfl) (by kernel_rfl) (by kernel_rfl) (((Ext.refl w2).drew)) ?hyp ?_
  case hyp => intro wz hSw; (try dsimp only at hSw); go_simp <;> with_reducible rfl
  simp only [List.setIfInBounds_toArray, List.set_cons_zero, List.set_cons_succ]
  refine last_D (n := 17) rfl rfl (fun j hj => by simp; omega) (by kernel_rfl) ?_
  clear k1 k2 k3 k4 c1 c6 s0 s8
  go_wp2_with fail
  refine (CA.out _).mono ?_
  rintro e w' ⟨rfl, rfl⟩
  go_wp2
  refine ⟨(Ext.refl w2).drew, ?_⟩
  have XD := Lib.hid ((Ext.refl w2).drew)
  have HR3 := Lib.hid (HR2.out.ext XD.out)
  have HX3 := Lib.hid (HX2.out.trans XD.out)
  clear HR2 HX2 XD
  generalize w2.drew = w3 at *
  go_wp2_with fail
  refine (CS.out _ HR3.out.T.B.B (HE.out _ HX3.out)).mono ?_
  rintro e w4 ⟨rfl, lv4, B4, N4, A4⟩
  have HR4 := Lib.hid (HR3.out.boardB B4 N4 A4)
  clear B4 N4 A4 HR3 HX3 CS
  go_wp2
  refine off_normal ?_
  have CN2 := CN.out _ HR4.out
  rw [← HO.out] at CN2
  go_wp2_with fail
  refine CN2.mono ?_
  rintro e w5 ⟨rfl, vL5, R5⟩
  have HR5 := Lib.hid R5
  clear R5 HR4
  go_wp2
  go_ret
  exact ⟨rfl, lv4, vL5, HR5.out⟩
set_option maxRecDepth 100000 in
/-- looking how far is published -/
theorem soTip32 {W0 w : World} {b g sb lb : Nat} {y : LY} {f : Nat → Int} {lv : Value} {log : List Acc} {ups : List (List Int)} {su ev : Value} {xs : List Int} {N L : Int} {vL : Value} {EL : List Ev} {fb n t : Nat} {F : Nat → Fm} (K : BK y ups) (hV : y.V = 1) (E : Parts w) (h : ST32 W0 w b g sb lb y f lv log ups su ev xs N L vL EL) (hF : FB32 W0 w b g sb lb lv vL fb n F) (ht : t * 11 + 11 ≤ n) (hf : Rgs32 f) (hl : log.length ≤ 1000) (th : Int) :
    Calls Tryz.prog 35 #[.pointer (some ⟨sb, 0, none⟩), .int .i64 th, .pointer (some ⟨fb, t * 11, none⟩)] w fun e w' => e = .returned (.bool true) ∧ ∃ lv2, Run32 W0 w w' lv vL b g sb lb y f lv2 (log ++ [⟨th, 1, y.n, f y.n, f y.n⟩]) ups su ev xs N L vL EL fb n (updF F t { F t with Vl := f y.n }) := by
  obtain ⟨kc, kk, klt⟩ := K.cursor hV
  have HR := Lib.hid (Run32.start h hF)
  have hfn := hf y.n
  have CL0 := fun w1 (h1 : BD w1 121 b g y f lv log) (E1 : Parts w1) => Load32_yes b g y f lv log th y.n w1 h1 K.yok E1 kk hfn.1 (by have := hfn.2; omega) hl
  rw [in_rgs32 hfn] at CL0
  have CL := Lib.hid CL0
  have HE := Lib.hid (fun w' (hx : Ext w w') => E.ext hx)
  clear CL0
  have c8 : w.cell? ⟨fb, t * 11 + 8, none⟩ = some (.int .u32 (F t).Vl) := (hF.at_ ht 8 (by decide)).1
  have s0 := h.S.q0
  have s8 := h.S.q8
  rw [kc] at s8
  have HH : Hid (∀ w3 lv3, Run32 W0 w w3 lv vL b g sb lb y f lv3 (log ++ [⟨th, 1, y.n, f y.n, f y.n⟩]) ups su ev xs N L vL EL fb n F → Run32 W0 w (w3.setCell ⟨fb, t * 11 + 8, none⟩ (.int .u32 (f y.n))) lv vL b g sb lb y f lv3 (log ++ [⟨th, 1, y.n, f y.n, f y.n⟩]) ups su ev xs N L vL EL fb n (updF F t { F t with Vl := f y.n })) := Lib.hid (fun w3 lv3 hr => hr.setF ht (j := 8) (by decide) rfl (fun i hi hne => by
    have h11 : i = 0 ∨ i = 1 ∨ i = 2 ∨ i = 3 ∨ i = 4 ∨ i = 5 ∨ i = 6 ∨ i = 7 ∨ i = 9 ∨ i = 10 := by omega
    rcases h11 with rfl | rfl | rfl | rfl | rfl | rfl | rfl | rfl | rfl | rfl <;> rfl))
  have HA : Hid (∀ w3 lv3, Run32 W0 w w3 lv vL b g sb lb y f lv3 (log ++ [⟨th, 1, y.n, f y.n, f y.n⟩]) ups su ev xs N L vL EL fb n F → w3.cell? ⟨fb, t * 11 + 8, none⟩ = some (.int .u32 (F t).Vl) ∧ w3.frozen? ⟨fb, t * 11 + 8, none⟩ = false) := Lib.hid (fun w3 lv3 hr => hr.F.at_ ht 8 (by decide))
  generalize updF F t { F t with Vl := f y.n } = F2 at *
  generalize (F t).Vl = vl at *
  generalize t * 11 = o at *
  clear E K hf hl h hF kk klt ht hfn
  go_enter Tryz.func35, Tryz.ntmps35
  go_upto_region 2 with (fail)
  have k2 := fun w' (hx : Ext w w') => hx.cell c8
  have k3 := fun w' (hx : Ext w w') => hx.cell s0
  have k4 := fun w' (hx : Ext w w') => hx.cell s8
  refine wp_region_D (fun i => decide (1 ≤ i) && decide (i ≤ 9)) (by kernel_rfl) ?_
  refine pure_D (i := 0) (v := ?_) rfl rfl rfl (by kernel_rfl) (by kernel_rfl) (by kernel_rfl) rfl ?hyp ?_
  case hyp => intro wz; go_simp <;> with_reducible rfl
  simp only [List.setIfInBounds_toArray, List.set_cons_zero, List.set_cons_succ]
  refine take_D (i := 1) (v := ?_) rfl rfl rfl (by kernel_rfl) (by kernel_rfl) (by kernel_rfl) (by kernel_rfl) (by kernel_rfl) (((Ext.refl w).drew)) ?hyp ?_
  case hyp => intro wz hSw; (try dsimp only at hSw); go_simp <;> with_reducible rfl
  simp only [List.setIfInBounds_toArray, List.set_cons_zero, List.set_cons_succ]
  refine take_D (i := 2) (v := ?_) rfl rfl rfl (by kernel_rfl) (by kernel_rfl) (by kernel_rfl) (by kernel_rfl) (by kernel_rfl) (((Ext.refl w).drew)) ?hyp ?_
  case hyp => intro wz hSw; (try dsimp only at hSw); go_simp <;> with_reducible rfl
  simp only [List.setIfInBounds_toArray, List.set_cons_zero, List.set_cons_succ]
  refine take_D (i := 3) (v := ?_) rfl rfl rfl (by kernel_rfl) (by kernel_rfl) (by kernel_rfl) (by kernel_rfl) (by kernel_rfl) (((Ext.refl w).drew)) ?hyp ?_
  case hyp => intro wz hSw; (try dsimp only at hSw); go_simp <;> with_reducible rfl
  simp only [List.setIfInBounds_toArray, List.set_cons_zero, List.set_cons_succ]
  refine take_D (i := 4) (v := ?_) rfl rfl rfl (by kernel_rfl) (by kernel_rfl) (by kernel_rfl) (by kernel_rfl) (by kernel_rfl) (((Ext.refl w).drew)) ?hyp ?_
  case hyp => intro wz hSw; (try dsimp only at hSw); go_simp <;> with_reducible rfl
  simp only [List.setIfInBounds_toArray, List.set_cons_zero, List.set_cons_succ]
  refine take_D (i := 5) (v := ?_) rfl rfl rfl (by kernel_rfl) (by kernel_rfl) (by kernel_rfl) (by kernel_rfl) (by kernel_rfl) (((Ext.refl w).drew)) ?hyp ?_
  case hyp => intro wz hSw; (try dsimp only at hSw); go_simp <;> with_reducible rfl
  simp only [List.setIfInBounds_toArray, List.set_cons_zero, List.set_cons_succ]
  refine take_D (i := 6) (v := ?_) rfl rfl rfl (by kernel_rfl) (by kernel_rfl) (by kernel_rfl) (by kernel_rfl) (by kernel_rfl) (((Ext.refl w).drew)) ?hyp ?_
  case hyp => intro wz hSw; (try dsimp only at hSw); go_simp <;> with_reducible rfl
  simp only [List.setIfInBounds_toArray, List.set_cons_zero, List.set_cons_succ]
  refine take_D (i := 7) (v := ?_) rfl rfl rfl (by kernel_rfl) (by kernel_rfl) (by kernel_rfl) (by kernel_rfl) (by kernel_rfl) (((Ext.refl w).drew)) ?hyp ?_
  case hyp => intro wz hSw; (try dsimp only at hSw); go_simp <;> with_reducible rfl
  simp only [List.setIfInBounds_toArray, List.set_cons_zero, List.set_cons_succ]
  refine take_D (i := 8) (v := ?_) rfl rfl rfl (by kernel_rfl) (by kernel_rfl) (by kernel_rfl) (by kernel_rfl) (by kernel_rfl) (((Ext.refl w).drew)) ?hyp ?_
  case hyp => intro wz hSw; (try dsimp only at hSw); go_simp <;> with_reducible rfl
  simp only [List.setIfInBounds_toArray, List.set_cons_zero, List.set_cons_succ]
  refine take_D (i := 9) (v := ?_) rfl rfl rfl (by kernel_rfl) (by kernel_rfl) (by kernel_rfl) (by kernel_rfl) (by kernel_rfl) (((Ext.refl w).drew)) ?hyp ?_
  case hyp => intro wz hSw; (try dsimp only at hSw); go_simp <;> with_reducible rfl
  simp only [List.setIfInBounds_toArray, List.set_cons_zero, List.set_cons_succ]
  refine rest_D (n := 10) rfl rfl (fun j hj => by simp; omega) (by kernel_rfl) ?_
  clear k2 k3 k4 c8 s0 s8
  have XD := Lib.hid ((Ext.refl w).drew)
  have HR3 := Lib.hid (HR.out.ext XD.out)
  go_wp2_with fail
  refine (CL.out _ HR3.out.T.B.B (HE.out _ XD.out)).mono ?_
  rintro e w4 ⟨rfl, lv4, B4, N4, A4⟩
  have HR4 := Lib.hid (HR3.out.boardB B4 N4 A4)
  obtain ⟨r8, y8⟩ := HA.out _ _ HR4.out
  have HR5 := Lib.hid (HH.out _ _ HR4.out)
  clear B4 N4 A4 HR3 HR4 XD CL HA HH HR
  go_wp2
  refine off_normal ?_
  go_wp2
  first
    | exact ⟨rfl, lv4, HR5.out⟩
    | (go_ret; exact ⟨rfl, lv4, HR5.out⟩)
set_option maxRecDepth 100000 in
/-- publishing what was claimed -/
theorem soPublish64 {W0 w : World} {b g sb lb : Nat} {y : LY} {f : Nat → Int} {lv : Value} {log : List Acc} {ups : List (List Int)} {su ev : Value} {xs : List Int} {N L : Int} {vL : Value} {EL : List Ev} {fb n t : Nat} {F : Nat → Fm} (K : BK y ups) (hV : y.V = 1) (E : Parts w) (h : ST64 W0 w b g sb lb y f lv log ups su ev xs N L vL EL) (hF : FB64 W0 w b g sb lb lv vL fb n F) (ht : t * 11 + 11 ≤ n) (hf : Rgs64 f) (hl : log.length ≤ 1000) (he : EL.length ≤ 900000) (h1 : 1 ≤ (F t).N) (h2 : (F t).N ≤ y.C) (h0 : 0 ≤ (F t).Fr ∧ (F t).Fr < 18446744073709551616) :
    Calls Tryz.prog 45 #[.pointer (some ⟨sb, 0, none⟩), .int .i64 0, .pointer (some ⟨fb, t * 11, none⟩)] w fun e w' => e = .returned (.bool true) ∧ ∃ lv2 vL2, Run64 W0 w w' lv vL b g sb lb y (upd f y.n ((U64 ((F t).Fr + (F t).N)))) lv2 (log ++ [⟨0, 2, y.n, f y.n, (U64 ((F t).Fr + (F t).N))⟩]) ups su ev xs N L vL2 (EL ++ [evP 0 (F t).N (F t).Fr]) fb n F := by
  have CM := soMay64 K hV h hF ht 0
  rw [show (decide ((0 : Int) = 0) && decide (1 ≤ (F t).N) && decide ((F t).N ≤ y.C)) = true by simp [h1, h2]] at CM
  have HCM := Lib.hid CM
  obtain ⟨kc, kk, klt⟩ := K.cursor hV
  have HR := Lib.hid (Run64.start h hF)
  have HE := Lib.hid (fun w' (hx : Ext w w') => E.ext hx)
  have HF1 := Lib.hid (fun w' (hx : Ext w w') => (hF.ext hx))
  have hz : 0 ≤ ((U64 ((F t).Fr + (F t).N))) ∧ ((U64 ((F t).Fr + (F t).N))) < 18446744073709551616 := by
    first
      | omega
      | exact U64_range _
  have CS := Lib.hid (fun w1 (h1 : BD w1 152 b g y f lv log) (E1 : Parts w1) => Store64_yes b g y f lv log 0 ((U64 ((F t).Fr + (F t).N))) y.n w1 h1 K.yok E1 kk hz.1 hz.2 (hf y.n).1 (by have := (hf y.n).2; omega) hl)
  have CN := Lib.hid (fun w1 {f2 lv2 log2} (h1 : Run64 W0 w w1 lv vL b g sb lb y f2 lv2 log2 ups su ev xs N L vL EL fb n F) => soNote64 h1 ht 5 0 he h0)
  have CA := Lib.hid (fun w => addU64 (F t).Fr (F t).N w)
  clear CM h hF E K hf hl he h1 h2 hz kk klt
  have hto := ht
  obtain ⟨o, ho⟩ : ∃ o, o = t * 11 := ⟨_, rfl⟩
  have HO := Lib.hid ho
  rw [← ho] at HCM ⊢
  clear ho hto
  replace ht := Lib.hid ht
  replace h0 := Lib.hid h0
  go_enter Tryz.func45, Tryz.ntmps45
  go_wp2_with fail
  refine HCM.out.mono ?_
  rintro e w1 ⟨rfl, X1⟩
  have HX1 := Lib.hid X1
  have HR1 := Lib.hid (HR.out.ext X1)
  clear X1 HCM HR
  go_upto_region 2 with (fail)
  refine settle_wp ?_
  intro w2 X2
  have HX2 := Lib.hid (HX1.out.trans X2)
  have HR2 := Lib.hid (HR1.out.ext X2)
  have c1 : w2.cell? ⟨fb, o + 1, none⟩ = some (.int .i64 (F t).N) := by rw [HO.out]; exact (HR2.out.F.at_ ht.out 1 (by decide)).1
  have c6 : w2.cell? ⟨fb, o + 6, none⟩ = some (.int .u64 (F t).Fr) := by rw [HO.out]; exact (HR2.out.F.at_ ht.out 6 (by decide)).1
  have s0 := HR2.out.T.S.q0
  have s8 := HR2.out.T.S.q8
  rw [kc] at s8
  clear X2 HX1 HR1
  have k1 := fun w' (hx : Ext w2 w') => hx.cell c1
  have k2 := fun w' (hx : Ext w2 w') => hx.cell c6
  have k3 := fun w' (hx : Ext w2 w') => hx.cell s0
  have k4 := fun w' (hx : Ext w2 w') => hx.cell s8
  refine wp_region_D (fun i => decide (i ≤ 17)) (by kernel_rfl) ?_
  refine take_D (i := 0) (v := ?_) rfl rfl rfl (by kernel_rfl) (by kernel_rfl) (by kernel_rfl) (by kernel_rfl) (by kernel_rfl) (((Ext.refl w2).drew)) ?hyp ?_
  case hyp => intro wz hSw; (try dsimp only at hSw); go_simp <;> with_reducible rfl
  simp only [List.setIfInBounds_toArray, List.set_cons_zero, List.set_cons_succ]
  refine take_D (i := 1) (v := ?_) rfl rfl rfl (by kernel_rfl) (by kernel_rfl) (by kernel_rfl) (by kernel_rfl) (by kernel_rfl) (((Ext.refl w2).drew)) ?hyp ?_
  case hyp => intro wz hSw; (try dsimp only at hSw); go_simp <;> with_reducible rfl
  simp only [List.setIfInBounds_toArray, List.set_cons_zero, List.set_cons_succ]
  refine take_D (i := 2) (v := ?_) rfl rfl rfl (by kernel_rfl) (by kernel_rfl) (by kernel_rfl) (by kernel_rfl) (by kernel_rfl) (((Ext.refl w2).drew)) ?hyp ?_
  case hyp => intro wz hSw; (try dsimp only at hSw); go_simp <;> with_reducible rfl
  simp only [List.setIfInBounds_toArray, List.set_cons_zero, List.set_cons_succ]
  refine take_D (i := 3) (v := ?_) rfl rfl rfl (by kernel_rfl) (by kernel_rfl) (by kernel_rfl) (by kernel_rfl) (by kernel_rfl) (((Ext.refl w2).drew)) ?hyp ?_
  case hyp => intro wz hSw; (try dsimp only at hSw); go_simp <;> with_reducible rfl
  simp only [List.setIfInBounds_toArray, List.set_cons_zero, List.set_cons_succ]
  refine take_D (i := 4) (v := ?_) rfl rfl rfl (by kernel_rfl) (by kernel_rfl) (by kernel_rfl) (by kernel_rfl) (by kernel_rfl) (((Ext.refl w2).drew)) ?hyp ?_
  case hyp => intro wz hSw; (try dsimp only at hSw); go_simp <;> with_reducible rfl
  simp only [List.setIfInBounds_toArray, List.set_cons_zero, List.set_cons_succ]
  refine take_D (i := 5) (v := ?_) rfl rfl rfl (by kernel_rfl) (by kernel_rfl) (by kernel_rfl) (by kernel_rfl) (by kernel_rfl) (((Ext.refl w2).drew)) ?hyp ?_
  case hyp => intro wz hSw; (try dsimp only at hSw); go_simp <;> with_reducible rfl
  simp only [List.setIfInBounds_toArray, List.set_cons_zero, List.set_cons_succ]
  refine take_D (i := 6) (v := ?_) rfl rfl rfl (by kernel_rfl) (by kernel_rfl) (by kernel_rfl) (by kernel_rfl) (by kernel_rfl) (((Ext.refl w2).drew)) ?hyp ?_
  case hyp => intro wz hSw; (try dsimp only at hSw); go_simp <;> with_reducible rfl
  simp only [List.setIfInBounds_toArray, List.set_cons_zero, List.set_cons_succ]
  refine take_D (i := 7) (v := ?_) rfl rfl rfl (by kernel_rfl) (by kernel_rfl) (by kernel_rfl) (by kernel_rfl) (by kernel_rfl) (((Ext.refl w2).drew)) ?hyp ?_
  case hyp => intro wz hSw; (try dsimp only at hSw); go_simp <;> with_reducible rfl
  simp only [List.setIfInBounds_toArray, List.set_cons_zero, List.set_cons_succ]
  refine take_D (i := 8) (v := ?_) rfl rfl rfl (by kernel_rfl) (by kernel_rfl) (by kernel_rfl) (by kernel_rfl) (by kernel_rfl) (((Ext.refl w2).drew)) ?hyp ?_
  case hyp => intro wz hSw; (try dsimp only at hSw); go_simp <;> with_reducible rfl
  simp only [List.setIfInBounds_toArray, List.set_cons_zero, List.set_cons_succ]
  refine take_D (i := 9) (v := ?_) rfl rfl rfl (by kernel_rfl) (by kernel_rfl) (by kernel_rfl) (by kernel_rfl) (by kernel_rfl) (((Ext.refl w2).drew)) ?hyp ?_
  case hyp => intro wz hSw; (try dsimp only at hSw); go_simp <;> with_reducible rfl
  simp only [List.setIfInBounds_toArray, List.set_cons_zero, List.set_cons_succ]
  refine take_D (i := 10) (v := ?_) rfl rfl rfl (by kernel_rfl) (by kernel_rfl) (by kernel_rfl) (by kernel_rfl) (by kernel_rfl) (((Ext.refl w2).drew)) ?hyp ?_
  case hyp => intro wz hSw; (try dsimp only at hSw); go_simp <;> with_reducible rfl
  simp only [List.setIfInBounds_toArray, List.set_cons_zero, List.set_cons_succ]
  refine take_D (i := 11) (v := ?_) rfl rfl rfl (by kernel_rfl) (by kernel_rfl) (by kernel_rfl) (by kernel_rfl) (by kernel_rfl) (((Ext.refl w2).drew)) ?hyp ?_
  case hyp => intro wz hSw; (try dsimp only at hSw); go_simp <;> with_reducible rfl
  simp only [List.setIfInBounds_toArray, List.set_cons_zero, List.set_cons_succ]
  refine take_D (i := 12) (v := ?_) rfl rfl rfl (by kernel_rfl) (by kernel_rfl) (by kernel_rfl) (by kernel_rfl) (by kernel_rfl) (((Ext.refl w2).drew)) ?hyp ?_
  case hyp => intro wz hSw; (try dsimp only at hSw); go_simp <;> with_reducible rfl
  simp only [List.setIfInBounds_toArray, List.set_cons_zero, List.set_cons_succ]
  refine take_D (i := 13) (v := ?_) rfl rfl rfl (by kernel_rfl) (by kernel_rfl) (by kernel_rfl) (by kernel_rfl) (by kernel_rfl) (((Ext.refl w2).drew)) ?hyp ?_
  case hyp => intro wz hSw; (try dsimp only at hSw); go_simp <;> with_reducible rfl
  simp only [List.setIfInBounds_toArray, List.set_cons_zero, List.set_cons_succ]
  refine take_D (i := 14) (v := ?_) rfl rfl rfl (by kernel_rfl) (by kernel_rfl) (by kernel_rfl) (by kernel_rfl) (by kernel_rfl) (((Ext.refl w2).drew)) ?hyp ?_
  case hyp => intro wz hSw; (try dsimp only at hSw); go_simp <;> with_reducible rfl
  simp only [List.setIfInBounds_toArray, List.set_cons_zero, List.set_cons_succ]
  refine take_D (i := 15) (v := ?_) rfl rfl rfl (by kernel_rfl) (by kernel_rfl) (by kernel_rfl) (by kernel_rfl) (by kernel_rfl) (((Ext.refl w2).drew)) ?hyp ?_
  case hyp => intro wz hSw; (try dsimp only at hSw); go_simp <;> with_reducible rfl
  simp only [List.setIfInBounds_toArray, List.set_cons_zero, List.set_cons_succ]
  refine take_D (i := 16) (v := ?_) rfl rfl rfl (by kernel_rfl) (by kernel_rfl) (by kernel_rfl) (by kernel_rfl) (by kernel_rfl) (((Ext.refl w2).drew)) ?hyp ?_
  case hyp => intro wz hSw; (try dsimp only at hSw); go_simp <;> with_reducible rfl
  simp only [List.setIfInBounds_toArray, List.set_cons_zero, List.set_cons_succ]
  refine last_D (n := 17) rfl rfl (fun j hj => by simp; omega) (by kernel_rfl) ?_
  clear k1 k2 k3 k4 c1 c6 s0 s8
  go_wp2_with fail
  refine (CA.out _).mono ?_
  rintro e w' ⟨rfl, rfl⟩
  go_wp2
  refine ⟨(Ext.refl w2).drew, ?_⟩
  have XD := Lib.hid ((Ext.refl w2).drew)
  have HR3 := Lib.hid (HR2.out.ext XD.out)
  have HX3 := Lib.hid (HX2.out.trans XD.out)
  clear HR2 HX2 XD
  generalize w2.drew = w3 at *
  go_wp2_with fail
  refine (CS.out _ HR3.out.T.B.B (HE.out _ HX3.out)).mono ?_
  rintro e w4 ⟨rfl, lv4, B4, N4, A4⟩
  have HR4 := Lib.hid (HR3.out.boardB B4 N4 A4)
  clear B4 N4 A4 HR3 HX3 CS
  go_wp2
  refine off_normal ?_
  have CN2 := CN.out _ HR4.out
  rw [← HO.out] at CN2
  go_wp2_with fail
  refine CN2.mono ?_
  rintro e w5 ⟨rfl, vL5, R5⟩
  have HR5 := Lib.hid R5
  clear R5 HR4
  go_wp2
  go_ret
  exact ⟨rfl, lv4, vL5, HR5.out⟩
set_option maxRecDepth 100000 in
/-- looking how far is published -/
theorem soTip64 {W0 w : World} {b g sb lb : Nat} {y : LY} {f : Nat → Int} {lv : Value} {log : List Acc} {ups : List (List Int)} {su ev : Value} {xs : List Int} {N L : Int} {vL : Value} {EL : List Ev} {fb n t : Nat} {F : Nat → Fm} (K : BK y ups) (hV : y.V = 1) (E : Parts w) (h : ST64 W0 w b g sb lb y f lv log ups su ev xs N L vL EL) (hF : FB64 W0 w b g sb lb lv vL fb n F) (ht : t * 11 + 11 ≤ n) (hf : Rgs64 f) (hl : log.length ≤ 1000) (th : Int) :
    Calls Tryz.prog 46 #[.pointer (some ⟨sb, 0, none⟩), .int .i64 th, .pointer (some ⟨fb, t * 11, none⟩)] w fun e w' => e = .returned (.bool true) ∧ ∃ lv2, Run64 W0 w w' lv vL b g sb lb y f lv2 (log ++ [⟨th, 1, y.n, f y.n, f y.n⟩]) ups su ev xs N L vL EL fb n (updF F t { F t with Vl := f y.n }) := by
  obtain ⟨kc, kk, klt⟩ := K.cursor hV
  have HR := Lib.hid (Run64.start h hF)
  have hfn := hf y.n
  have CL0 := fun w1 (h1 : BD w1 152 b g y f lv log) (E1 : Parts w1) => Load64_yes b g y f lv log th y.n w1 h1 K.yok E1 kk hfn.1 (by have := hfn.2; omega) hl
  rw [in_rgs64 hfn] at CL0
  have CL := Lib.hid CL0
  have HE := Lib.hid (fun w' (hx : Ext w w') => E.ext hx)
  clear CL0
  have c8 : w.cell? ⟨fb, t * 11 + 8, none⟩ = some (.int .u64 (F t).Vl) := (hF.at_ ht 8 (by decide)).1
  have s0 := h.S.q0
  have s8 := h.S.q8
  rw [kc] at s8
  have HH : Hid (∀ w3 lv3, Run64 W0 w w3 lv vL b g sb lb y f lv3 (log ++ [⟨th, 1, y.n, f y.n, f y.n⟩]) ups su ev xs N L vL EL fb n F → Run64 W0 w (w3.setCell ⟨fb, t * 11 + 8, none⟩ (.int .u64 (f y.n))) lv vL b g sb lb y f lv3 (log ++ [⟨th, 1, y.n, f y.n, f y.n⟩]) ups su ev xs N L vL EL fb n (updF F t { F t with Vl := f y.n })) := Lib.hid (fun w3 lv3 hr => hr.setF ht (j := 8) (by decide) rfl (fun i hi hne => by
    have h11 : i = 0 ∨ i = 1 ∨ i = 2 ∨ i = 3 ∨ i = 4 ∨ i = 5 ∨ i = 6 ∨ i = 7 ∨ i = 9 ∨ i = 10 := by omega
    rcases h11 with rfl | rfl | rfl | rfl | rfl | rfl | rfl | rfl | rfl | rfl <;> rfl))
  have HA : Hid (∀ w3 lv3, Run64 W0 w w3 lv vL b g sb lb y f lv3 (log ++ [⟨th, 1, y.n, f y.n, f y.n⟩]) ups su ev xs N L vL EL fb n F → w3.cell? ⟨fb, t * 11 + 8, none⟩ = some (.int .u64 (F t).Vl) ∧ w3.frozen? ⟨fb, t * 11 + 8, none⟩ = false) := Lib.hid (fun w3 lv3 hr => hr.F.at_ ht 8 (by decide))
  generalize updF F t { F t with Vl := f y.n } = F2 at *
  generalize (F t).Vl = vl at *
  generalize t * 11 = o at *
  clear E K hf hl h hF kk klt ht hfn
  go_enter Tryz.func46, Tryz.ntmps46
  go_upto_region 2 with (fail)
  have k2 := fun w' (hx : Ext w w') => hx.cell c8
  have k3 := fun w' (hx : Ext w w') => hx.cell s0
  have k4 := fun w' (hx : Ext w w') => hx.cell s8
  refine wp_region_D (fun i => decide (1 ≤ i) && decide (i ≤ 9)) (by kernel_rfl) ?_
  refine pure_D (i := 0) (v := ?_) rfl rfl rfl (by kernel_rfl) (by kernel_rfl) (by kernel_rfl) rfl ?hyp ?_
  case hyp => intro wz; go_simp <;> with_reducible rfl
  simp only [List.setIfInBounds_toArray, List.set_cons_zero, List.set_cons_succ]
  refine take_D (i := 1) (v := ?_) rfl rfl rfl (by kernel_rfl) (by kernel_rfl) (by kernel_rfl) (by kernel_rfl) (by kernel_rfl) (((Ext.refl w).drew)) ?hyp ?_
  case hyp => intro wz hSw; (try dsimp only at hSw); go_simp <;> with_reducible rfl
  simp only [List.setIfInBounds_toArray, List.set_cons_zero, List.set_cons_succ]
  refine take_D (i := 2) (v := ?_) rfl rfl rfl (by kernel_rfl) (by kernel_rfl) (by kernel_rfl) (by kernel_rfl) (by kernel_rfl) (((Ext.refl w).drew)) ?hyp ?_
  case hyp => intro wz hSw; (try dsimp only at hSw); go_simp <;> with_reducible rfl
  simp only [List.setIfInBounds_toArray, List.set_cons_zero, List.set_cons_succ]
  refine take_D (i := 3) (v := ?_) rfl rfl rfl (by kernel_rfl) (by kernel_rfl) (by kernel_rfl) (by kernel_rfl) (by kernel_rfl) (((Ext.refl w).drew)) ?hyp ?_
  case hyp => intro wz hSw; (try dsimp only at hSw); go_simp <;> with_reducible rfl
  simp only [List.setIfInBounds_toArray, List.set_cons_zero, List.set_cons_succ]
  refine take_D (i := 4) (v := ?_) rfl rfl rfl (by kernel_rfl) (by kernel_rfl) (by kernel_rfl) (by kernel_rfl) (by kernel_rfl) (((Ext.refl w).drew)) ?hyp ?_
  case hyp => intro wz hSw; (try dsimp only at hSw); go_simp <;> with_reducible rfl
  simp only [List.setIfInBounds_toArray, List.set_cons_zero, List.set_cons_succ]
  refine take_D (i := 5) (v := ?_) rfl rfl rfl (by kernel_rfl) (by kernel_rfl) (by kernel_rfl) (by kernel_rfl) (by kernel_rfl) (((Ext.refl w).drew)) ?hyp ?_
  case hyp => intro wz hSw; (try dsimp only at hSw); go_simp <;> with_reducible rfl
  simp only [List.setIfInBounds_toArray, List.set_cons_zero, List.set_cons_succ]
  refine take_D (i := 6) (v := ?_) rfl rfl rfl (by kernel_rfl) (by kernel_rfl) (by kernel_rfl) (by kernel_rfl) (by kernel_rfl) (((Ext.refl w).drew)) ?hyp ?_
  case hyp => intro wz hSw; (try dsimp only at hSw); go_simp <;> with_reducible rfl
  simp only [List.setIfInBounds_toArray, List.set_cons_zero, List.set_cons_succ]
  refine take_D (i := 7) (v := ?_) rfl rfl rfl (by kernel_rfl) (by kernel_rfl) (by kernel_rfl) (by kernel_rfl) (by kernel_rfl) (((Ext.refl w).drew)) ?hyp ?_
  case hyp => intro wz hSw; (try dsimp only at hSw); go_simp <;> with_reducible rfl
  simp only [List.setIfInBounds_toArray, List.set_cons_zero, List.set_cons_succ]
  refine take_D (i := 8) (v := ?_) rfl rfl rfl (by kernel_rfl) (by kernel_rfl) (by kernel_rfl) (by kernel_rfl) (by kernel_rfl) (((Ext.refl w).drew)) ?hyp ?_
  case hyp => intro wz hSw; (try dsimp only at hSw); go_simp <;> with_reducible rfl
  simp only [List.setIfInBounds_toArray, List.set_cons_zero, List.set_cons_succ]
  refine take_D (i := 9) (v := ?_) rfl rfl rfl (by kernel_rfl) (by kernel_rfl) (by kernel_rfl) (by kernel_rfl) (by kernel_rfl) (((Ext.refl w).drew)) ?hyp ?_
  case hyp => intro wz hSw; (try dsimp only at hSw); go_simp <;> with_reducible rfl
  simp only [List.setIfInBounds_toArray, List.set_cons_zero, List.set_cons_succ]
  refine rest_D (n := 10) rfl rfl (fun j hj => by simp; omega) (by kernel_rfl) ?_
  clear k2 k3 k4 c8 s0 s8
  have XD := Lib.hid ((Ext.refl w).drew)
  have HR3 := Lib.hid (HR.out.ext XD.out)
  go_wp2_with fail
  refine (CL.out _ HR3.out.T.B.B (HE.out _ XD.out)).mono ?_
  rintro e w4 ⟨rfl, lv4, B4, N4, A4⟩
  have HR4 := Lib.hid (HR3.out.boardB B4 N4 A4)
  obtain ⟨r8, y8⟩ := HA.out _ _ HR4.out
  have HR5 := Lib.hid (HH.out _ _ HR4.out)
  clear B4 N4 A4 HR3 HR4 XD CL HA HH HR
  go_wp2
  refine off_normal ?_
  go_wp2
  first
    | exact ⟨rfl, lv4, HR5.out⟩
    | (go_ret; exact ⟨rfl, lv4, HR5.out⟩)
end Go.Proofs.YtkmfamidahlgiaaGreatDoor
/- A step of a scan beside a sequencer; what a step of Claim comes to. -/
namespace Go.Proofs.YtkmfamidahlgiaaGreatDoor
open Go.RowKit
set_option linter.unusedVariables false
set_option linter.unusedSimpArgs false
set_option maxHeartbeats 4000000
attribute [local go_sem] later_cell later_frozen later_const
theorem updF_at (F : Nat → Fm) (t : Nat) (x : Fm) : updF F t x t = x := if_pos rfl
theorem updF_two (F : Nat → Fm) (t : Nat) (x z : Fm) : updF (updF F t x) t z = updF F t z := by
  funext i
  unfold updF
  by_cases e : i = t
  · rw [if_pos e, if_pos e]
  · rw [if_neg e, if_neg e, if_neg e]
theorem updF_self (F : Nat → Fm) (t : Nat) : updF F t (F t) = F := by
  funext i
  unfold updF
  by_cases e : i = t
  · rw [if_pos e, e]
  · rw [if_neg e]
theorem bool_of {p : Prop} [Decidable p] {q : Bool} (h : decide p = q) : (q = true → p) ∧ (q = false → ¬ p) := by
  subst h
  exact ⟨fun e => of_decide_eq_true e, fun e => of_decide_eq_false e⟩
/-- where a scan begins, or goes on -/
def ClFst32 (C N L : Int) (x x1 : Fm) : Prop := x.Pc = 1 ∧ x1 = x ∨ ¬ x.Pc = 1 ∧ ¬ D32 (((N + x.N) % 4294967296) - L) ≤ C ∧ x1 = { x with Fr := N, Pc := 1 }
/-- a step of Claim -/
def ClRel32 (C : Int) (f : Nat → Int) (xs : List Int) (th : Int) (x : Fm) (N L : Int) (log : List Acc) (EL : List Ev) (d : Bool) (x' : Fm) (N' L' : Int) (log' : List Acc) (EL' : List Ev) : Prop :=
  (¬ x.Pc = 1 ∧ D32 (((N + x.N) % 4294967296) - L) ≤ C ∧ d = true ∧ x' = { x with Fr := N, Pc := 0 } ∧ N' = (((N + x.N) % 4294967296)) ∧ L' = L ∧ log' = log ∧ EL' = EL ++ [evT th x.N N] ++ [evG th]) ∨
  (∃ x1 sd I' M', ClFst32 C N L x x1 ∧ ScRel D32 f xs th x1.I x1.Mn log sd I' M' log' ∧
    ((sd = false ∧ d = false ∧ x' = { x1 with I := I', Mn := M' } ∧ N' = N ∧ L' = L ∧ EL' = EL) ∨
     (sd = true ∧ ¬ D32 (((x1.Fr + x1.N) % 4294967296) - M') ≤ C ∧ d = false ∧ x' = { x1 with I := I', Mn := M' } ∧ N' = N ∧ L' = M' ∧ EL' = EL) ∨
     (sd = true ∧ D32 (((x1.Fr + x1.N) % 4294967296) - M') ≤ C ∧ d = true ∧ x' = { x1 with I := I', Mn := M', Pc := 0 } ∧ N' = (((N + x1.N) % 4294967296)) ∧ L' = M' ∧ EL' = EL ++ [evT th x1.N x1.Fr] ++ [evG th])))
/-- a step of a scan, beside a sequencer -/
theorem sScan32 {W0 w0 w : World} {lv0 vL0 : Value} {b g sb lb : Nat} {y : LY} {f : Nat → Int} {lv : Value} {log : List Acc} {ups : List (List Int)} {su ev : Value} {xs : List Int} {N L : Int} {vL : Value} {EL : List Ev} {fb n t : Nat} {F : Nat → Fm} (K : BK y ups) (h : Run32 W0 w0 w lv0 vL0 b g sb lb y f lv log ups su ev xs N L vL EL fb n F) (ht : t * 11 + 11 ≤ n) (E : Parts W0) (hx : Gts y.n xs) (hI : ScAt xs (F t).I) (hf : Rgs32 f) (hl : log.length ≤ 1000) (th : Int) :
    Calls Tryz.prog 26 #[.pointer (some ⟨b, 0, none⟩), .int .i64 th, ev, .pointer (some ⟨fb, t * 11, none⟩)] w fun e w' => ∃ d I' M' log2, ScRel D32 f xs th (F t).I (F t).Mn log d I' M' log2 ∧ e = .returned (.bool d) ∧ ∃ lv2, Run32 W0 w0 w' lv0 vL0 b g sb lb y f lv2 log2 ups su ev xs N L vL EL fb n (updF F t { F t with I := I', Mn := M' }) := by
  have hv := h.T.I.ints
  have c4 := h.F.at_ ht 4 (by decide)
  have c7 := h.F.at_ ht 7 (by decide)
  have FR : FR32 w fb (t * 11) (F t).I (F t).Mn := ⟨c4.1, c4.2, c7.1, c7.2, h.F.o⟩
  rcases hI with ⟨h0, hI0⟩ | ⟨i, hI0, hi⟩
  · obtain ⟨a, c, e, -⟩ := hv.form
    rw [h0] at e
    refine (show Calls Tryz.prog 26 #[.pointer (some ⟨b, 0, none⟩), .int .i64 th, ev, .pointer (some ⟨fb, t * 11, none⟩)] w _ from by rw [e]; exact scan32_zero b fb (t * 11) th _ a c w FR.c4 FR.z4 (by omega)).mono ?_
    rintro e w' ⟨rfl, rfl⟩
    refine ⟨true, 0, (F t).Mn, log, .inl ⟨h0, hI0, rfl, rfl, rfl, rfl⟩, rfl, lv, h.setF ht (j := 4) (by decide) rfl (fun i hi hne => ?_)⟩
    have h11 : i = 0 ∨ i = 1 ∨ i = 2 ∨ i = 3 ∨ i = 5 ∨ i = 6 ∨ i = 7 ∨ i = 8 ∨ i = 9 ∨ i = 10 := by omega
    rcases h11 with rfl | rfl | rfl | rfl | rfl | rfl | rfl | rfl | rfl | rfl <;> rfl
  · obtain ⟨c, hc, hcn⟩ := hx.at_ i hi
    obtain ⟨hk, hm⟩ := K.gate c hcn
    rw [hI0] at FR
    have hfc := hf c
    refine (scan32_step b g fb (t * 11) y f lv log th ev xs i c (F t).Mn w h.T.B.B K.yok (E.ext h.T.X) ⟨fun e => h.F.m (.inl e), h.F.l⟩ FR hv hi hc hk hfc.1 (by have := hfc.2; omega) hl hx.len).mono ?_
    rintro e w' ⟨rfl, lv2, B2, F2, K2, N2, A2⟩
    rw [in_rgs32 hfc] at F2
    have e1 : decide ((i : Int) + 1 = (xs.length : Int)) = decide (i + 1 = xs.length) := by
      by_cases e : i + 1 = xs.length
      · rw [decide_eq_true e, decide_eq_true (by omega)]
      · rw [decide_eq_false e, decide_eq_false (by omega)]
    have e2 : (if (i : Int) + 1 = (xs.length : Int) then (0 : Int) else (i : Int) + 1) = (if i + 1 = xs.length then 0 else (i : Int) + 1) := by
      by_cases e : i + 1 = xs.length
      · rw [if_pos e, if_pos (by omega)]
      · rw [if_neg e, if_neg (by omega)]
    have e3 : nextM32 i (F t).Mn (f c) = (if i = 0 ∨ D32 (f c - (F t).Mn) < 0 then f c else (F t).Mn) := by
      unfold nextM32
      by_cases e : i = 0 ∨ D32 (f c - (F t).Mn) < 0
      · rw [if_pos e, if_pos (e.imp (fun e => by omega) id)]
      · rw [if_neg e, if_neg (fun e' => e (e'.imp (fun e => by omega) id))]
    rw [e2, e3] at F2
    rw [e1]
    exact ⟨_, _, _, _, .inr ⟨i, c, hI0, hi, hc, rfl, rfl, rfl, rfl⟩, rfl, lv2, h.board B2 N2 A2 (va_scan32 h.F.a ht F2 K2) F2.od⟩
/-- what a step of Claim leaves -/
def ClDoes32 (W0 w : World) (lv0 vL0 : Value) (b g sb lb : Nat) (y : LY) (f : Nat → Int) (log : List Acc) (ups : List (List Int)) (su ev : Value) (xs : List Int) (N L : Int) (EL : List Ev) (fb n t : Nat) (F : Nat → Fm) (th : Int) (e : Ending) (w' : World) : Prop :=
  ∃ d x' N' L' log' EL', ClRel32 y.C f xs th (F t) N L log EL d x' N' L' log' EL' ∧ e = .returned (.bool d) ∧ ∃ lv' vL', Run32 W0 w w' lv0 vL0 b g sb lb y f lv' log' ups su ev xs N' L' vL' EL' fb n (updF F t x')
/-- where a scan begins, or goes on -/
def ClFst64 (C N L : Int) (x x1 : Fm) : Prop := x.Pc = 1 ∧ x1 = x ∨ ¬ x.Pc = 1 ∧ ¬ D64 ((U64 (N + x.N)) - L) ≤ C ∧ x1 = { x with Fr := N, Pc := 1 }
/-- a step of Claim -/
def ClRel64 (C : Int) (f : Nat → Int) (xs : List Int) (th : Int) (x : Fm) (N L : Int) (log : List Acc) (EL : List Ev) (d : Bool) (x' : Fm) (N' L' : Int) (log' : List Acc) (EL' : List Ev) : Prop :=
  (¬ x.Pc = 1 ∧ D64 ((U64 (N + x.N)) - L) ≤ C ∧ d = true ∧ x' = { x with Fr := N, Pc := 0 } ∧ N' = ((U64 (N + x.N))) ∧ L' = L ∧ log' = log ∧ EL' = EL ++ [evT th x.N N] ++ [evG th]) ∨
  (∃ x1 sd I' M', ClFst64 C N L x x1 ∧ ScRel D64 f xs th x1.I x1.Mn log sd I' M' log' ∧
    ((sd = false ∧ d = false ∧ x' = { x1 with I := I', Mn := M' } ∧ N' = N ∧ L' = L ∧ EL' = EL) ∨
     (sd = true ∧ ¬ D64 ((U64 (x1.Fr + x1.N)) - M') ≤ C ∧ d = false ∧ x' = { x1 with I := I', Mn := M' } ∧ N' = N ∧ L' = M' ∧ EL' = EL) ∨
     (sd = true ∧ D64 ((U64 (x1.Fr + x1.N)) - M') ≤ C ∧ d = true ∧ x' = { x1 with I := I', Mn := M', Pc := 0 } ∧ N' = ((U64 (N + x1.N))) ∧ L' = M' ∧ EL' = EL ++ [evT th x1.N x1.Fr] ++ [evG th])))
/-- a step of a scan, beside a sequencer -/
theorem sScan64 {W0 w0 w : World} {lv0 vL0 : Value} {b g sb lb : Nat} {y : LY} {f : Nat → Int} {lv : Value} {log : List Acc} {ups : List (List Int)} {su ev : Value} {xs : List Int} {N L : Int} {vL : Value} {EL : List Ev} {fb n t : Nat} {F : Nat → Fm} (K : BK y ups) (h : Run64 W0 w0 w lv0 vL0 b g sb lb y f lv log ups su ev xs N L vL EL fb n F) (ht : t * 11 + 11 ≤ n) (E : Parts W0) (hx : Gts y.n xs) (hI : ScAt xs (F t).I) (hf : Rgs64 f) (hl : log.length ≤ 1000) (th : Int) :
    Calls Tryz.prog 65 #[.pointer (some ⟨b, 0, none⟩), .int .i64 th, ev, .pointer (some ⟨fb, t * 11, none⟩)] w fun e w' => ∃ d I' M' log2, ScRel D64 f xs th (F t).I (F t).Mn log d I' M' log2 ∧ e = .returned (.bool d) ∧ ∃ lv2, Run64 W0 w0 w' lv0 vL0 b g sb lb y f lv2 log2 ups su ev xs N L vL EL fb n (updF F t { F t with I := I', Mn := M' }) := by
  have hv := h.T.I.ints
  have c4 := h.F.at_ ht 4 (by decide)
  have c7 := h.F.at_ ht 7 (by decide)
  have FR : FR64 w fb (t * 11) (F t).I (F t).Mn := ⟨c4.1, c4.2, c7.1, c7.2, h.F.o⟩
  rcases hI with ⟨h0, hI0⟩ | ⟨i, hI0, hi⟩
  · obtain ⟨a, c, e, -⟩ := hv.form
    rw [h0] at e
    refine (show Calls Tryz.prog 65 #[.pointer (some ⟨b, 0, none⟩), .int .i64 th, ev, .pointer (some ⟨fb, t * 11, none⟩)] w _ from by rw [e]; exact scan64_zero b fb (t * 11) th _ a c w FR.c4 FR.z4 (by omega)).mono ?_
    rintro e w' ⟨rfl, rfl⟩
    refine ⟨true, 0, (F t).Mn, log, .inl ⟨h0, hI0, rfl, rfl, rfl, rfl⟩, rfl, lv, h.setF ht (j := 4) (by decide) rfl (fun i hi hne => ?_)⟩
    have h11 : i = 0 ∨ i = 1 ∨ i = 2 ∨ i = 3 ∨ i = 5 ∨ i = 6 ∨ i = 7 ∨ i = 8 ∨ i = 9 ∨ i = 10 := by omega
    rcases h11 with rfl | rfl | rfl | rfl | rfl | rfl | rfl | rfl | rfl | rfl <;> rfl
  · obtain ⟨c, hc, hcn⟩ := hx.at_ i hi
    obtain ⟨hk, hm⟩ := K.gate c hcn
    rw [hI0] at FR
    have hfc := hf c
    refine (scan64_step b g fb (t * 11) y f lv log th ev xs i c (F t).Mn w h.T.B.B K.yok (E.ext h.T.X) ⟨fun e => h.F.m (.inl e), h.F.l⟩ FR hv hi hc hk hfc.1 (by have := hfc.2; omega) hl hx.len).mono ?_
    rintro e w' ⟨rfl, lv2, B2, F2, K2, N2, A2⟩
    rw [in_rgs64 hfc] at F2
    have e1 : decide ((i : Int) + 1 = (xs.length : Int)) = decide (i + 1 = xs.length) := by
      by_cases e : i + 1 = xs.length
      · rw [decide_eq_true e, decide_eq_true (by omega)]
      · rw [decide_eq_false e, decide_eq_false (by omega)]
    have e2 : (if (i : Int) + 1 = (xs.length : Int) then (0 : Int) else (i : Int) + 1) = (if i + 1 = xs.length then 0 else (i : Int) + 1) := by
      by_cases e : i + 1 = xs.length
      · rw [if_pos e, if_pos (by omega)]
      · rw [if_neg e, if_neg (by omega)]
    have e3 : nextM64 i (F t).Mn (f c) = (if i = 0 ∨ D64 (f c - (F t).Mn) < 0 then f c else (F t).Mn) := by
      unfold nextM64
      by_cases e : i = 0 ∨ D64 (f c - (F t).Mn) < 0
      · rw [if_pos e, if_pos (e.imp (fun e => by omega) id)]
      · rw [if_neg e, if_neg (fun e' => e (e'.imp (fun e => by omega) id))]
    rw [e2, e3] at F2
    rw [e1]
    exact ⟨_, _, _, _, .inr ⟨i, c, hI0, hi, hc, rfl, rfl, rfl, rfl⟩, rfl, lv2, h.board B2 N2 A2 (va_scan64 h.F.a ht F2 K2) F2.od⟩
/-- what a step of Claim leaves -/
def ClDoes64 (W0 w : World) (lv0 vL0 : Value) (b g sb lb : Nat) (y : LY) (f : Nat → Int) (log : List Acc) (ups : List (List Int)) (su ev : Value) (xs : List Int) (N L : Int) (EL : List Ev) (fb n t : Nat) (F : Nat → Fm) (th : Int) (e : Ending) (w' : World) : Prop :=
  ∃ d x' N' L' log' EL', ClRel64 y.C f xs th (F t) N L log EL d x' N' L' log' EL' ∧ e = .returned (.bool d) ∧ ∃ lv' vL', Run64 W0 w w' lv0 vL0 b g sb lb y f lv' log' ups su ev xs N' L' vL' EL' fb n (updF F t x')
end Go.Proofs.YtkmfamidahlgiaaGreatDoor

import Derived.Test.YtkmfamidahlgiaaDoorBd4
import Derived.Test.YtkmfamidahlgiaaDoorPair
import Derived.Test.YtkmfamidahlgiaaDoorCf6
import Derived.Test.YtkmfamidahlgiaaDoorRef01
import Derived.Test.YtkmfamidahlgiaaDoorRows
import Derived.Test.YtkmfamidahlgiaaDoorExt
import Derived.WalkKit
import Derived.ProofKit
import Derived.Lib.ItoaNum
import Derived.Laws.Bits64
import Derived.Laws.IdiomStrings
import Derived.Test.YtkmfamidahlgiaaDoorLyK
import Derived.Test.YtkmfamidahlgiaaDoorRef02
import Derived.Lib.SlicesS
/- A board's log and costs; the law's live. -/
namespace Go.Proofs.YtkmfamidahlgiaaDoor
open Go.RowKit
set_option linter.unusedVariables false
set_option linter.unusedSimpArgs false
set_option maxHeartbeats 2000000
attribute [local go_sem] later_cell later_frozen later_const
def isLk (k : Int) : Bool := k == 1 || k == 5 || k == 6
def nL (t : Int) (l : List Acc) : Nat := (l.filter fun x => decide (x.t = t) && isLk x.k).length
def nC (t : Int) (l : List Acc) : Nat := (l.filter fun x => decide (x.t = t) && !isLk x.k).length
theorem nL_le (t : Int) (l : List Acc) : nL t l ≤ l.length := List.length_filter_le _ _
theorem nC_le (t : Int) (l : List Acc) : nC t l ≤ l.length := List.length_filter_le _ _
theorem take_snoc {l : List Acc} {k : Nat} (h : k < l.length) : l.take (k + 1) = l.take k ++ [l[k]] := List.take_succ_eq_append_getElem h
theorem nL_snoc (t : Int) (l : List Acc) (x : Acc) : nL t (l ++ [x]) = nL t l + (if (decide (x.t = t) && isLk x.k) = true then 1 else 0) := by
  unfold nL
  rw [List.filter_append, List.length_append]
  cases h : (decide (x.t = t) && isLk x.k) <;> simp [List.filter_cons, h]
theorem nC_snoc (t : Int) (l : List Acc) (x : Acc) : nC t (l ++ [x]) = nC t l + (if (decide (x.t = t) && !isLk x.k) = true then 1 else 0) := by
  unfold nC
  rw [List.filter_append, List.length_append]
  cases h : (decide (x.t = t) && !isLk x.k) <;> simp [List.filter_cons, h]
/-- how a log lies -/
theorem rowA_form {w : World} {base : Nat} {v : Value} {l : List Acc} (h : w.ownsRow base 127 5 v l.length (rowA l)) : ∃ a cap, v = .slice a l.length cap ∧ (∀ i, i < l.length → ∃ g, a = some ⟨g, 0, none⟩ ∧ ∀ j u, (rowA l)[j]? = some u → w.cell? ⟨g, j, none⟩ = some u) := by
  rcases h.2 with ⟨h1, h2⟩ | ⟨g, cap, cur, h1, h2, h3, h4, h5, h6, h7⟩
  · exact ⟨none, 0, by rw [h1, h2], fun i hi => by omega⟩
  · refine ⟨some ⟨g, 0, none⟩, cap, h1, fun i hi => ⟨g, rfl, fun j u hu => ?_⟩⟩
    have hv : cur[j]? = some u := by
      rw [← h7] at hu
      rw [← Array.getElem?_toList]
      rw [List.getElem?_take] at hu
      split at hu
      · exact hu
      · cases hu
    simp [World.cell?, h3, hv]
theorem rowA_cell {w : World} {base : Nat} {a : Option Addr} {cap : Nat} {l : List Acc} (h : w.ownsRow base 127 5 (.slice a l.length cap) l.length (rowA l)) {i : Nat} (hi : i < l.length) : ∃ g, a = some ⟨g, 0, none⟩ ∧ w.cell? ⟨g, i * 5, none⟩ = some (.int .i64 l[i].t) ∧ w.cell? ⟨g, i * 5 + 1, none⟩ = some (.int .i64 l[i].k) ∧ w.cell? ⟨g, i * 5 + 2, none⟩ = some (.int .i64 l[i].c) ∧ w.cell? ⟨g, i * 5 + 3, none⟩ = some (.int .u64 l[i].o) ∧ w.cell? ⟨g, i * 5 + 4, none⟩ = some (.int .u64 l[i].n) := by
  obtain ⟨a', cap', e, hf⟩ := rowA_form h
  cases e
  obtain ⟨g, e, hc⟩ := hf i hi
  exact ⟨g, e, hc _ _ (rowA_at l i 0 hi (by omega)), hc _ _ (rowA_at l i 1 hi (by omega)), hc _ _ (rowA_at l i 2 hi (by omega)), hc _ _ (rowA_at l i 3 hi (by omega)), hc _ _ (rowA_at l i 4 hi (by omega))⟩
end Go.Proofs.YtkmfamidahlgiaaDoor
/- The law's live; Log and Len. -/
namespace Go.Proofs.YtkmfamidahlgiaaDoor
open Go.RowKit
set_option linter.unusedVariables false
set_option linter.unusedSimpArgs false
set_option maxHeartbeats 2000000
attribute [local go_sem] later_cell later_frozen later_const
theorem notOwn {b g k : Nat} (h1 : k ≠ b) (h2 : k ≠ g) : ¬ Own b g (.slice none 0 0) k := fun h => by
  rcases h with h | h | h
  · exact h1 h
  · exact h2 h
  · cases h
theorem ownGe {b g n : Nat} (h1 : n ≤ b) (h2 : n ≤ g) : ∀ k, Own b g (.slice none 0 0) k → n ≤ k := fun k h => by
  rcases h with h | h | h
  · omega
  · omega
  · cases h
theorem ckV : ckC 2 32 4 1 [[]] = 0 := by decide +kernel
theorem layV12 (u : Value) : layV 2 32 4 1 4294967295 u 1 = (.agg #[.int .i64 2, .int .i64 32, .int .i64 4, .int .i64 1, .int .u64 4294967295, u, .int .i64 (-1), .int .i64 1, .int .i64 (-1), .int .i64 (-1), .int .i64 (-1), .int .i64 2, .int .i64 6, .int .i64 10]) := by simp [layV, nCu, nCl, nTi, nSe, nNe, nMa, nSl, nCe]
theorem use12 : useN 2 1 4 1 = (3, 0) := by decide
def GivesA (w : World) (l : List Acc) (e : Ending) (w' : World) : Prop := ∃ v, e = .returned v ∧ w'.ownsRow w.heap.size 127 5 v l.length (rowA l) ∧ Ext w w'
end Go.Proofs.YtkmfamidahlgiaaDoor
/- What an access comes to, by the laws' small and great. -/
namespace Go.Proofs.YtkmfamidahlgiaaDoor
open Go.RowKit
set_option linter.unusedVariables false
set_option linter.unusedSimpArgs false
set_option maxHeartbeats 2000000
attribute [local go_sem] later_cell later_frozen later_const
/-- an access that is asked for -/
structure DoR where
  t : Int
  k : Int
  c : Int
  n : Int
  o : Int
  z : Int
/-- how a board stands: cells, accesses; what was told -/
structure ST where
  f : Nat → Int
  l : List Acc
  v : Int
  b : Bool
def plusW (W x n : Int) : Int := if W = 32 then (x + n) % 4294967296 else U64 (x + n)
def lookS (y : LY) (W : Int) (kind ak : Int) (d : DoR) (f : Nat → Int) (l : List Acc) : ST :=
  if kd y d.c = kind then ⟨f, l ++ [⟨d.t, ak, d.c, f d.c.toNat, f d.c.toNat⟩], cutS W (f d.c.toNat), false⟩ else ⟨f, l, 0, false⟩
def putS (y : LY) (W : Int) (kind ak : Int) (d : DoR) (f : Nat → Int) (l : List Acc) : ST :=
  if kd y d.c = kind then ⟨upd f d.c.toNat (cutS W d.z), l ++ [⟨d.t, ak, d.c, f d.c.toNat, cutS W d.z⟩], 0, false⟩ else ⟨f, l, 0, false⟩
def addS (y : LY) (W : Int) (d : DoR) (f : Nat → Int) (l : List Acc) : ST :=
  if kd y d.c = 1 then ⟨upd f d.c.toNat (plusW W (cutS W (f d.c.toNat)) d.n), l ++ [⟨d.t, 3, d.c, f d.c.toNat, plusW W (cutS W (f d.c.toNat)) d.n⟩], cutS W (f d.c.toNat), false⟩ else ⟨f, l, 0, false⟩
def swapS (y : LY) (W : Int) (d : DoR) (f : Nat → Int) (l : List Acc) : ST :=
  if kd y d.c = 1 then (if cutS W (f d.c.toNat) = cutS W d.o then ⟨upd f d.c.toNat (cutS W d.z), l ++ [⟨d.t, 4, d.c, f d.c.toNat, cutS W d.z⟩], 0, true⟩ else ⟨f, l ++ [⟨d.t, 5, d.c, f d.c.toNat, f d.c.toNat⟩], 0, false⟩) else ⟨f, l, 0, false⟩
def getS (y : LY) (d : DoR) (f : Nat → Int) (l : List Acc) : ST :=
  if kd y (plc y.Sl y.C d.c) = 3 then ⟨f, l ++ [⟨d.t, 6, plc y.Sl y.C d.c, f (plc y.Sl y.C d.c).toNat, f (plc y.Sl y.C d.c).toNat⟩], f (plc y.Sl y.C d.c).toNat, false⟩ else ⟨f, l, 0, false⟩
def setS (y : LY) (d : DoR) (f : Nat → Int) (l : List Acc) : ST :=
  if kd y (plc y.Sl y.C d.c) = 3 then ⟨upd f (plc y.Sl y.C d.c).toNat (U64 d.n), l ++ [⟨d.t, 7, plc y.Sl y.C d.c, f (plc y.Sl y.C d.c).toNat, U64 d.n⟩], 0, false⟩ else ⟨f, l, 0, false⟩
def stp (y : LY) (W : Int) (d : DoR) (f : Nat → Int) (l : List Acc) : ST :=
  if d.k = 1 then lookS y W 1 1 d f l else if d.k = 2 then putS y W 1 2 d f l else if d.k = 3 then addS y W d f l else if d.k = 4 then swapS y W d f l
  else if d.k = 6 then lookS y W 2 6 d f l else if d.k = 7 then putS y W 2 7 d f l else if d.k = 8 then getS y d f l else if d.k = 9 then setS y d f l else ⟨f, l, 0, false⟩
theorem plusW64 (x n : Int) : plusW 64 x n = U64 (x + n) := rfl
theorem cut32 (x : Int) : cutS 32 x = x % 4294967296 := rfl
theorem cut64 (x : Int) : cutS 64 x = x := rfl
theorem wrap_back {x : Int} (h0 : 0 ≤ x) (h1 : x < 18446744073709551616) : IntKind.u64.wrap (wrap64 x) = x := by rw [IntKind.wrap_u64]; unfold wrap64; omega
end Go.Proofs.YtkmfamidahlgiaaDoor
/- The document's board. -/
namespace Go.Proofs.YtkmfamidahlgiaaDoor
open Go.RowKit
set_option linter.unusedVariables false
set_option linter.unusedSimpArgs false
set_option maxHeartbeats 2000000
attribute [local go_sem] later_cell later_frozen later_const
/-- its letters: the configuration, where cells and numbers lie, how many there are, their kinds -/
structure RY where
  V : Int
  W : Int
  C : Int
  P : Int
  S : Int
  a : Option Addr
  n : Nat
  cap : Nat
  gc : Nat
  cc : Nat
  gh : Nat
  ch : Nat
  m : Nat
  kf : Nat → Int
theorem tag_lt {w : World} {b t : Nat} (h : Tag w b t) : b < w.heap.size := by
  obtain ⟨cur, h2⟩ := h
  exact (Array.getElem?_eq_some_iff.1 h2).1
/-- is a cell of a kind -/
def isK (y : RY) (c kind : Int) : Bool := decide (0 ≤ c) && decide (c < y.m) && (y.kf c.toNat == kind)
end Go.Proofs.YtkmfamidahlgiaaDoor
/- The document's accesses; the law's model. -/
namespace Go.Proofs.YtkmfamidahlgiaaDoor
open Go.RowKit
set_option linter.unusedVariables false
set_option linter.unusedSimpArgs false
set_option maxHeartbeats 2000000
attribute [local go_sem] later_cell later_frozen later_const
end Go.Proofs.YtkmfamidahlgiaaDoor
/- What the law's model comes to. -/
namespace Go.Proofs.YtkmfamidahlgiaaDoor
open Go.RowKit
set_option linter.unusedVariables false
set_option linter.unusedSimpArgs false
set_option maxHeartbeats 2000000
attribute [local go_sem] later_cell later_frozen later_const
/-- the two boards' letters speak of one configuration -/
structure Rel (y : LY) (r : RY) (W : Int) : Prop where
  m : r.m = y.m
  w : r.W = W
  c : r.C = y.C
  kf : ∀ c, c < y.m → r.kf c = kd y c
  sl : y.Sl + y.C = y.m
  sl0 : 0 ≤ y.Sl
  c0 : 0 ≤ y.C
  m1 : y.m ≤ 1000
  data : ∀ s, 0 ≤ s → s < y.C → kd y (y.Sl + s) = 3
/-- what is no data is below 2^W -/
def Nar (y : LY) (W : Int) (f : Nat → Int) : Prop := ∀ c : Nat, c < y.m → kd y c ≠ 3 → cutS W (f c) = f c
theorem isK_kd {y : LY} {r : RY} {W : Int} (R : Rel y r W) {c kind : Int} (h0 : kind ≠ 0) : isK r c kind = (kd y c == kind) := by
  unfold isK
  by_cases hc : 0 ≤ c ∧ c < y.m
  · rw [R.m, R.kf c.toNat (by omega), show ((c.toNat : Nat) : Int) = c by omega, decide_eq_true hc.1, decide_eq_true hc.2]
    simp
  · have hk : kd y c = 0 := by
      by_cases hh : kd y c = 0
      · exact hh
      · exact absurd (kd_in hh) hc
    have : (decide (0 ≤ c) && decide (c < (r.m : Int))) = false := by rw [R.m]; simp; omega
    rw [this, hk]
    simp
    exact fun e => h0 e.symm
theorem slot_kd {y : LY} {r : RY} {W : Int} (R : Rel y r W) (s : Int) : (kd y (plc y.Sl y.C s) = 3 ∧ plc y.Sl r.C s = plc y.Sl y.C s ∧ 0 ≤ plc y.Sl y.C s ∧ plc y.Sl y.C s < y.m) ∨ (kd y (plc y.Sl y.C s) ≠ 3 ∧ plc y.Sl r.C s = -1) := by
  have := R.sl
  have := R.sl0
  rw [R.c]
  by_cases hs : 0 ≤ s ∧ s < y.C
  · have e : plc y.Sl y.C s = y.Sl + s := by unfold plc; rw [if_neg (by omega)]
    rw [e]
    exact .inl ⟨R.data s hs.1 hs.2, rfl, by omega, by omega⟩
  · have e : plc y.Sl y.C s = -1 := by unfold plc; rw [if_pos (by omega)]
    rw [e]
    refine .inr ⟨fun h3 => ?_, rfl⟩
    have := kd_in (y := y) (c := -1) (by rw [h3]; decide)
    omega
end Go.Proofs.YtkmfamidahlgiaaDoor
/- The document's answers of layer 6: numbers' words. -/
namespace Go.Proofs.YtkmfamidahlgiaaDoor
open Go.RowKit
set_option linter.unusedVariables false
set_option maxHeartbeats 1000000
/-- a text of these bytes -/
def tx (l : List UInt8) : ByteArray := ⟨l.toArray⟩
theorem dec_len (k : Nat) : ∀ x, x < 10 ^ (k + 1) → (Lib.decDigits x).length ≤ k + 1 := by
  induction k with
  | zero => intro x hx; unfold Lib.decDigits; rw [dif_pos (by simpa using hx)]; simp
  | succ k ih =>
    intro x hx
    unfold Lib.decDigits
    split
    · simp
    · have := ih (x / 10) (by rw [Nat.pow_succ] at hx; omega)
      simp; omega
theorem dec_len20 {x : Nat} (h : x < 18446744073709551616) : (Lib.decDigits x).length ≤ 20 := dec_len 19 x (by
  have : (10 : Nat) ^ 20 = 100000000000000000000 := by decide
  omega)
theorem tx_size (l : List UInt8) : (tx l).size = l.length := rfl
theorem tx_append (a b : List UInt8) : tx (a ++ b) = tx a ++ tx b := by
  apply ByteArray.ext
  simp [tx]
end Go.Proofs.YtkmfamidahlgiaaDoor
/- The document's cells of layer 11: slots, Of. -/
namespace Go.Proofs.YtkmfamidahlgiaaDoor
open Go.RowKit
set_option linter.unusedVariables false
set_option linter.unusedSimpArgs false
set_option maxHeartbeats 2000000
attribute [local go_sem] later_cell later_frozen later_const
/-- a cell as the document has it: its name, its kind, what it has at first -/
structure DC where
  nm : ByteArray
  kd : Int
  fs : Int
def dcV (d : DC) : List Value := [.string d.nm, .int .i64 d.kd, .int .u64 d.fs]
def rowD (l : List DC) : List Value := l.flatMap dcV
theorem rowD_app (a b : List DC) : rowD (a ++ b) = rowD a ++ rowD b := List.flatMap_append
theorem rowD_len (l : List DC) : (rowD l).length = l.length * 3 := by
  induction l with
  | nil => rfl
  | cons d l ih => show (dcV d ++ rowD l).length = _; rw [List.length_append, ih]; simp [dcV]; omega
theorem rowD_one (l : List DC) : ∀ u ∈ rowD l, u.oneCell' = true := by
  intro u hu
  obtain ⟨d, _, hd⟩ := List.mem_flatMap.1 hu
  simp [dcV] at hd
  rcases hd with rfl | rfl | rfl <;> rfl
theorem rowD_at (l : List DC) (i j : Nat) (hi : i < l.length) (hj : j < 3) : (rowD l)[i * 3 + j]? = (dcV l[i])[j]? := by
  induction l generalizing i with
  | nil => simp at hi
  | cons d l ih =>
    show (dcV d ++ rowD l)[i * 3 + j]? = _
    have hd : (dcV d).length = 3 := rfl
    cases i with
    | zero => rw [List.getElem?_append_left (by omega)]; simp
    | succ i =>
      rw [List.getElem?_append_right (by omega), hd, show (i + 1) * 3 + j - 3 = i * 3 + j by omega, ih i (by simpa using hi)]
      rfl
theorem one_cells (w : World) (g : Nat) (d : DC) (h0 : w.cell? ⟨g, 0, none⟩ = some (.string d.nm)) (h1 : w.cell? ⟨g, 1, none⟩ = some (.int .i64 d.kd)) (h2 : w.cell? ⟨g, 2, none⟩ = some (.int .u64 d.fs)) : ∀ j u, (rowD [d])[j]? = some u → w.cell? ⟨g, j, none⟩ = some u := by
  intro j u hu
  match j, hu with
  | 0, hu => simp [rowD, dcV] at hu; subst hu; exact h0
  | 1, hu => simp [rowD, dcV] at hu; subst hu; exact h1
  | 2, hu => simp [rowD, dcV] at hu; subst hu; exact h2
  | j + 3, hu => simp [rowD, dcV] at hu
/-- a cell of each slot -/
def slotL (k : Nat) (W C S : Int) (m : Nat) : List DC := (List.range m).map fun (i : Nat) => ⟨pName k ++ tx (Lib.itoa (i : Int)), pKind k, fst W C S k i⟩
theorem slotL_len (k : Nat) (W C S : Int) (m : Nat) : (slotL k W C S m).length = m := by simp [slotL]
theorem slotL_snoc (k : Nat) (W C S : Int) (m : Nat) : slotL k W C S (m + 1) = slotL k W C S m ++ [⟨pName k ++ tx (Lib.itoa (m : Int)), pKind k, fst W C S k m⟩] := by
  unfold slotL
  rw [List.range_succ, List.map_append]
  rfl
theorem itoa_len21 (i : Nat) (h : i ≤ 64) : (tx (Lib.itoa (i : Int))).size ≤ 21 := by
  rw [tx_size]
  unfold Lib.itoa
  rw [if_neg (by omega)]
  have := dec_len20 (x := (i : Int).toNat) (by omega)
  omega
end Go.Proofs.YtkmfamidahlgiaaDoor
/- The document's Of of layer 11. -/
namespace Go.Proofs.YtkmfamidahlgiaaDoor
open Go.RowKit
set_option linter.unusedVariables false
set_option linter.unusedSimpArgs false
set_option maxHeartbeats 2000000
attribute [local go_sem] later_cell later_frozen later_const
/-- the gates -/
def gateL (W S : Int) (m : Nat) : List DC := (List.range m).map fun (i : Nat) => ⟨pName 1 ++ tx (Lib.itoa (i : Int)), 1, cutS W S⟩
theorem gateL_len (W S : Int) (m : Nat) : (gateL W S m).length = m := by simp [gateL]
theorem gateL_snoc (W S : Int) (m : Nat) : gateL W S (m + 1) = gateL W S m ++ [⟨pName 1 ++ tx (Lib.itoa (m : Int)), 1, cutS W S⟩] := by
  unfold gateL
  rw [List.range_succ, List.map_append]
  rfl
/-- those of the variant -/
def varL (V W C S : Int) : List DC :=
  if V = 1 then [⟨pName 2, 1, cutS W S⟩] else if V = 5 then [⟨pName 4, 1, 0⟩, ⟨pName 5, 1, 0⟩, ⟨pName 6, 2, cutS W S⟩] ++ slotL 9 W C S C.toNat
  else if V = 4 then [⟨pName 3, 1, cutS W S⟩] ++ slotL 8 W C S C.toNat else [⟨pName 3, 1, cutS W S⟩] ++ slotL 7 W C S C.toNat
def listD (V W C S : Int) (n : Nat) : List DC := gateL W S n ++ varL V W C S ++ slotL 10 W C S C.toNat
theorem three_cells (w : World) (g : Nat) (d e f : DC) (h : ∀ j u, (dcV d ++ dcV e ++ dcV f)[j]? = some u → w.cell? ⟨g, j, none⟩ = some u) : ∀ j u, (rowD [d, e, f])[j]? = some u → w.cell? ⟨g, j, none⟩ = some u := by
  intro j u hu
  refine h j u ?_
  simpa [rowD] using hu
theorem three_at (w : World) (g : Nat) (d e f : DC) (h0 : w.cell? ⟨g, 0, none⟩ = some (.string d.nm)) (h1 : w.cell? ⟨g, 1, none⟩ = some (.int .i64 d.kd)) (h2 : w.cell? ⟨g, 2, none⟩ = some (.int .u64 d.fs)) (h3 : w.cell? ⟨g, 3, none⟩ = some (.string e.nm)) (h4 : w.cell? ⟨g, 4, none⟩ = some (.int .i64 e.kd)) (h5 : w.cell? ⟨g, 5, none⟩ = some (.int .u64 e.fs)) (h6 : w.cell? ⟨g, 6, none⟩ = some (.string f.nm)) (h7 : w.cell? ⟨g, 7, none⟩ = some (.int .i64 f.kd)) (h8 : w.cell? ⟨g, 8, none⟩ = some (.int .u64 f.fs)) : ∀ j u, (dcV d ++ dcV e ++ dcV f)[j]? = some u → w.cell? ⟨g, j, none⟩ = some u := by
  intro j u hu
  match j, hu with
  | 0, hu => simp [dcV] at hu; subst hu; exact h0
  | 1, hu => simp [dcV] at hu; subst hu; exact h1
  | 2, hu => simp [dcV] at hu; subst hu; exact h2
  | 3, hu => simp [dcV] at hu; subst hu; exact h3
  | 4, hu => simp [dcV] at hu; subst hu; exact h4
  | 5, hu => simp [dcV] at hu; subst hu; exact h5
  | 6, hu => simp [dcV] at hu; subst hu; exact h6
  | 7, hu => simp [dcV] at hu; subst hu; exact h7
  | 8, hu => simp [dcV] at hu; subst hu; exact h8
  | j + 9, hu => simp [dcV] at hu
end Go.Proofs.YtkmfamidahlgiaaDoor
/- The document's board made. -/
namespace Go.Proofs.YtkmfamidahlgiaaDoor
open Go.RowKit
set_option linter.unusedVariables false
set_option linter.unusedSimpArgs false
set_option maxHeartbeats 2000000
attribute [local go_sem] later_cell later_frozen later_const
def nmO (k : Nat) (i : Int) : ByteArray := if pMany k then pName k ++ tx (Lib.itoa i) else pName k
theorem gateL_at (W S : Int) {m i : Nat} (h : i < m) : (gateL W S m)[i]? = some ⟨pName 1 ++ tx (Lib.itoa (i : Int)), 1, cutS W S⟩ := by simp [gateL, h]
theorem slotL_at (k : Nat) (W C S : Int) {m i : Nat} (h : i < m) : (slotL k W C S m)[i]? = some ⟨pName k ++ tx (Lib.itoa (i : Int)), pKind k, fst W C S k i⟩ := by simp [slotL, h]
theorem listD_at {V n C : Int} (h : NumOk V n C) (W S : Int) {N c : Nat} (hN : (N : Int) = n) (hc : (c : Int) < nCe V n C) {k i : Int} (e : useN V n C c = (k, i)) :
    (listD V W C S N)[c]? = some ⟨nmO k.toNat i, pKind k.toNat, fst W C S k i⟩ := by
  have hg := gateL_len W S N
  have hs10 := slotL_len 10 W C S C.toNat
  have hs9 := slotL_len 9 W C S C.toNat
  have hs8 := slotL_len 8 W C S C.toNat
  have hs7 := slotL_len 7 W C S C.toNat
  have h6 := h.c64
  have h5 := h.c2
  have hce : nCe V n C = nSl V n C + C := rfl
  have hlv : ((varL V W C S).length : Int) = nSl V n C - n := by
    unfold varL nSl
    by_cases v1 : V = 1
    · simp [v1]; omega
    by_cases v5 : V = 5
    · simp [v5, hs9]; omega
    by_cases v4 : V = 4
    · simp [v4, hs8]; omega
    · simp [v1, v5, v4, hs7]; omega
  have hsl : n ≤ nSl V n C := by omega
  unfold listD
  rcases use_cases h (by omega) hc with ⟨a, b⟩ | ⟨a, b⟩ | ⟨a, a2, b⟩ | ⟨a, a1, a2, b⟩ | ⟨a, a2, b⟩ | ⟨a, a2, b⟩ | ⟨a, a2, b⟩ | ⟨a, a1, a2, b⟩ <;> rw [e] at b <;> cases b
  · rw [List.append_assoc, List.getElem?_append_left (by omega), gateL_at W S (by omega)]
    rfl
  · rw [List.getElem?_append_right (by rw [List.length_append]; omega), List.length_append, slotL_at 10 W C S (by omega)]
    have : (c : Int) - nSl V n C = ((c - ((gateL W S N).length + (varL V W C S).length) : Nat) : Int) := by omega
    rw [this]
    rfl
  · rw [List.append_assoc, List.getElem?_append_right (by omega), hg, show c - N = 0 by omega]
    subst a
    simp [varL, nmO, pMany, pKind, fst]
  · rw [List.append_assoc, List.getElem?_append_right (by omega), hg, show c - N = 0 by omega]
    by_cases v4 : V = 4
    · subst v4
      simp [varL, nmO, pMany, pKind, fst]
    · simp [varL, a, a1, v4, nmO, pMany, pKind, fst]
  · rw [List.append_assoc, List.getElem?_append_right (by omega), hg, show c - N = 0 by omega]
    subst a
    simp [varL, nmO, pMany, pKind, fst]
  · rw [List.append_assoc, List.getElem?_append_right (by omega), hg, show c - N = 1 by omega]
    subst a
    simp [varL, nmO, pMany, pKind, fst]
  · rw [List.append_assoc, List.getElem?_append_right (by omega), hg, show c - N = 2 by omega]
    subst a
    simp [varL, nmO, pMany, pKind, fst]
  · by_cases v5 : V = 5
    · subst v5
      simp [nMa, nSl] at a1 a2
      rw [List.append_assoc, List.getElem?_append_right (by omega), hg, List.getElem?_append_left (by simp [nSl] at hlv; omega)]
      have hx : (c : Int) - (n + 3) = ((c - N - 3 : Nat) : Int) := by omega
      have hv : varL 5 W C S = [⟨pName 4, 1, 0⟩, ⟨pName 5, 1, 0⟩, ⟨pName 6, 2, cutS W S⟩] ++ slotL 9 W C S C.toNat := by simp [varL]
      rw [hv, List.getElem?_append_right (by simp; omega)]
      simp only [List.length_cons, List.length_nil]
      rw [slotL_at 9 W C S (by omega), show nMa 5 n = n + 3 by simp [nMa], show mrk 5 = 9 by simp [mrk], hx]
      rfl
    · have hma : nMa V n = n + 1 := by simp [nMa, a, v5]
      have hsl2 : nSl V n C = n + 1 + C := by simp [nSl, a, v5]
      rw [List.append_assoc, List.getElem?_append_right (by omega), hg, List.getElem?_append_left (by omega)]
      have hx : (c : Int) - (n + 1) = ((c - N - 1 : Nat) : Int) := by omega
      by_cases v4 : V = 4
      · subst v4
        have hv : varL 4 W C S = [⟨pName 3, 1, cutS W S⟩] ++ slotL 8 W C S C.toNat := by simp [varL]
        rw [hv, List.getElem?_append_right (by simp; omega)]
        simp only [List.length_cons, List.length_nil]
        rw [slotL_at 8 W C S (by omega), hma, show mrk 4 = 8 by simp [mrk], hx]
        rfl
      · have hv : varL V W C S = [⟨pName 3, 1, cutS W S⟩] ++ slotL 7 W C S C.toNat := by simp [varL, a, v4, v5]
        rw [hv, List.getElem?_append_right (by simp; omega)]
        simp only [List.length_cons, List.length_nil]
        rw [slotL_at 7 W C S (by omega), hma, show mrk V = 7 by simp [mrk, v4, v5], hx]
        rfl
theorem listD_len {V n C : Int} (h : NumOk V n C) (W S : Int) {N : Nat} (hN : (N : Int) = n) : ((listD V W C S N).length : Int) = nCe V n C := by
  have h5 := h.c2
  unfold listD varL nCe nSl
  simp only [List.length_append, gateL_len, slotL_len]
  by_cases v1 : V = 1
  · simp [v1]; omega
  by_cases v5 : V = 5
  · simp [v5, slotL_len]; omega
  by_cases v4 : V = 4
  · simp [v4, slotL_len]; omega
  · simp [v1, v5, v4, slotL_len]; omega

def rowU (F : Nat → Int) (k : Nat) : List Value := (List.range k).map fun i => .int .u64 (F i)
theorem rowU_snoc (F : Nat → Int) (k : Nat) : rowU F (k + 1) = rowU F k ++ [.int .u64 (F k)] := by
  unfold rowU
  rw [List.range_succ, List.map_append]
  rfl
theorem row_tagU {w : World} {base t n : Nat} {v : Value} {xs : List Value} (h : w.ownsRow base t 1 v n xs) {k : Nat} (hk : v.ownBlock = some k) : Tag w k t := by
  rcases h.2 with ⟨e1, _⟩ | ⟨g', cap', cur, e1, _, hgo, _⟩
  · rw [e1] at hk; cases hk
  · rw [e1] at hk; cases hk; exact ⟨_, hgo⟩
theorem listD_kf {V : Int} {N : Nat} {C : Int} (h : NumOk V N C) (W S : Int) {c : Nat} (hc : c < (listD V W C S N).length) : (listD V W C S N)[c].kd = pKind (useN V N C c).1.toNat ∧ (listD V W C S N)[c].fs = fsC V W C S N c := by
  have hl := listD_len h W S rfl
  have ha := listD_at h W S (N := N) (c := c) rfl (by omega) (k := (useN V N C c).1) (i := (useN V N C c).2) rfl
  rw [List.getElem?_eq_getElem hc] at ha
  have := Option.some.inj ha
  rw [this]
  exact ⟨rfl, rfl⟩
end Go.Proofs.YtkmfamidahlgiaaDoor
/- Each access finds what the last one of the same cell left. No program in sight. -/
namespace Go.Proofs.YtkmfamidahlgiaaDoor
open Go.RowKit
set_option linter.unusedVariables false
set_option linter.unusedSimpArgs false
set_option maxHeartbeats 1000000
/-- what the last one of a cell left -/
def lastN (v0 : Int) (l : List Acc) (c : Int) : Int := l.foldl (fun h x => if x.c = c then x.n else h) v0
theorem lastN_snoc (v0 : Int) (l : List Acc) (x : Acc) (c : Int) : lastN v0 (l ++ [x]) c = if x.c = c then x.n else lastN v0 l c := by
  unfold lastN
  rw [List.foldl_append]
  rfl
/-- one access more, or none -/
theorem stp_form (y : LY) (W : Int) (hW : W = 32 ∨ W = 64) (d : DoR) (f : Nat → Int) (l : List Acc) (fr : ∀ i, i < y.m → 0 ≤ f i ∧ f i < 18446744073709551616) (z0 : 0 ≤ d.z) (z1 : d.z < 18446744073709551616) :
    ((stp y W d f l).f = f ∧ (stp y W d f l).l = l) ∨ ∃ (t k : Int) (c : Nat) (z : Int), c < y.m ∧ 0 ≤ z ∧ z < 18446744073709551616 ∧ (stp y W d f l).f = upd f c z ∧ (stp y W d f l).l = l ++ [⟨t, k, c, f c, z⟩] := by
  have cz : 0 ≤ cutS W d.z ∧ cutS W d.z < 18446744073709551616 := by unfold cutS; split <;> omega
  have pz : ∀ x n, 0 ≤ plusW W x n ∧ plusW W x n < 18446744073709551616 := fun x n => by
    unfold plusW
    split
    · omega
    · exact U64_range _
  have look : ∀ kind ak, kind ≠ 0 → ((lookS y W kind ak d f l).f = f ∧ (lookS y W kind ak d f l).l = l) ∨ ∃ (t k : Int) (c : Nat) (z : Int), c < y.m ∧ 0 ≤ z ∧ z < 18446744073709551616 ∧ (lookS y W kind ak d f l).f = upd f c z ∧ (lookS y W kind ak d f l).l = l ++ [⟨t, k, c, f c, z⟩] := by
    intro kind ak h0
    unfold lookS
    by_cases hk : kd y d.c = kind
    · rw [if_pos hk]
      obtain ⟨c0, c1⟩ := kd_in (y := y) (c := d.c) (by rw [hk]; exact h0)
      have hc : d.c.toNat < y.m := by omega
      have e : ((d.c.toNat : Nat) : Int) = d.c := by omega
      exact .inr ⟨d.t, ak, d.c.toNat, f d.c.toNat, hc, (fr _ hc).1, (fr _ hc).2, (upd_same f _).symm, by rw [e]⟩
    · rw [if_neg hk]; exact .inl ⟨rfl, rfl⟩
  have put : ∀ kind ak, kind ≠ 0 → ((putS y W kind ak d f l).f = f ∧ (putS y W kind ak d f l).l = l) ∨ ∃ (t k : Int) (c : Nat) (z : Int), c < y.m ∧ 0 ≤ z ∧ z < 18446744073709551616 ∧ (putS y W kind ak d f l).f = upd f c z ∧ (putS y W kind ak d f l).l = l ++ [⟨t, k, c, f c, z⟩] := by
    intro kind ak h0
    unfold putS
    by_cases hk : kd y d.c = kind
    · rw [if_pos hk]
      obtain ⟨c0, c1⟩ := kd_in (y := y) (c := d.c) (by rw [hk]; exact h0)
      have hc : d.c.toNat < y.m := by omega
      have e : ((d.c.toNat : Nat) : Int) = d.c := by omega
      exact .inr ⟨d.t, ak, d.c.toNat, cutS W d.z, hc, cz.1, cz.2, rfl, by rw [e]⟩
    · rw [if_neg hk]; exact .inl ⟨rfl, rfl⟩
  unfold stp
  by_cases k1 : d.k = 1
  · rw [if_pos k1]; exact look 1 1 (by decide)
  rw [if_neg k1]
  by_cases k2 : d.k = 2
  · rw [if_pos k2]; exact put 1 2 (by decide)
  rw [if_neg k2]
  by_cases k3 : d.k = 3
  · rw [if_pos k3]
    unfold addS
    by_cases hk : kd y d.c = 1
    · rw [if_pos hk]
      obtain ⟨c0, c1⟩ := kd_in (y := y) (c := d.c) (by rw [hk]; decide)
      have hc : d.c.toNat < y.m := by omega
      have e : ((d.c.toNat : Nat) : Int) = d.c := by omega
      exact .inr ⟨d.t, 3, d.c.toNat, _, hc, (pz _ _).1, (pz _ _).2, rfl, by rw [e]⟩
    · rw [if_neg hk]; exact .inl ⟨rfl, rfl⟩
  rw [if_neg k3]
  by_cases k4 : d.k = 4
  · rw [if_pos k4]
    unfold swapS
    by_cases hk : kd y d.c = 1
    · rw [if_pos hk]
      obtain ⟨c0, c1⟩ := kd_in (y := y) (c := d.c) (by rw [hk]; decide)
      have hc : d.c.toNat < y.m := by omega
      have e : ((d.c.toNat : Nat) : Int) = d.c := by omega
      by_cases ho : cutS W (f d.c.toNat) = cutS W d.o
      · rw [if_pos ho]
        exact .inr ⟨d.t, 4, d.c.toNat, cutS W d.z, hc, cz.1, cz.2, rfl, by rw [e]⟩
      · rw [if_neg ho]
        exact .inr ⟨d.t, 5, d.c.toNat, f d.c.toNat, hc, (fr _ hc).1, (fr _ hc).2, (upd_same f _).symm, by rw [e]⟩
    · rw [if_neg hk]; exact .inl ⟨rfl, rfl⟩
  rw [if_neg k4]
  by_cases k6 : d.k = 6
  · rw [if_pos k6]; exact look 2 6 (by decide)
  rw [if_neg k6]
  by_cases k7 : d.k = 7
  · rw [if_pos k7]; exact put 2 7 (by decide)
  rw [if_neg k7]
  by_cases k8 : d.k = 8
  · rw [if_pos k8]
    unfold getS
    by_cases hk : kd y (plc y.Sl y.C d.c) = 3
    · rw [if_pos hk]
      obtain ⟨c0, c1⟩ := kd_in (y := y) (c := plc y.Sl y.C d.c) (by rw [hk]; decide)
      have hc : (plc y.Sl y.C d.c).toNat < y.m := by omega
      have e : (((plc y.Sl y.C d.c).toNat : Nat) : Int) = plc y.Sl y.C d.c := by omega
      exact .inr ⟨d.t, 6, (plc y.Sl y.C d.c).toNat, _, hc, (fr _ hc).1, (fr _ hc).2, (upd_same f _).symm, by rw [e]⟩
    · rw [if_neg hk]; exact .inl ⟨rfl, rfl⟩
  rw [if_neg k8]
  by_cases k9 : d.k = 9
  · rw [if_pos k9]
    unfold setS
    by_cases hk : kd y (plc y.Sl y.C d.c) = 3
    · rw [if_pos hk]
      obtain ⟨c0, c1⟩ := kd_in (y := y) (c := plc y.Sl y.C d.c) (by rw [hk]; decide)
      have hc : (plc y.Sl y.C d.c).toNat < y.m := by omega
      have e : (((plc y.Sl y.C d.c).toNat : Nat) : Int) = plc y.Sl y.C d.c := by omega
      exact .inr ⟨d.t, 7, (plc y.Sl y.C d.c).toNat, _, hc, (U64_range _).1, (U64_range _).2, rfl, by rw [e]⟩
    · rw [if_neg hk]; exact .inl ⟨rfl, rfl⟩
  · rw [if_neg k9]; exact .inl ⟨rfl, rfl⟩
/-- how cells and accesses stand to each other -/
structure Chain (m : Nat) (F f : Nat → Int) (l : List Acc) : Prop where
  rng : ∀ i, i < m → 0 ≤ f i ∧ f i < 18446744073709551616
  cur : ∀ i, i < m → f i = lastN (F i) l i
  old : ∀ i, (hi : i < l.length) → ∃ c : Nat, c < m ∧ l[i].c = c ∧ l[i].o = lastN (F c) (l.take i) c
theorem Chain.step {m : Nat} {F f : Nat → Int} {l : List Acc} (h : Chain m F f l) {t k : Int} {c : Nat} {z : Int} (hc : c < m) (z0 : 0 ≤ z) (z1 : z < 18446744073709551616) : Chain m F (upd f c z) (l ++ [⟨t, k, c, f c, z⟩]) := by
  refine ⟨fun i hi => ?_, fun i hi => ?_, fun i hi => ?_⟩
  · unfold upd
    by_cases e : i = c
    · rw [if_pos e]; exact ⟨z0, z1⟩
    · rw [if_neg e]; exact h.rng i hi
  · rw [lastN_snoc]
    unfold upd
    by_cases e : i = c
    · rw [if_pos e, if_pos (by simp [e])]
    · rw [if_neg e, if_neg (by simp; omega)]
      exact h.cur i hi
  · rw [List.length_append] at hi
    simp at hi
    by_cases hil : i < l.length
    · obtain ⟨c', a, b, d⟩ := h.old i hil
      rw [List.getElem_append_left hil, List.take_append_of_le_length (by omega)]
      exact ⟨c', a, b, d⟩
    · have : i = l.length := by omega
      subst this
      refine ⟨c, hc, by simp, ?_⟩
      rw [List.getElem_append_right (Nat.le_refl _), List.take_append_of_le_length (Nat.le_refl _), List.take_length]
      simpa using h.cur c hc
theorem Chain.nil {m : Nat} {F : Nat → Int} (h : ∀ i, i < m → 0 ≤ F i ∧ F i < 18446744073709551616) : Chain m F F [] := ⟨h, fun _ _ => rfl, fun i hi => by simp at hi⟩
theorem stp_len (y : LY) (W : Int) (hW : W = 32 ∨ W = 64) (d : DoR) (f : Nat → Int) (l : List Acc) (fr : ∀ i, i < y.m → 0 ≤ f i ∧ f i < 18446744073709551616) (z0 : 0 ≤ d.z) (z1 : d.z < 18446744073709551616) : (stp y W d f l).l.length ≤ l.length + 1 := by
  rcases stp_form y W hW d f l fr z0 z1 with ⟨_, e⟩ | ⟨t, k, c, z, _, _, _, _, e⟩
  · rw [e]; omega
  · rw [e]; simp
theorem Chain.stp {y : LY} {F f : Nat → Int} {l : List Acc} (h : Chain y.m F f l) (W : Int) (hW : W = 32 ∨ W = 64) (d : DoR) (z0 : 0 ≤ d.z) (z1 : d.z < 18446744073709551616) : Chain y.m F (Go.Proofs.YtkmfamidahlgiaaDoor.stp y W d f l).f (Go.Proofs.YtkmfamidahlgiaaDoor.stp y W d f l).l := by
  rcases stp_form y W hW d f l h.rng z0 z1 with ⟨e1, e2⟩ | ⟨t, k, c, z, hc, a, b, e1, e2⟩
  · rw [e1, e2]; exact h
  · rw [e1, e2]; exact h.step hc a b
/-- what cells have at first fits -/
theorem fst_rng {W C S : Int} (hW : W = 32 ∨ W = 64) (hC : rightB C = true) (h0 : 0 ≤ S) (h1 : S < 18446744073709551616) (k i : Int) : 0 ≤ fst W C S k i ∧ fst W C S k i < 18446744073709551616 := by
  have hc : 0 ≤ cutS W S ∧ cutS W S < 18446744073709551616 := by unfold cutS; split <;> omega
  unfold fst
  split
  · exact hc
  · split
    · unfold aheadR
      rcases hW with rfl | rfl
      · rw [if_pos rfl]
        have := ahead_bound32 (cutS 32 S + (i - cutS 32 S) % C - C) hC
        omega
      · rw [if_neg (by decide)]
        exact ahead_bound64 _ hC
    · split
      · unfold firstR
        rcases hW with rfl | rfl
        · rw [if_pos rfl]; omega
        · rw [if_neg (by decide)]; exact first_bound64 _
      · omega
end Go.Proofs.YtkmfamidahlgiaaDoor
/- The two boards beside each other; the document's Cost. -/
namespace Go.Proofs.YtkmfamidahlgiaaDoor
open Go.RowKit
set_option linter.unusedVariables false
set_option linter.unusedSimpArgs false
set_option maxHeartbeats 2000000
attribute [local go_sem] later_cell later_frozen later_const
theorem rel_of {V W C P S : Int} {bo n m : Nat} {r : RY} (hok : NumOk V n C) (hm : (m : Int) = nCe V n C) (h1 : r.m = m) (h2 : r.W = W) (h3 : r.C = C) (h4 : ∀ c : Nat, c < m → r.kf c = pKind (useN V n C c).1.toNat) : Rel (yOf V W C P S bo n m) r W := by
  have hb := num_bounds hok
  have h6 := hok.c64
  have h5 := hok.c2
  have hn := hok.n0
  have hce : nCe V n C = nSl V n C + C := rfl
  have hns : (n : Int) ≤ nSl V n C := by
    have := hok.v1
    have := hok.v5
    unfold nSl
    split
    · omega
    · split <;> omega
  refine ⟨h1, h2, h3, fun c hc => by rw [yOf_kd hm]; exact h4 c hc, ?_, ?_, ?_, ?_, fun s s0 s1 => ?_⟩
  · show nSl V n C + C = m
    omega
  · show 0 ≤ nSl V n C
    omega
  · show 0 ≤ C
    omega
  · show m ≤ 1000
    omega
  · rw [yOf_kd hm]
    have s1' : s < C := s1
    show pKind (useN V n C (nSl V n C + s)).1.toNat = 3
    unfold useN useL
    rw [if_neg (by omega), if_neg (by omega), if_pos (by omega)]
    rfl
theorem nar64 (y : LY) (f : Nat → Int) : Nar y 64 f := fun c _ _ => rfl
theorem nar_upd {y : LY} {W : Int} {f : Nat → Int} (h : Nar y W f) (c : Nat) (z : Int) (hz : kd y c ≠ 3 → cutS W z = z) : Nar y W (upd f c z) := by
  intro i hi hk
  unfold upd
  by_cases e : i = c
  · subst e
    rw [if_pos rfl]
    exact hz hk
  · rw [if_neg e]
    exact h i hi hk
theorem cut_cut (W x : Int) : cutS W (cutS W x) = cutS W x := by
  unfold cutS
  split
  · omega
  · rfl
theorem cut_plus (W x n : Int) : cutS W (plusW W x n) = plusW W x n := by
  unfold cutS plusW
  split
  · omega
  · rfl
theorem Nar.stp {y : LY} {W : Int} {f : Nat → Int} (h : Nar y W f) (d : DoR) (l : List Acc) : Nar y W (Go.Proofs.YtkmfamidahlgiaaDoor.stp y W d f l).f := by
  unfold Go.Proofs.YtkmfamidahlgiaaDoor.stp
  by_cases k1 : d.k = 1
  · rw [if_pos k1]
    unfold lookS
    split
    · exact h
    · exact h
  rw [if_neg k1]
  by_cases k2 : d.k = 2
  · rw [if_pos k2]
    unfold putS
    split
    · exact nar_upd h _ _ (fun _ => cut_cut _ _)
    · exact h
  rw [if_neg k2]
  by_cases k3 : d.k = 3
  · rw [if_pos k3]
    unfold addS
    split
    · exact nar_upd h _ _ (fun _ => cut_plus _ _ _)
    · exact h
  rw [if_neg k3]
  by_cases k4 : d.k = 4
  · rw [if_pos k4]
    unfold swapS
    split
    · split
      · exact nar_upd h _ _ (fun _ => cut_cut _ _)
      · exact h
    · exact h
  rw [if_neg k4]
  by_cases k6 : d.k = 6
  · rw [if_pos k6]
    unfold lookS
    split
    · exact h
    · exact h
  rw [if_neg k6]
  by_cases k7 : d.k = 7
  · rw [if_pos k7]
    unfold putS
    split
    · exact nar_upd h _ _ (fun _ => cut_cut _ _)
    · exact h
  rw [if_neg k7]
  by_cases k8 : d.k = 8
  · rw [if_pos k8]
    unfold getS
    split
    · exact h
    · exact h
  rw [if_neg k8]
  by_cases k9 : d.k = 9
  · rw [if_pos k9]
    unfold setS
    split
    · rename_i hk
      refine nar_upd h _ _ (fun hn => absurd ?_ hn)
      have := kd_in (y := y) (c := plc y.Sl y.C d.c) (by rw [hk]; decide)
      rw [show (((plc y.Sl y.C d.c).toNat : Nat) : Int) = plc y.Sl y.C d.c by omega]
      exact hk
    · exact h
  rw [if_neg k9]
  exact h
theorem fst_rng32 {C S : Int} (hC : rightB C = true) (k i : Int) : 0 ≤ fst 32 C S k i ∧ fst 32 C S k i < 4294967296 := by
  unfold fst
  split
  · unfold cutS; rw [if_pos rfl]; omega
  · split
    · unfold aheadR
      rw [if_pos rfl]
      exact ahead_bound32 _ hC
    · split
      · unfold firstR
        rw [if_pos rfl]; omega
      · omega
theorem nar_first {V C S P : Int} {bo n m : Nat} (hC : rightB C = true) : Nar (yOf V 32 C P S bo n m) 32 (fsC V 32 C S n) := by
  intro c _ _
  have := fst_rng32 (S := S) hC (useN V n C c).1 (useN V n C c).2
  unfold cutS fsC
  rw [if_pos rfl]
  omega
end Go.Proofs.YtkmfamidahlgiaaDoor
/- New of the other width, Len, Layout, the document's Same; lists kept beside the two boards. -/
namespace Go.Proofs.YtkmfamidahlgiaaDoor
open Go.RowKit
set_option linter.unusedVariables false
set_option linter.unusedSimpArgs false
set_option maxHeartbeats 2000000
attribute [local go_sem] later_cell later_frozen later_const
theorem tag_cells {w : World} {b t : Nat} (h : Tag w b t) (h1 : t ≠ 43) (h2 : t ≠ 3) : ∃ cur e fz, w.heap[b]? = some (.cells cur e fz) ∧ e ≠ 43 ∧ e ≠ 3 := by
  obtain ⟨cur, hh⟩ := h
  exact ⟨cur, t, _, hh, h1, h2⟩
theorem BD.own {w : World} {bt b g : Nat} {y : LY} {f : Nat → Int} {lv : Value} {log : List Acc} (h : BD w bt b g y f lv log) (h1 : bt ≠ 43) (h2 : bt ≠ 3) : ∀ k, Own b g lv k → k < w.heap.size → ∃ cur e fz, w.heap[k]? = some (.cells cur e fz) ∧ e ≠ 43 ∧ e ≠ 3 := by
  intro k hk _
  rcases hk with rfl | rfl | hk
  · exact tag_cells h.tb h1 h2
  · exact tag_cells h.tg (by decide) (by decide)
  · exact tag_cells (row_tagA h.row hk) (by decide) (by decide)
theorem Len32 (b g : Nat) (y : LY) (f : Nat → Int) (lv : Value) (log : List Acc) (w : World) (hB : BD w 56 b g y f lv log) :
    Calls Tryd.prog 12 #[.pointer (some ⟨b, 0, none⟩)] w fun e w' => e = .returned (.int .i64 log.length) ∧ w = w' := by
  have q15 := hB.q15
  obtain ⟨a, cap, e, -⟩ := rowA_form hB.row
  subst e
  clear hB
  generalize log.length = n at *
  go_enter Tryd.func12, Tryd.ntmps12
  go_wp2
  go_ret
  exact ⟨rfl, rfl⟩
set_option maxRecDepth 100000 in
theorem New32_other (V C P S : Int) (a : Option Addr) (cap : Nat) (ups : List (List Int)) (xu xl xt xs xn xm xo : Int) (m : Nat) (w : World) (hL : ListsV w (.slice a ups.length cap) ups) (hll : ∀ l ∈ ups, l.length ≤ 1000000) (hn : ups.length ≤ 1000000) (hg : ckC V 64 C P ups = 0) (hm : (m : Int) = nCe V ups.length C) :
    Calls Tryd.prog 6 #[(.agg #[.int .i64 V, .int .i64 64, .int .i64 C, .int .i64 P, .int .u64 S, .slice a ups.length cap, .int .i64 xu, .int .i64 xl, .int .i64 xt, .int .i64 xs, .int .i64 xn, .int .i64 xm, .int .i64 xo, .int .i64 m])] w fun e w' => e = .returned (.pointer none) ∧ Ext w w' := by
  obtain ⟨n, hn0⟩ : ∃ n, n = ups.length := ⟨_, rfl⟩
  have CO := fun w' (hx : Ext w w') => lOf_ok V 64 C P S _ ups w' (hL.ext hx) hll hn hg
  rw [← hn0] at CO hm ⊢
  obtain ⟨Cu, hCu⟩ : ∃ x, x = nCu V n := ⟨_, rfl⟩
  obtain ⟨Cl, hCl⟩ : ∃ x, x = nCl V n := ⟨_, rfl⟩
  obtain ⟨Ti, hTi⟩ : ∃ x, x = nTi V n := ⟨_, rfl⟩
  obtain ⟨Se, hSe⟩ : ∃ x, x = nSe V n := ⟨_, rfl⟩
  obtain ⟨Ne, hNe⟩ : ∃ x, x = nNe V n := ⟨_, rfl⟩
  obtain ⟨Ma, hMa⟩ : ∃ x, x = nMa V n := ⟨_, rfl⟩
  obtain ⟨Sl, hSl⟩ : ∃ x, x = nSl V n C := ⟨_, rfl⟩
  have hLay : ∀ u, layV V 64 C P S u n = (.agg #[.int .i64 V, .int .i64 64, .int .i64 C, .int .i64 P, .int .u64 S, u, .int .i64 Cu, .int .i64 Cl, .int .i64 Ti, .int .i64 Se, .int .i64 Ne, .int .i64 Ma, .int .i64 Sl, .int .i64 m]) := fun u => by unfold layV; rw [hCu, hCl, hTi, hSe, hNe, hMa, hSl, hm]
  have HLAY := Lib.hid hLay
  have HCO := Lib.hid CO
  have HN0 := Lib.hid hn0
  clear CO hL hll hg hn hLay hCu hCl hTi hSe hNe hMa hSl hm hn0
  go_enter Tryd.func6, Tryd.ntmps6
  go_wp2_with fail
  refine (HCO.out _ ((Ext.refl w).alloc _)).mono ?_
  rintro e wo ⟨uo, rfl, Oo, Xo⟩
  obtain ⟨bo, fo, cuo, eo, -⟩ := id Oo
  rw [← HN0.out] at eo ⊢
  subst eo
  rw [HLAY.out]
  have qa_0 : wo.cell? ⟨w.heap.size, 0, none⟩ = some (.int .i64 V) := Xo.cell (by simp [go_sem])
  have qa_1 : wo.cell? ⟨w.heap.size, 1, none⟩ = some (.int .i64 64) := Xo.cell (by simp [go_sem])
  have qa_2 : wo.cell? ⟨w.heap.size, 2, none⟩ = some (.int .i64 C) := Xo.cell (by simp [go_sem])
  have qa_3 : wo.cell? ⟨w.heap.size, 3, none⟩ = some (.int .i64 P) := Xo.cell (by simp [go_sem])
  have qa_4 : wo.cell? ⟨w.heap.size, 4, none⟩ = some (.int .u64 S) := Xo.cell (by simp [go_sem])
  have qa_5 : wo.cell? ⟨w.heap.size, 5, none⟩ = some (.slice a n cap) := Xo.cell (by simp [go_sem])
  have qa_6 : wo.cell? ⟨w.heap.size, 6, none⟩ = some (.int .i64 xu) := Xo.cell (by simp [go_sem])
  have qa_7 : wo.cell? ⟨w.heap.size, 7, none⟩ = some (.int .i64 xl) := Xo.cell (by simp [go_sem])
  have qa_8 : wo.cell? ⟨w.heap.size, 8, none⟩ = some (.int .i64 xt) := Xo.cell (by simp [go_sem])
  have qa_9 : wo.cell? ⟨w.heap.size, 9, none⟩ = some (.int .i64 xs) := Xo.cell (by simp [go_sem])
  have qa_10 : wo.cell? ⟨w.heap.size, 10, none⟩ = some (.int .i64 xn) := Xo.cell (by simp [go_sem])
  have qa_11 : wo.cell? ⟨w.heap.size, 11, none⟩ = some (.int .i64 xm) := Xo.cell (by simp [go_sem])
  have qa_12 : wo.cell? ⟨w.heap.size, 12, none⟩ = some (.int .i64 xo) := Xo.cell (by simp [go_sem])
  have qa_13 : wo.cell? ⟨w.heap.size, 13, none⟩ = some (.int .i64 m) := Xo.cell (by simp [go_sem])
  have xo : Ext w wo := Ext.trans ((Ext.refl w).alloc _) Xo
  have po := World.block_lt_of_cell? _ ⟨w.heap.size, 0, none⟩ qa_0
  have ro := Nat.lt_succ_of_lt po
  clear Xo Oo
  go_upto_region 2 with (fail)
  refine settle_wp ?_
  intro w2 hb2
  have ql_0 : w2.cell? ⟨wo.heap.size, 0, none⟩ = some (.int .i64 V) := hb2.cell (by simp [go_sem])
  have ql_1 : w2.cell? ⟨wo.heap.size, 1, none⟩ = some (.int .i64 64) := hb2.cell (by simp [go_sem])
  have ql_2 : w2.cell? ⟨wo.heap.size, 2, none⟩ = some (.int .i64 C) := hb2.cell (by simp [go_sem])
  have ql_3 : w2.cell? ⟨wo.heap.size, 3, none⟩ = some (.int .i64 P) := hb2.cell (by simp [go_sem])
  have ql_4 : w2.cell? ⟨wo.heap.size, 4, none⟩ = some (.int .u64 S) := hb2.cell (by simp [go_sem])
  have ql_5 : w2.cell? ⟨wo.heap.size, 5, none⟩ = some (.slice (some ⟨bo, 0, none⟩) n n) := hb2.cell (by simp [go_sem])
  have ql_6 : w2.cell? ⟨wo.heap.size, 6, none⟩ = some (.int .i64 Cu) := hb2.cell (by simp [go_sem])
  have ql_7 : w2.cell? ⟨wo.heap.size, 7, none⟩ = some (.int .i64 Cl) := hb2.cell (by simp [go_sem])
  have ql_8 : w2.cell? ⟨wo.heap.size, 8, none⟩ = some (.int .i64 Ti) := hb2.cell (by simp [go_sem])
  have ql_9 : w2.cell? ⟨wo.heap.size, 9, none⟩ = some (.int .i64 Se) := hb2.cell (by simp [go_sem])
  have ql_10 : w2.cell? ⟨wo.heap.size, 10, none⟩ = some (.int .i64 Ne) := hb2.cell (by simp [go_sem])
  have ql_11 : w2.cell? ⟨wo.heap.size, 11, none⟩ = some (.int .i64 Ma) := hb2.cell (by simp [go_sem])
  have ql_12 : w2.cell? ⟨wo.heap.size, 12, none⟩ = some (.int .i64 Sl) := hb2.cell (by simp [go_sem])
  have ql_13 : w2.cell? ⟨wo.heap.size, 13, none⟩ = some (.int .i64 m) := hb2.cell (by simp [go_sem])
  have x2 := Ext.trans ((Ext.refl wo).alloc _) hb2
  replace qa_0 := x2.cell qa_0
  replace qa_1 := x2.cell qa_1
  replace qa_2 := x2.cell qa_2
  replace qa_3 := x2.cell qa_3
  replace qa_4 := x2.cell qa_4
  replace qa_5 := x2.cell qa_5
  replace qa_6 := x2.cell qa_6
  replace qa_7 := x2.cell qa_7
  replace qa_8 := x2.cell qa_8
  replace qa_9 := x2.cell qa_9
  replace qa_10 := x2.cell qa_10
  replace qa_11 := x2.cell qa_11
  replace qa_12 := x2.cell qa_12
  replace qa_13 := x2.cell qa_13
  have HE2 := Lib.hid (xo.trans x2)
  clear hb2 x2 xo po ro
  refine wp_region_later (by kernel_rfl) (by kernel_rfl) ?_
  have l_0 := fun (g : Later w2) => g.ok.cell ql_0
  have l_1 := fun (g : Later w2) => g.ok.cell ql_1
  have l_2 := fun (g : Later w2) => g.ok.cell ql_2
  have l_3 := fun (g : Later w2) => g.ok.cell ql_3
  have l_4 := fun (g : Later w2) => g.ok.cell ql_4
  have l_5 := fun (g : Later w2) => g.ok.cell ql_5
  have l_6 := fun (g : Later w2) => g.ok.cell ql_6
  have l_7 := fun (g : Later w2) => g.ok.cell ql_7
  have l_8 := fun (g : Later w2) => g.ok.cell ql_8
  have l_9 := fun (g : Later w2) => g.ok.cell ql_9
  have l_10 := fun (g : Later w2) => g.ok.cell ql_10
  have l_11 := fun (g : Later w2) => g.ok.cell ql_11
  have l_12 := fun (g : Later w2) => g.ok.cell ql_12
  have l_13 := fun (g : Later w2) => g.ok.cell ql_13
  have a_0 := fun (g : Later w2) => g.ok.cell qa_0
  have a_1 := fun (g : Later w2) => g.ok.cell qa_1
  have a_2 := fun (g : Later w2) => g.ok.cell qa_2
  have a_3 := fun (g : Later w2) => g.ok.cell qa_3
  have a_4 := fun (g : Later w2) => g.ok.cell qa_4
  have a_5 := fun (g : Later w2) => g.ok.cell qa_5
  have a_6 := fun (g : Later w2) => g.ok.cell qa_6
  have a_7 := fun (g : Later w2) => g.ok.cell qa_7
  have a_8 := fun (g : Later w2) => g.ok.cell qa_8
  have a_9 := fun (g : Later w2) => g.ok.cell qa_9
  have a_10 := fun (g : Later w2) => g.ok.cell qa_10
  have a_11 := fun (g : Later w2) => g.ok.cell qa_11
  have a_12 := fun (g : Later w2) => g.ok.cell qa_12
  have a_13 := fun (g : Later w2) => g.ok.cell qa_13
  repeat (go_big_quiet_step ((fail)))
  go_big_quiet_step ((go_at_call 18; exact laterS (bitsU32 _)))
  repeat (go_big_quiet_step ((fail)))
  refine wpQuiet_nil ?_
  intro w3 hl3
  have HE3 := Lib.hid (HE2.out.trans (laters_ext hl3))
  clear hl3 l_0 a_0 ql_0 qa_0 l_1 a_1 ql_1 qa_1 l_2 a_2 ql_2 qa_2 l_3 a_3 ql_3 qa_3 l_4 a_4 ql_4 qa_4 l_5 a_5 ql_5 qa_5 l_6 a_6 ql_6 qa_6 l_7 a_7 ql_7 qa_7 l_8 a_8 ql_8 qa_8 l_9 a_9 ql_9 qa_9 l_10 a_10 ql_10 qa_10 l_11 a_11 ql_11 qa_11 l_12 a_12 ql_12 qa_12 l_13 a_13 ql_13 qa_13
  go_wp2
  go_ret
  exact ⟨rfl, HE3.out⟩
/-- a layout told, its lists in memory of their own -/
def LayDoes (y : LY) (ups : List (List Int)) (w : World) (e : Ending) (w' : World) : Prop :=
  ∃ u : Value, e = .returned (.agg #[.int .i64 (y.V), .int .i64 (y.W), .int .i64 (y.C), .int .i64 (y.P), .int .u64 (y.S), u, .int .i64 (y.Cu), .int .i64 (y.Cl), .int .i64 (y.Ti), .int .i64 (y.Se), .int .i64 (y.Ne), .int .i64 (y.Ma), .int .i64 (y.Sl), .int .i64 (y.m)]) ∧ ListsV w' u ups ∧ Ext w w'
set_option maxRecDepth 100000 in
theorem Layout32 (b g : Nat) (y : LY) (f : Nat → Int) (lv : Value) (log : List Acc) (ups : List (List Int)) (w : World) (hB : BD w 56 b g y f lv log) (hL : ListsV w (.slice y.a y.n y.cap) ups) (hll : ∀ l ∈ ups, l.length ≤ 1000000) (hn : ups.length ≤ 1000000) (hg : ckC y.V y.W y.C y.P ups = 0)
    (hy : ∀ u, layV y.V y.W y.C y.P y.S u ups.length = (.agg #[.int .i64 (y.V), .int .i64 (y.W), .int .i64 (y.C), .int .i64 (y.P), .int .u64 (y.S), u, .int .i64 (y.Cu), .int .i64 (y.Cl), .int .i64 (y.Ti), .int .i64 (y.Se), .int .i64 (y.Ne), .int .i64 (y.Ma), .int .i64 (y.Sl), .int .i64 (y.m)])) :
    Calls Tryd.prog 20 #[.pointer (some ⟨b, 0, none⟩)] w (LayDoes y ups w) := by
  have CO := Lib.hid (fun w' (hx : Ext w w') => lOf_ok y.V y.W y.C y.P y.S _ ups w' (hL.ext hx) hll hn hg)
  have HY := Lib.hid hy
  have q0 := hB.q0
  have q1 := hB.q1
  have q2 := hB.q2
  have q3 := hB.q3
  have q4 := hB.q4
  have q5 := hB.q5
  have HG : Hid (∀ (b2 n : Nat) w', OwnL w' (.slice (some ⟨b2, 0, none⟩) n n) ups → Ext w w' → LayDoes y ups w (.returned (.agg #[.int .i64 (y.V), .int .i64 (y.W), .int .i64 (y.C), .int .i64 (y.P), .int .u64 (y.S), .slice (some ⟨b2, 0, none⟩) n n, .int .i64 (y.Cu), .int .i64 (y.Cl), .int .i64 (y.Ti), .int .i64 (y.Se), .int .i64 (y.Ne), .int .i64 (y.Ma), .int .i64 (y.Sl), .int .i64 (y.m)])) w') := Lib.hid (fun b2 n w' h1 h2 => ⟨_, rfl, h1.lists, h2⟩)
  generalize LayDoes y ups w = G at *
  have hbw := World.block_lt_of_cell? w ⟨b, 0, none⟩ q0
  obtain ⟨V, W, C, P, S, a, n, cap, Cu, Cl, Ti, Se, Ne, Ma, Sl, m⟩ := y
  dsimp only at CO HY HG q0 q1 q2 q3 q4 q5
  clear hB hL hll hg hy hn
  go_enter Tryd.func20, Tryd.ntmps20
  go_wp2_with fail
  refine (CO.out _ ((Ext.refl w).alloc _)).mono ?_
  rintro e wo ⟨uo, rfl, Oo, Xo⟩
  obtain ⟨bo, fo, cuo, eo, -⟩ := id Oo
  rw [HY.out]
  subst eo
  have qr_0 : wo.cell? ⟨w.heap.size, 0, none⟩ = some (.int .i64 0) := Xo.cell (by simp [go_sem])
  have zr_0 : wo.frozen? ⟨w.heap.size, 0, none⟩ = false := Xo.frozen (v := .int .i64 0) (by simp [go_sem]) (by simp [go_sem])
  have qr_1 : wo.cell? ⟨w.heap.size, 1, none⟩ = some (.int .i64 0) := Xo.cell (by simp [go_sem])
  have zr_1 : wo.frozen? ⟨w.heap.size, 1, none⟩ = false := Xo.frozen (v := .int .i64 0) (by simp [go_sem]) (by simp [go_sem])
  have qr_2 : wo.cell? ⟨w.heap.size, 2, none⟩ = some (.int .i64 0) := Xo.cell (by simp [go_sem])
  have zr_2 : wo.frozen? ⟨w.heap.size, 2, none⟩ = false := Xo.frozen (v := .int .i64 0) (by simp [go_sem]) (by simp [go_sem])
  have qr_3 : wo.cell? ⟨w.heap.size, 3, none⟩ = some (.int .i64 0) := Xo.cell (by simp [go_sem])
  have zr_3 : wo.frozen? ⟨w.heap.size, 3, none⟩ = false := Xo.frozen (v := .int .i64 0) (by simp [go_sem]) (by simp [go_sem])
  have qr_4 : wo.cell? ⟨w.heap.size, 4, none⟩ = some (.int .u64 0) := Xo.cell (by simp [go_sem])
  have zr_4 : wo.frozen? ⟨w.heap.size, 4, none⟩ = false := Xo.frozen (v := .int .u64 0) (by simp [go_sem]) (by simp [go_sem])
  have qr_5 : wo.cell? ⟨w.heap.size, 5, none⟩ = some (.slice none 0 0) := Xo.cell (by simp [go_sem])
  have zr_5 : wo.frozen? ⟨w.heap.size, 5, none⟩ = false := Xo.frozen (v := .slice none 0 0) (by simp [go_sem]) (by simp [go_sem])
  have qr_6 : wo.cell? ⟨w.heap.size, 6, none⟩ = some (.int .i64 0) := Xo.cell (by simp [go_sem])
  have zr_6 : wo.frozen? ⟨w.heap.size, 6, none⟩ = false := Xo.frozen (v := .int .i64 0) (by simp [go_sem]) (by simp [go_sem])
  have qr_7 : wo.cell? ⟨w.heap.size, 7, none⟩ = some (.int .i64 0) := Xo.cell (by simp [go_sem])
  have zr_7 : wo.frozen? ⟨w.heap.size, 7, none⟩ = false := Xo.frozen (v := .int .i64 0) (by simp [go_sem]) (by simp [go_sem])
  have qr_8 : wo.cell? ⟨w.heap.size, 8, none⟩ = some (.int .i64 0) := Xo.cell (by simp [go_sem])
  have zr_8 : wo.frozen? ⟨w.heap.size, 8, none⟩ = false := Xo.frozen (v := .int .i64 0) (by simp [go_sem]) (by simp [go_sem])
  have qr_9 : wo.cell? ⟨w.heap.size, 9, none⟩ = some (.int .i64 0) := Xo.cell (by simp [go_sem])
  have zr_9 : wo.frozen? ⟨w.heap.size, 9, none⟩ = false := Xo.frozen (v := .int .i64 0) (by simp [go_sem]) (by simp [go_sem])
  have qr_10 : wo.cell? ⟨w.heap.size, 10, none⟩ = some (.int .i64 0) := Xo.cell (by simp [go_sem])
  have zr_10 : wo.frozen? ⟨w.heap.size, 10, none⟩ = false := Xo.frozen (v := .int .i64 0) (by simp [go_sem]) (by simp [go_sem])
  have qr_11 : wo.cell? ⟨w.heap.size, 11, none⟩ = some (.int .i64 0) := Xo.cell (by simp [go_sem])
  have zr_11 : wo.frozen? ⟨w.heap.size, 11, none⟩ = false := Xo.frozen (v := .int .i64 0) (by simp [go_sem]) (by simp [go_sem])
  have qr_12 : wo.cell? ⟨w.heap.size, 12, none⟩ = some (.int .i64 0) := Xo.cell (by simp [go_sem])
  have zr_12 : wo.frozen? ⟨w.heap.size, 12, none⟩ = false := Xo.frozen (v := .int .i64 0) (by simp [go_sem]) (by simp [go_sem])
  have qr_13 : wo.cell? ⟨w.heap.size, 13, none⟩ = some (.int .i64 0) := Xo.cell (by simp [go_sem])
  have zr_13 : wo.frozen? ⟨w.heap.size, 13, none⟩ = false := Xo.frozen (v := .int .i64 0) (by simp [go_sem]) (by simp [go_sem])
  have TR : Tag wo w.heap.size 31 := (Tag.new w _ _).ext Xo
  have xo : Ext w wo := Ext.trans ((Ext.refl w).alloc _) Xo
  have po := World.block_lt_of_cell? _ ⟨w.heap.size, 0, none⟩ qr_0
  have ro := Nat.lt_succ_of_lt po
  have HOo := Lib.hid Oo
  generalize hN : ups.length = N at *
  clear Xo Oo q0 q1 q2 q3 q4 q5
  go_upto_region 4 with (fail)
  refine settle_wp ?_
  intro w3 hb3
  have l_0 : w3.cell? ⟨wo.heap.size, 0, none⟩ = some (.int .i64 V) := hb3.cell (by simp [go_sem])
  have l_1 : w3.cell? ⟨wo.heap.size, 1, none⟩ = some (.int .i64 W) := hb3.cell (by simp [go_sem])
  have l_2 : w3.cell? ⟨wo.heap.size, 2, none⟩ = some (.int .i64 C) := hb3.cell (by simp [go_sem])
  have l_3 : w3.cell? ⟨wo.heap.size, 3, none⟩ = some (.int .i64 P) := hb3.cell (by simp [go_sem])
  have l_4 : w3.cell? ⟨wo.heap.size, 4, none⟩ = some (.int .u64 S) := hb3.cell (by simp [go_sem])
  have l_5 : w3.cell? ⟨wo.heap.size, 5, none⟩ = some (.slice (some ⟨bo, 0, none⟩) N N) := hb3.cell (by simp [go_sem])
  have l_6 : w3.cell? ⟨wo.heap.size, 6, none⟩ = some (.int .i64 Cu) := hb3.cell (by simp [go_sem])
  have l_7 : w3.cell? ⟨wo.heap.size, 7, none⟩ = some (.int .i64 Cl) := hb3.cell (by simp [go_sem])
  have l_8 : w3.cell? ⟨wo.heap.size, 8, none⟩ = some (.int .i64 Ti) := hb3.cell (by simp [go_sem])
  have l_9 : w3.cell? ⟨wo.heap.size, 9, none⟩ = some (.int .i64 Se) := hb3.cell (by simp [go_sem])
  have l_10 : w3.cell? ⟨wo.heap.size, 10, none⟩ = some (.int .i64 Ne) := hb3.cell (by simp [go_sem])
  have l_11 : w3.cell? ⟨wo.heap.size, 11, none⟩ = some (.int .i64 Ma) := hb3.cell (by simp [go_sem])
  have l_12 : w3.cell? ⟨wo.heap.size, 12, none⟩ = some (.int .i64 Sl) := hb3.cell (by simp [go_sem])
  have l_13 : w3.cell? ⟨wo.heap.size, 13, none⟩ = some (.int .i64 m) := hb3.cell (by simp [go_sem])
  have x3 := Ext.trans ((Ext.refl wo).alloc _) hb3
  have y_0 := x3.frozen qr_0 zr_0
  have r_0 := x3.cell qr_0
  have y_1 := x3.frozen qr_1 zr_1
  have r_1 := x3.cell qr_1
  have y_2 := x3.frozen qr_2 zr_2
  have r_2 := x3.cell qr_2
  have y_3 := x3.frozen qr_3 zr_3
  have r_3 := x3.cell qr_3
  have y_4 := x3.frozen qr_4 zr_4
  have r_4 := x3.cell qr_4
  have y_5 := x3.frozen qr_5 zr_5
  have r_5 := x3.cell qr_5
  have y_6 := x3.frozen qr_6 zr_6
  have r_6 := x3.cell qr_6
  have y_7 := x3.frozen qr_7 zr_7
  have r_7 := x3.cell qr_7
  have y_8 := x3.frozen qr_8 zr_8
  have r_8 := x3.cell qr_8
  have y_9 := x3.frozen qr_9 zr_9
  have r_9 := x3.cell qr_9
  have y_10 := x3.frozen qr_10 zr_10
  have r_10 := x3.cell qr_10
  have y_11 := x3.frozen qr_11 zr_11
  have r_11 := x3.cell qr_11
  have y_12 := x3.frozen qr_12 zr_12
  have r_12 := x3.cell qr_12
  have y_13 := x3.frozen qr_13 zr_13
  have r_13 := x3.cell qr_13
  have HT3 := Lib.hid (TR.ext x3)
  have HE3 := Lib.hid (xo.trans x3)
  have HO3 := Lib.hid (HOo.out.ext x3)
  clear hb3 x3 xo TR po ro qr_0 zr_0 qr_1 zr_1 qr_2 zr_2 qr_3 zr_3 qr_4 zr_4 qr_5 zr_5 qr_6 zr_6 qr_7 zr_7 qr_8 zr_8 qr_9 zr_9 qr_10 zr_10 qr_11 zr_11 qr_12 zr_12 qr_13 zr_13
  go_wp2
  refine bodyPost_ret (v := (.agg #[.int .i64 V, .int .i64 W, .int .i64 C, .int .i64 P, .int .u64 S, .slice (some ⟨bo, 0, none⟩) N N, .int .i64 Cu, .int .i64 Cl, .int .i64 Ti, .int .i64 Se, .int .i64 Ne, .int .i64 Ma, .int .i64 Sl, .int .i64 m])) (by simp [results, Tryd.results20, go_sem, r_0, r_1, r_2, r_3, r_4, r_5, r_6, r_7, r_8, r_9, r_10, r_11, r_12, r_13]) rfl (HG.out bo N _ ?own ?ext)
  case own => repeat (any_goals (first | with_reducible exact HO3.out | with_reducible exact HT3.out | with_reducible refine Tag.set ?_ | with_reducible refine OwnL.set (t := 31) ?_ ?_ (by decide) (by decide)))
  case ext =>
    have E3 := HE3.out
    repeat (first | with_reducible exact Ext.refl _ | with_reducible assumption | with_reducible refine Ext.alloc ?_ _ | with_reducible refine Ext.drew ?_ | with_reducible refine Ext.drewN ?_ _ | with_reducible refine Ext.setCell ?_ (by simp <;> omega) _ | with_reducible refine Ext.trans ?_ (by assumption))
end Go.Proofs.YtkmfamidahlgiaaDoor
/- A board that was made of a configuration that may be: what is known of its letters, and where its graph lies. -/
namespace Go.Proofs.YtkmfamidahlgiaaDoor
open Go.RowKit
set_option linter.unusedVariables false
set_option linter.unusedSimpArgs false
set_option maxHeartbeats 2000000
/-- its letters -/
structure BK (y : LY) (ups : List (List Int)) : Prop where
  eq : ∃ bo, y = yOf y.V y.W y.C y.P y.S bo y.n y.m
  n : y.n = ups.length
  m : (y.m : Int) = nCe y.V y.n y.C
  ll : ∀ l ∈ ups, l.length ≤ 1000000
  ck : ckC y.V y.W y.C y.P ups = 0
theorem BK.ok {y : LY} {ups : List (List Int)} (K : BK y ups) : Ok y.V y.W y.C y.P ups := ok_iff.1 K.ck
theorem BK.num {y : LY} {ups : List (List Int)} (K : BK y ups) : NumOk y.V y.n y.C := by
  rw [K.n]
  exact numOk K.ok
theorem BK.yok {y : LY} {ups : List (List Int)} (K : BK y ups) : YOk y := by
  obtain ⟨bo, e⟩ := K.eq
  have h := yOf_ok (W := y.W) (P := y.P) (S := y.S) (bo := bo) K.num K.m
  rwa [← e] at h
theorem BK.kd_at {y : LY} {ups : List (List Int)} (K : BK y ups) (c : Int) : kd y c = pKind (useN y.V y.n y.C c).1.toNat := by
  obtain ⟨bo, e⟩ := K.eq
  have h := yOf_kd (W := y.W) (P := y.P) (S := y.S) (bo := bo) K.m c
  rwa [← e] at h
theorem BK.fields {y : LY} {ups : List (List Int)} (K : BK y ups) : y.Cu = nCu y.V y.n ∧ y.Cl = nCl y.V y.n ∧ y.Ti = nTi y.V y.n ∧ y.Se = nSe y.V y.n ∧ y.Ne = nNe y.V y.n ∧ y.Ma = nMa y.V y.n ∧ y.Sl = nSl y.V y.n y.C := by
  obtain ⟨bo, e⟩ := K.eq
  exact ⟨congrArg LY.Cu e, congrArg LY.Cl e, congrArg LY.Ti e, congrArg LY.Se e, congrArg LY.Ne e, congrArg LY.Ma e, congrArg LY.Sl e⟩
theorem BK.lay {y : LY} {ups : List (List Int)} (K : BK y ups) (u : Value) : layV y.V y.W y.C y.P y.S u ups.length = (.agg #[.int .i64 (y.V), .int .i64 (y.W), .int .i64 (y.C), .int .i64 (y.P), .int .u64 (y.S), u, .int .i64 (y.Cu), .int .i64 (y.Cl), .int .i64 (y.Ti), .int .i64 (y.Se), .int .i64 (y.Ne), .int .i64 (y.Ma), .int .i64 (y.Sl), .int .i64 (y.m)]) := by
  obtain ⟨h1, h2, h3, h4, h5, h6, h7⟩ := K.fields
  unfold layV
  rw [← K.n, ← h1, ← h2, ← h3, ← h4, ← h5, ← h6, ← h7, ← K.m]
theorem bk_of {V W C P S : Int} {bo m : Nat} {ups : List (List Int)} (hll : ∀ l ∈ ups, l.length ≤ 1000000) (hm : (m : Int) = nCe V ups.length C) (hg : ckC V W C P ups = 0) : BK (yOf V W C P S bo ups.length m) ups :=
  ⟨⟨bo, rfl⟩, rfl, hm, hll, hg⟩
theorem BK.hn {y : LY} {ups : List (List Int)} (K : BK y ups) : ups.length ≤ 1000000 := by
  have := K.num.n6
  have := K.n
  omega
/-- a board beside its graph -/
structure BW (w : World) (bt b g : Nat) (y : LY) (f : Nat → Int) (lv : Value) (log : List Acc) (ups : List (List Int)) : Prop where
  B : BD w bt b g y f lv log
  O : OwnL w (.slice y.a y.n y.cap) ups
theorem BW.ext {w w' : World} {bt b g : Nat} {y : LY} {f : Nat → Int} {lv : Value} {log : List Acc} {ups : List (List Int)} (h : BW w bt b g y f lv log ups) (hx : Ext w w') : BW w' bt b g y f lv log ups := ⟨h.B.ext hx, h.O.ext hx⟩
theorem BW.but {S : Nat → Prop} {w w' : World} {bt b g : Nat} {y : LY} {f : Nat → Int} {lv : Value} {log : List Acc} {ups : List (List Int)} (h : BW w bt b g y f lv log ups) (hb : But S w w') (hs : ∀ k, Own b g lv k → ¬ S k) (ho : ∀ k, S k → k < w.heap.size → ∃ t, Tag w k t ∧ t ≠ 43 ∧ t ≠ 3) : BW w' bt b g y f lv log ups :=
  ⟨h.B.but hb hs, h.O.but hb (fun k hk hl => by
    obtain ⟨t, ⟨cur, ht⟩, h1, h2⟩ := ho k hk hl
    exact ⟨cur, t, _, ht, h1, h2⟩)⟩
theorem BWLayout32 (b g : Nat) (y : LY) (f : Nat → Int) (lv : Value) (log : List Acc) (ups : List (List Int)) (w : World) (K : BK y ups) (h : BW w 56 b g y f lv log ups) :
    Calls Tryd.prog 20 #[.pointer (some ⟨b, 0, none⟩)] w (LayDoes y ups w) :=
  Layout32 b g y f lv log ups w h.B h.O.lists K.ll K.hn K.ck K.lay
/-- a board's blocks are of no type that a graph is of -/
theorem own_tag32 {w : World} {b g : Nat} {y : LY} {f : Nat → Int} {lv : Value} {log : List Acc} (h : BD w 56 b g y f lv log) {k : Nat} (hk : Own b g lv k) : ∃ t, Tag w k t ∧ t ≠ 43 ∧ t ≠ 3 := by
  rcases hk with e | e | e
  · subst e; exact ⟨_, h.tb, by decide, by decide⟩
  · subst e; exact ⟨_, h.tg, by decide, by decide⟩
  · exact ⟨_, row_tagA h.row e, by decide, by decide⟩
/-- letters that are of a configuration -/
structure OfC (y : LY) (V W C P S : Int) (n : Nat) : Prop where
  v : y.V = V
  w : y.W = W
  c : y.C = C
  p : y.P = P
  s : y.S = S
  n : y.n = n
def OfBoard (V W C P S : Int) (ups : List (List Int)) (w : World) (e : Ending) (w' : World) : Prop :=
  ∃ y, BK y ups ∧ OfC y V W C P S ups.length ∧ e = .returned (.tuple #[(.agg #[.int .i64 (y.V), .int .i64 (y.W), .int .i64 (y.C), .int .i64 (y.P), .int .u64 (y.S), .slice y.a y.n y.cap, .int .i64 (y.Cu), .int .i64 (y.Cl), .int .i64 (y.Ti), .int .i64 (y.Se), .int .i64 (y.Ne), .int .i64 (y.Ma), .int .i64 (y.Sl), .int .i64 (y.m)]), .int .i64 0]) ∧ OwnL w' (.slice y.a y.n y.cap) ups ∧ Ext w w'
/-- the layout of a configuration that may be -/
theorem of_board (V W C P S : Int) (u : Value) (ups : List (List Int)) (w : World) (hL : ListsV w u ups) (hll : ∀ l ∈ ups, l.length ≤ 1000000) (hn : ups.length ≤ 1000000) (hg : ckC V W C P ups = 0) :
    Calls Tryd.prog 5 #[(.agg #[.int .i64 V, .int .i64 W, .int .i64 C, .int .i64 P, .int .u64 (S), u])] w (OfBoard V W C P S ups w) := by
  have ok := numOk (ok_iff.1 hg)
  have hbd := num_bounds ok
  refine (lOf_ok V W C P S u ups w hL hll hn hg).mono ?_
  rintro e w' ⟨u', rfl, O, X⟩
  obtain ⟨bo, fo, cuo, eo, -⟩ := id O
  obtain ⟨m, hm⟩ : ∃ m : Nat, (m : Int) = nCe V ups.length C := ⟨(nCe V ups.length C).toNat, by omega⟩
  subst eo
  have K := bk_of (W := W) (P := P) (S := S) (bo := bo) hll hm hg
  have hl := K.lay (.slice (some ⟨bo, 0, none⟩) ups.length ups.length)
  refine ⟨yOf V W C P S bo ups.length m, K, ⟨rfl, rfl, rfl, rfl, rfl, rfl⟩, ?_, O, X⟩
  exact congrArg (fun z => Ending.returned (.tuple #[z, .int .i64 0])) hl
def NewBoard (bt : Nat) (y0 : LY) (ups : List (List Int)) (w : World) (e : Ending) (w' : World) : Prop :=
  ∃ b g y, e = .returned (.pointer (some ⟨b, 0, none⟩)) ∧ BK y ups ∧ OfC y y0.V y0.W y0.C y0.P y0.S y0.n ∧ BW w' bt b g y (fsC y.V y.W y.C y.S y.n) (.slice none 0 0) [] ups ∧ Ext w w' ∧ w.heap.size ≤ b ∧ w.heap.size ≤ g
theorem new_board32 (y : LY) (ups : List (List Int)) (w : World) (K : BK y ups) (hw : y.W = 32) (hL : OwnL w (.slice y.a y.n y.cap) ups) (hS0 : 0 ≤ y.S) (hS1 : y.S < 18446744073709551616) :
    Calls Tryd.prog 6 #[(.agg #[.int .i64 (y.V), .int .i64 (y.W), .int .i64 (y.C), .int .i64 (y.P), .int .u64 (y.S), .slice y.a y.n y.cap, .int .i64 (y.Cu), .int .i64 (y.Cl), .int .i64 (y.Ti), .int .i64 (y.Se), .int .i64 (y.Ne), .int .i64 (y.Ma), .int .i64 (y.Sl), .int .i64 (y.m)])] w (NewBoard 56 y ups w) := by
  obtain ⟨V, W, C, P, S, a, n, cap, Cu, Cl, Ti, Se, Ne, Ma, Sl, m⟩ := y
  have hn := K.n
  have hm := K.m
  have hck := K.ck
  dsimp only at hw hn hm hck hL hS0 hS1 ⊢
  subst hw
  subst hn
  refine (New32 V C P S a cap ups Cu Cl Ti Se Ne Ma Sl m w hL.lists K.ll K.hn hck hS0 hS1 hm).mono ?_
  rintro e w' ⟨b, g, bo, rfl, B, O, X, hb, hg⟩
  exact ⟨b, g, yOf V 32 C P S bo ups.length m, rfl, bk_of K.ll hm hck, ⟨rfl, rfl, rfl, rfl, rfl, rfl⟩, ⟨B, O⟩, X, hb, hg⟩
theorem BK.w2 {y : LY} {ups : List (List Int)} (K : BK y ups) : y.W = 32 ∨ y.W = 64 := K.ok.wd
theorem BK.first {y : LY} {ups : List (List Int)} (K : BK y ups) (hS0 : 0 ≤ y.S) (hS1 : y.S < 18446744073709551616) (i : Nat) : 0 ≤ fsC y.V y.W y.C y.S y.n i ∧ fsC y.V y.W y.C y.S y.n i < 18446744073709551616 :=
  fst_rng K.w2 K.ok.rc hS0 hS1 _ _
end Go.Proofs.YtkmfamidahlgiaaDoor

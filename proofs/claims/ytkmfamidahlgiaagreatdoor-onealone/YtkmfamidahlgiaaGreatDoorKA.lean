import Derived.Test.YtkmfamidahlgiaaGreatDoorBd4
import Derived.Test.YtkmfamidahlgiaaGreatDoorPair
import Derived.Test.YtkmfamidahlgiaaGreatDoorCf6
import Derived.Test.YtkmfamidahlgiaaGreatDoorRef01
import Derived.Test.YtkmfamidahlgiaaGreatDoorRows
import Derived.Test.YtkmfamidahlgiaaGreatDoorExt
import Derived.WalkKit
import Derived.ProofKit
import Derived.Lib.ItoaNum
import Derived.Laws.Bits64
import Derived.Laws.IdiomStrings
import Derived.Test.YtkmfamidahlgiaaGreatDoorLyK
import Derived.Test.YtkmfamidahlgiaaGreatDoorRef02
import Derived.Lib.SlicesS
/- A board's log and costs; the law's live. -/
namespace Go.Proofs.YtkmfamidahlgiaaGreatDoor
open Go.RowKit
set_option linter.unusedVariables false
set_option linter.unusedSimpArgs false
set_option maxHeartbeats 2000000
attribute [local go_sem] later_cell later_frozen later_const
def isLk (k : Int) : Bool := k == 1 || k == 5 || k == 6
def nL (t : Int) (l : List Acc) : Nat := (l.filter fun x => decide (x.t = t) && isLk x.k).length
def nC (t : Int) (l : List Acc) : Nat := (l.filter fun x => decide (x.t = t) && !isLk x.k).length
theorem nL_le (t : Int) (l : List Acc) : nL t l ≤ l.length := List.length_filter_le _ _
theorem nC_le (t : Int) (l : List Acc) : nC t l ≤ l.length := List.length_filter_le _ _
theorem take_snoc {l : List Acc} {k : Nat} (h : k < l.length) : l.take (k + 1) = l.take k ++ [l[k]] := List.take_succ_eq_append_getElem h
theorem nL_snoc (t : Int) (l : List Acc) (x : Acc) : nL t (l ++ [x]) = nL t l + (if (decide (x.t = t) && isLk x.k) = true then 1 else 0) := by
  unfold nL
  rw [List.filter_append, List.length_append]
  cases h : (decide (x.t = t) && isLk x.k) <;> simp [List.filter_cons, h]
theorem nC_snoc (t : Int) (l : List Acc) (x : Acc) : nC t (l ++ [x]) = nC t l + (if (decide (x.t = t) && !isLk x.k) = true then 1 else 0) := by
  unfold nC
  rw [List.filter_append, List.length_append]
  cases h : (decide (x.t = t) && !isLk x.k) <;> simp [List.filter_cons, h]
/-- how a log lies -/
theorem rowA_form {w : World} {base : Nat} {v : Value} {l : List Acc} (h : w.ownsRow base 173 5 v l.length (rowA l)) : ∃ a cap, v = .slice a l.length cap ∧ (∀ i, i < l.length → ∃ g, a = some ⟨g, 0, none⟩ ∧ ∀ j u, (rowA l)[j]? = some u → w.cell? ⟨g, j, none⟩ = some u) := by
  rcases h.2 with ⟨h1, h2⟩ | ⟨g, cap, cur, h1, h2, h3, h4, h5, h6, h7⟩
  · exact ⟨none, 0, by rw [h1, h2], fun i hi => by omega⟩
  · refine ⟨some ⟨g, 0, none⟩, cap, h1, fun i hi => ⟨g, rfl, fun j u hu => ?_⟩⟩
    have hv : cur[j]? = some u := by
      rw [← h7] at hu
      rw [← Array.getElem?_toList]
      rw [List.getElem?_take] at hu
      split at hu
      · exact hu
      · cases hu
    simp [World.cell?, h3, hv]
theorem rowA_cell {w : World} {base : Nat} {a : Option Addr} {cap : Nat} {l : List Acc} (h : w.ownsRow base 173 5 (.slice a l.length cap) l.length (rowA l)) {i : Nat} (hi : i < l.length) : ∃ g, a = some ⟨g, 0, none⟩ ∧ w.cell? ⟨g, i * 5, none⟩ = some (.int .i64 l[i].t) ∧ w.cell? ⟨g, i * 5 + 1, none⟩ = some (.int .i64 l[i].k) ∧ w.cell? ⟨g, i * 5 + 2, none⟩ = some (.int .i64 l[i].c) ∧ w.cell? ⟨g, i * 5 + 3, none⟩ = some (.int .u64 l[i].o) ∧ w.cell? ⟨g, i * 5 + 4, none⟩ = some (.int .u64 l[i].n) := by
  obtain ⟨a', cap', e, hf⟩ := rowA_form h
  cases e
  obtain ⟨g, e, hc⟩ := hf i hi
  exact ⟨g, e, hc _ _ (rowA_at l i 0 hi (by omega)), hc _ _ (rowA_at l i 1 hi (by omega)), hc _ _ (rowA_at l i 2 hi (by omega)), hc _ _ (rowA_at l i 3 hi (by omega)), hc _ _ (rowA_at l i 4 hi (by omega))⟩
end Go.Proofs.YtkmfamidahlgiaaGreatDoor
/- The law's live; Log and Len. -/
namespace Go.Proofs.YtkmfamidahlgiaaGreatDoor
open Go.RowKit
set_option linter.unusedVariables false
set_option linter.unusedSimpArgs false
set_option maxHeartbeats 2000000
attribute [local go_sem] later_cell later_frozen later_const
theorem notOwn {b g k : Nat} (h1 : k ≠ b) (h2 : k ≠ g) : ¬ Own b g (.slice none 0 0) k := fun h => by
  rcases h with h | h | h
  · exact h1 h
  · exact h2 h
  · cases h
theorem ownGe {b g n : Nat} (h1 : n ≤ b) (h2 : n ≤ g) : ∀ k, Own b g (.slice none 0 0) k → n ≤ k := fun k h => by
  rcases h with h | h | h
  · omega
  · omega
  · cases h
theorem ckV : ckC 2 32 4 1 [[]] = 0 := by decide +kernel
theorem layV12 (u : Value) : layV 2 32 4 1 4294967295 u 1 = (.agg #[.int .i64 2, .int .i64 32, .int .i64 4, .int .i64 1, .int .u64 4294967295, u, .int .i64 (-1), .int .i64 1, .int .i64 (-1), .int .i64 (-1), .int .i64 (-1), .int .i64 2, .int .i64 6, .int .i64 10]) := by simp [layV, nCu, nCl, nTi, nSe, nNe, nMa, nSl, nCe]
theorem use12 : useN 2 1 4 1 = (3, 0) := by decide
def GivesA (w : World) (l : List Acc) (e : Ending) (w' : World) : Prop := ∃ v, e = .returned v ∧ w'.ownsRow w.heap.size 173 5 v l.length (rowA l) ∧ Ext w w'
theorem aClone (base : Nat) (v : Value) (l : List Acc) (w : World) (h : w.ownsRow base 173 5 v l.length (rowA l)) (hl : l.length ≤ 1000) : Calls Tryz.prog 115 #[v] w (GivesA w l) := by
  obtain ⟨a, cap, rfl, hf⟩ := rowA_form h
  cases a with
  | none =>
    have h0 : l = [] := by
      cases l with
      | nil => rfl
      | cons z l => obtain ⟨g, e, _⟩ := hf 0 (by simp); cases e
    subst h0
    have heq := fun W => Lib.run_eql_slice_nil (P := Tryz.prog) W 53 173 none 0 cap 0 0 Tryz.underlying53
    have HG : Hid (GivesA w [] (.returned (.slice none 0 0)) w) := Lib.hid ⟨_, rfl, World.ownsRow_nil _ _ _ _, Ext.refl _⟩
    generalize GivesA w [] = G at *
    clear hf h
    show Calls Tryz.prog 115 #[.slice none 0 cap] w G
    go_enter Tryz.func115, Tryz.ntmps115
    go_wp2
    exact HG.out
  | some p =>
    obtain ⟨i0, hi, hz0, hz1, hz2⟩ := info_parts info_acc
    have hnews : ∀ j u, (rowA l)[j]? = some u → w.cell? (p.add j) = some u := by
      intro j u hu
      have hll : 0 < l.length := by
        rcases Nat.eq_zero_or_pos l.length with h0 | h0
        · have : l = [] := List.length_eq_zero_iff.1 h0
          subst this
          simp [rowA] at hu
        · exact h0
      obtain ⟨g, e, hc⟩ := hf 0 hll
      cases e
      have := hc j u hu
      by_cases hj0 : j = 0
      · subst hj0; simpa [Addr.add] using this
      · simpa [Addr.add, hj0] using this
    have HN := Lib.hid hnews
    have HL : Hid ((rowA l).length = l.length * 5) := Lib.hid (rowA_len l)
    have HM := Lib.hid (rowA_one l)
    have HG : Hid (∀ v' w', w'.ownsRow w.heap.size 173 5 v' l.length (rowA l) → Ext w w' → GivesA w l (.returned v') w') := Lib.hid (fun v' w' h1 h2 => ⟨v', rfl, h1, h2⟩)
    generalize hgr : GivesA w l = G at *
    generalize rowA l = ns at *
    generalize l.length = n at *
    clear h hnews hf hgr
    have heq := fun W => Lib.run_eql_slice_nil (P := Tryz.prog) W 53 173 (some p) n cap 0 0 Tryz.underlying53
    go_enter Tryz.func115, Tryz.ntmps115
    go_wp2_with (at_builtin; refine wpList_append_own _ rfl _ _ 53 rfl w.heap.size 173 i0 (.agg #[.int .i64 0, .int .i64 0, .int .i64 0, .int .u64 0, .int .u64 0]) 5 40 Tryz.underlying53 hi hz0 hz1 hz2 rfl (by decide) _ 0 [] rfl (World.ownsRow_made w #[] 0 (Nat.le_refl _) (by unfold maxLen; omega) rfl) p n cap ns rfl HL.out ?c1 HM.out ?c3 ?c4 ?c5 ?_)
    case c1 => intro j u hu; exact Lib.cell?_alloc_some _ (HN.out j u hu)
    case c3 => unfold maxLen; omega
    case c4 => omega
    case c5 => simp
    intro v' w' h1 h2 _
    have X := (((Ext.refl w).alloc (.cells #[] 173))).grown h2 (fun j h => by simp [Value.ownBlock] at h; omega)
    have h1' : w'.ownsRow w.heap.size 173 5 v' n ns := by simpa using h1
    have HG2 := Lib.hid (HG.out v' w' h1' X)
    clear h1 h1' h2 X
    go_wp2
    exact HG2.out
theorem Log32 (b g : Nat) (y : LY) (f : Nat → Int) (lv : Value) (log : List Acc) (w : World) (hB : BD w 121 b g y f lv log) (hl : log.length ≤ 1000) :
    Calls Tryz.prog 61 #[.pointer (some ⟨b, 0, none⟩)] w (GivesA w log) := by
  have C := Lib.hid (aClone 0 lv log w hB.row hl)
  have q15 := hB.q15
  clear hB
  go_enter Tryz.func61, Tryz.ntmps61
  go_wp2_with fail
  refine C.out.mono ?_
  rintro e w1 ⟨v, rfl, R1, X1⟩
  have HR : Hid (GivesA w log (.returned v) w1) := Lib.hid ⟨v, rfl, R1, X1⟩
  clear R1 X1
  go_wp2
  go_ret
  exact HR.out
theorem Log64 (b g : Nat) (y : LY) (f : Nat → Int) (lv : Value) (log : List Acc) (w : World) (hB : BD w 152 b g y f lv log) (hl : log.length ≤ 1000) :
    Calls Tryz.prog 66 #[.pointer (some ⟨b, 0, none⟩)] w (GivesA w log) := by
  have C := Lib.hid (aClone 0 lv log w hB.row hl)
  have q15 := hB.q15
  clear hB
  go_enter Tryz.func66, Tryz.ntmps66
  go_wp2_with fail
  refine C.out.mono ?_
  rintro e w1 ⟨v, rfl, R1, X1⟩
  have HR : Hid (GivesA w log (.returned v) w1) := Lib.hid ⟨v, rfl, R1, X1⟩
  clear R1 X1
  go_wp2
  go_ret
  exact HR.out
end Go.Proofs.YtkmfamidahlgiaaGreatDoor
/- What an access comes to, by the laws' small and great. -/
namespace Go.Proofs.YtkmfamidahlgiaaGreatDoor
open Go.RowKit
set_option linter.unusedVariables false
set_option linter.unusedSimpArgs false
set_option maxHeartbeats 2000000
attribute [local go_sem] later_cell later_frozen later_const
/-- an access that is asked for -/
structure DoR where
  t : Int
  k : Int
  c : Int
  n : Int
  o : Int
  z : Int
/-- how a board stands: cells, accesses; what was told -/
structure ST where
  f : Nat → Int
  l : List Acc
  v : Int
  b : Bool
def plusW (W x n : Int) : Int := if W = 32 then (x + n) % 4294967296 else U64 (x + n)
def lookS (y : LY) (W : Int) (kind ak : Int) (d : DoR) (f : Nat → Int) (l : List Acc) : ST :=
  if kd y d.c = kind then ⟨f, l ++ [⟨d.t, ak, d.c, f d.c.toNat, f d.c.toNat⟩], cutS W (f d.c.toNat), false⟩ else ⟨f, l, 0, false⟩
def putS (y : LY) (W : Int) (kind ak : Int) (d : DoR) (f : Nat → Int) (l : List Acc) : ST :=
  if kd y d.c = kind then ⟨upd f d.c.toNat (cutS W d.z), l ++ [⟨d.t, ak, d.c, f d.c.toNat, cutS W d.z⟩], 0, false⟩ else ⟨f, l, 0, false⟩
def addS (y : LY) (W : Int) (d : DoR) (f : Nat → Int) (l : List Acc) : ST :=
  if kd y d.c = 1 then ⟨upd f d.c.toNat (plusW W (cutS W (f d.c.toNat)) d.n), l ++ [⟨d.t, 3, d.c, f d.c.toNat, plusW W (cutS W (f d.c.toNat)) d.n⟩], cutS W (f d.c.toNat), false⟩ else ⟨f, l, 0, false⟩
def swapS (y : LY) (W : Int) (d : DoR) (f : Nat → Int) (l : List Acc) : ST :=
  if kd y d.c = 1 then (if cutS W (f d.c.toNat) = cutS W d.o then ⟨upd f d.c.toNat (cutS W d.z), l ++ [⟨d.t, 4, d.c, f d.c.toNat, cutS W d.z⟩], 0, true⟩ else ⟨f, l ++ [⟨d.t, 5, d.c, f d.c.toNat, f d.c.toNat⟩], 0, false⟩) else ⟨f, l, 0, false⟩
def getS (y : LY) (d : DoR) (f : Nat → Int) (l : List Acc) : ST :=
  if kd y (plc y.Sl y.C d.c) = 3 then ⟨f, l ++ [⟨d.t, 6, plc y.Sl y.C d.c, f (plc y.Sl y.C d.c).toNat, f (plc y.Sl y.C d.c).toNat⟩], f (plc y.Sl y.C d.c).toNat, false⟩ else ⟨f, l, 0, false⟩
def setS (y : LY) (d : DoR) (f : Nat → Int) (l : List Acc) : ST :=
  if kd y (plc y.Sl y.C d.c) = 3 then ⟨upd f (plc y.Sl y.C d.c).toNat (U64 d.n), l ++ [⟨d.t, 7, plc y.Sl y.C d.c, f (plc y.Sl y.C d.c).toNat, U64 d.n⟩], 0, false⟩ else ⟨f, l, 0, false⟩
def stp (y : LY) (W : Int) (d : DoR) (f : Nat → Int) (l : List Acc) : ST :=
  if d.k = 1 then lookS y W 1 1 d f l else if d.k = 2 then putS y W 1 2 d f l else if d.k = 3 then addS y W d f l else if d.k = 4 then swapS y W d f l
  else if d.k = 6 then lookS y W 2 6 d f l else if d.k = 7 then putS y W 2 7 d f l else if d.k = 8 then getS y d f l else if d.k = 9 then setS y d f l else ⟨f, l, 0, false⟩
theorem plusW64 (x n : Int) : plusW 64 x n = U64 (x + n) := rfl
theorem cut32 (x : Int) : cutS 32 x = x % 4294967296 := rfl
theorem cut64 (x : Int) : cutS 64 x = x := rfl
theorem wrap_back {x : Int} (h0 : 0 ≤ x) (h1 : x < 18446744073709551616) : IntKind.u64.wrap (wrap64 x) = x := by rw [IntKind.wrap_u64]; unfold wrap64; omega
end Go.Proofs.YtkmfamidahlgiaaGreatDoor
/- The document's board. -/
namespace Go.Proofs.YtkmfamidahlgiaaGreatDoor
open Go.RowKit
set_option linter.unusedVariables false
set_option linter.unusedSimpArgs false
set_option maxHeartbeats 2000000
attribute [local go_sem] later_cell later_frozen later_const
/-- its letters: the configuration, where cells and numbers lie, how many there are, their kinds -/
structure RY where
  V : Int
  W : Int
  C : Int
  P : Int
  S : Int
  a : Option Addr
  n : Nat
  cap : Nat
  gc : Nat
  cc : Nat
  gh : Nat
  ch : Nat
  m : Nat
  kf : Nat → Int
structure RB (w : World) (b : Nat) (y : RY) (f : Nat → Int) (lv : Value) (log : List Acc) : Prop where
  q0 : w.cell? ⟨b, 0, none⟩ = some (.int .i64 y.V)
  q1 : w.cell? ⟨b, 1, none⟩ = some (.int .i64 y.W)
  q2 : w.cell? ⟨b, 2, none⟩ = some (.int .i64 y.C)
  q3 : w.cell? ⟨b, 3, none⟩ = some (.int .i64 y.P)
  q4 : w.cell? ⟨b, 4, none⟩ = some (.int .u64 y.S)
  q5 : w.cell? ⟨b, 5, none⟩ = some (.slice y.a y.n y.cap)
  q6 : w.cell? ⟨b, 6, none⟩ = some (.slice (some ⟨y.gc, 0, none⟩) y.m y.cc)
  q7 : w.cell? ⟨b, 7, none⟩ = some (.slice (some ⟨y.gh, 0, none⟩) y.m y.ch)
  q8 : w.cell? ⟨b, 8, none⟩ = some lv
  z8 : w.frozen? ⟨b, 8, none⟩ = false
  kc : ∀ c, c < y.m → w.cell? ⟨y.gc, c * 3 + 1, none⟩ = some (.int .i64 (y.kf c))
  tb : Tag w b 55
  tc : Tag w y.gc 124
  th : Tag w y.gh 22
  va : VA y.m w y.gh (fun i => .int .u64 (f i))
  row : w.ownsRow 0 173 5 lv log.length (rowA log)
theorem RB.but {S : Nat → Prop} {w w' : World} {b : Nat} {y : RY} {f : Nat → Int} {lv : Value} {log : List Acc} (h : RB w b y f lv log) (hb : But S w w') (hs : ∀ k, Own b y.gh lv k → ¬ S k) (hc : ¬ S y.gc) : RB w' b y f lv log :=
  have sb := hs b (.inl rfl)
  have sg := hs y.gh (.inr (.inl rfl))
  ⟨hb.cell h.q0 sb, hb.cell h.q1 sb, hb.cell h.q2 sb, hb.cell h.q3 sb, hb.cell h.q4 sb, hb.cell h.q5 sb, hb.cell h.q6 sb, hb.cell h.q7 sb, hb.cell h.q8 sb, hb.frozen h.q8 h.z8 sb, fun c hc' => hb.cell (h.kc c hc') hc, h.tb.but hb sb, h.tc.but hb hc, h.th.but hb sg, h.va.but hb sg, hb.row h.row (fun k hk => hs k (.inr (.inr hk)))⟩
theorem RB.ext {w w' : World} {b : Nat} {y : RY} {f : Nat → Int} {lv : Value} {log : List Acc} (h : RB w b y f lv log) (hx : Ext w w') : RB w' b y f lv log := h.but (hx.but (fun _ => False)) (fun _ _ h => h) id
theorem tag_lt {w : World} {b t : Nat} (h : Tag w b t) : b < w.heap.size := by
  obtain ⟨cur, h2⟩ := h
  exact (Array.getElem?_eq_some_iff.1 h2).1
theorem RB.lt {w : World} {b : Nat} {y : RY} {f : Nat → Int} {lv : Value} {log : List Acc} (h : RB w b y f lv log) {k : Nat} (hk : Own b y.gh lv k) : k < w.heap.size := by
  rcases hk with rfl | rfl | hk
  · exact tag_lt h.tb
  · exact tag_lt h.th
  · exact (h.row.lt k hk).2
def RDoes (b : Nat) (y : RY) (lv : Value) (v : Value) (f' : Nat → Int) (log' : List Acc) (w : World) (e : Ending) (w' : World) : Prop :=
  e = .returned v ∧ ∃ lv', RB w' b y f' lv' log' ∧ But (Own b y.gh lv) w w' ∧ (lv'.ownBlock = lv.ownBlock ∨ ∃ j, lv'.ownBlock = some j ∧ w.heap.size ≤ j)
theorem rdoes_same {b : Nat} {y : RY} {f : Nat → Int} {lv : Value} {log : List Acc} {v : Value} {w w' : World} (h : RB w b y f lv log) (hx : Ext w w') : RDoes b y lv v f log w (.returned v) w' :=
  ⟨rfl, lv, h.ext hx, hx.but _, .inl rfl⟩
theorem rdoes_wrap {b : Nat} {y : RY} {f' : Nat → Int} {lv lv' : Value} {log' : List Acc} {v : Value} {w w1 w2 w3 : World} (h1 : Ext w w1) (hB : RB w2 b y f' lv' log') (hb : But (Own b y.gh lv) w1 w2) (hat : lv'.ownBlock = lv.ownBlock ∨ ∃ j, lv'.ownBlock = some j ∧ w1.heap.size ≤ j) (h3 : Ext w2 w3) : RDoes b y lv v f' log' w (.returned v) w3 :=
  ⟨rfl, lv', hB.ext h3, ((h1.but _).trans hb).trans (h3.but _), hat.imp id (fun ⟨j, e, hj⟩ => ⟨j, e, Nat.le_trans h1.size hj⟩)⟩
theorem touchedR {b : Nat} {y : RY} {f : Nat → Int} {lv lv' : Value} {log : List Acc} {x : Acc} {c : Nat} {z : Int} {w w1 w2 : World} (h : RB w b y f lv log) (hx : Ext w w1) (hr : w2.ownsRow 0 173 5 lv' (log.length + 1) (rowA log ++ acV x)) (hg : w1.grownBy w2 lv.ownBlock) (hat : lv'.ownBlock = lv.ownBlock ∨ lv'.ownBlock = some w1.heap.size) (hc : c < y.m) :
    RB ((w2.setCell ⟨b, 8, none⟩ lv').setCell ⟨y.gh, c, none⟩ (.int .u64 z)) b y (upd f c z) lv' (log ++ [x]) ∧ But (Own b y.gh lv) w ((w2.setCell ⟨b, 8, none⟩ lv').setCell ⟨y.gh, c, none⟩ (.int .u64 z)) ∧ (lv'.ownBlock = lv.ownBlock ∨ ∃ j, lv'.ownBlock = some j ∧ w.heap.size ≤ j) := by
  have h1 := h.ext hx
  have B2 := but_grown hg
  have nbg : b ≠ y.gh := tag_ne h1.tb h1.th (by decide)
  have nbc : b ≠ y.gc := tag_ne h1.tb h1.tc (by decide)
  have nhc : y.gh ≠ y.gc := tag_ne h1.th h1.tc (by decide)
  have sb : ¬ (lv.ownBlock = some b) := fun e => tag_ne h1.tb (row_tagA h1.row e) (by decide) rfl
  have sg : ¬ (lv.ownBlock = some y.gh) := fun e => tag_ne h1.th (row_tagA h1.row e) (by decide) rfl
  have sc : ¬ (lv.ownBlock = some y.gc) := fun e => tag_ne h1.tc (row_tagA h1.row e) (by decide) rfl
  have lb : b < w1.heap.size := tag_lt h1.tb
  have lg : y.gh < w1.heap.size := tag_lt h1.th
  have nb' : ¬ (lv'.ownBlock = some b) := fun e => by
    rcases hat with e' | e'
    · rw [e] at e'; exact sb e'.symm
    · rw [e] at e'; have := Option.some.inj e'; omega
  have ng' : ¬ (lv'.ownBlock = some y.gh) := fun e => by
    rcases hat with e' | e'
    · rw [e] at e'; exact sg e'.symm
    · rw [e] at e'; have := Option.some.inj e'; omega
  have q8 := B2.cell h1.q8 sb
  have va2 := h1.va.but B2 sg
  have z8 := B2.frozen h1.q8 h1.z8 sb
  have C3 := but_setCell w2 ⟨b, 8, none⟩ lv'
  have C4 := but_setCell (w2.setCell ⟨b, 8, none⟩ lv') ⟨y.gh, c, none⟩ (.int .u64 z)
  have far : ∀ {j : Nat} {u : Value}, j ≠ 8 → w1.cell? ⟨b, j, none⟩ = some u → ((w2.setCell ⟨b, 8, none⟩ lv').setCell ⟨y.gh, c, none⟩ (.int .u64 z)).cell? ⟨b, j, none⟩ = some u := by
    intro j u hj hq
    refine C4.cell ?_ (by simpa using nbg)
    rw [World.cell?_setCell_other _ _ _ _ (fun e => hj (by cases e; rfl))]
    exact B2.cell hq sb
  refine ⟨⟨far (by decide) h1.q0, far (by decide) h1.q1, far (by decide) h1.q2, far (by decide) h1.q3, far (by decide) h1.q4, far (by decide) h1.q5, far (by decide) h1.q6, far (by decide) h1.q7, ?_, ?_, ?_, (h1.tb.but B2 sb).set.set, (h1.tc.but B2 sc).set.set, (h1.th.but B2 sg).set.set, ?_, ?_⟩, ?_, ?_⟩
  · exact C4.cell (World.cell?_setCell_same _ _ _ q8) (by simpa using nbg)
  · rw [World.frozen?_setCell, World.frozen?_setCell]
    exact z8
  · intro c' hc'
    exact C4.cell (C3.cell (B2.cell (h1.kc c' hc') sc) (by simpa using Ne.symm nbc)) (by simpa using Ne.symm nhc)
  · have v3 := va2.but C3 (by simpa using Ne.symm nbg)
    have v4 := va_set v3 (.int .u64 z) hc
    refine ⟨fun i hi => ?_, fun i hi => v4.z i hi⟩
    rw [v4.c i hi]
    unfold upd
    by_cases e : i = c
    · simp [e]
    · simp [e]
  · have r3 := C3.row hr (fun k hk e => nb' (by rw [hk]; simp at e; rw [e]))
    have r4 := C4.row r3 (fun k hk e => ng' (by rw [hk]; simp at e; rw [e]))
    rw [List.length_append, rowA_app]
    simpa [rowA] using r4
  · refine ⟨C4.os.trans (C3.os.trans (B2.os.trans hx.os)), C4.tape.trans (C3.tape.trans (B2.tape.trans hx.tape)), C4.output.trans (C3.output.trans (B2.output.trans hx.output)), Nat.le_trans hx.size (Nat.le_trans B2.size (Nat.le_trans C3.size C4.size)), ?_⟩
    intro k hk hs
    have hk1 : k < w1.heap.size := Nat.lt_of_lt_of_le hk hx.size
    have n1 : k ≠ b := fun e => hs (.inl e)
    have n2 : k ≠ y.gh := fun e => hs (.inr (.inl e))
    have n3 : ¬ lv.ownBlock = some k := fun e => hs (.inr (.inr e))
    rw [C4.block k (Nat.lt_of_lt_of_le hk1 (Nat.le_trans B2.size C3.size)) (by simpa using n2), C3.block k (Nat.lt_of_lt_of_le hk1 B2.size) (by simpa using n1), B2.block k hk1 n3, hx.block k hk]
  · rcases hat with e | e
    · exact .inl e
    · exact .inr ⟨_, e, hx.size⟩
/-- is a cell of a kind -/
def isK (y : RY) (c kind : Int) : Bool := decide (0 ≤ c) && decide (c < y.m) && (y.kf c.toNat == kind)
set_option maxRecDepth 100000 in
theorem rIs (b : Nat) (y : RY) (f : Nat → Int) (lv : Value) (log : List Acc) (c kind : Int) (w : World) (h : RB w b y f lv log) :
    Calls Tryz.prog 112 #[.pointer (some ⟨b, 0, none⟩), .int .i64 c, .int .i64 kind] w fun e w' => e = .returned (.bool (isK y c kind)) ∧ w = w' := by
  have q6 := h.q6
  have HK := Lib.hid h.kc
  clear h
  unfold isK
  by_cases h0 : c < 0
  · have d0 : decide (0 ≤ c) = false := by simp; omega
    rw [d0]
    clear h0
    go_enter Tryz.func112, Tryz.ntmps112
    go_wp2
    go_ret
    exact ⟨rfl, rfl⟩
  have d0 : decide (0 ≤ c) = true := by simp; omega
  by_cases h1 : c < y.m
  · obtain ⟨k, rfl⟩ : ∃ k : Nat, c = k := ⟨c.toNat, by omega⟩
    have d1 : decide ((k : Int) < (y.m : Int)) = true := by simpa using h1
    have kc := HK.out k (by omega)
    have hkm : (k : Int) < (y.m : Int) := h1
    rw [d0, d1, show ((k : Nat) : Int).toNat = k by omega]
    clear h0 HK
    generalize y.kf k = kk at *
    go_enter Tryz.func112, Tryz.ntmps112
    go_wp2
    go_ret
    exact ⟨ret_bool (by simp), rfl⟩
  · have d1 : decide (c < (y.m : Int)) = false := by simpa using h1
    rw [d0, d1]
    clear h0 h1 HK
    go_enter Tryz.func112, Tryz.ntmps112
    go_wp2
    go_ret
    exact ⟨ret_bool (by simp), rfl⟩
set_option maxRecDepth 100000 in
theorem rDo (b : Nat) (y : RY) (f : Nat → Int) (lv : Value) (log : List Acc) (t k : Int) (c : Nat) (z : Int) (w : World) (h : RB w b y f lv log) (hc : c < y.m) (hl : log.length ≤ 1000) :
    Calls Tryz.prog 113 #[.pointer (some ⟨b, 0, none⟩), .int .i64 t, .int .i64 k, .int .i64 c, .int .u64 z] w (RDoes b y lv (.int .u64 (f c)) (upd f c z) (log ++ [⟨t, k, c, f c, z⟩]) w) := by
  have q7 := h.q7
  have q8 := h.q8
  have qc := h.va.c c hc
  have hcm : (c : Int) < (y.m : Int) := by omega
  have HB := Lib.hid h
  have HG : Hid (∀ w1 w2 lv', Ext w w1 → w2.ownsRow 0 173 5 lv' (log.length + 1) (rowA log ++ acV ⟨t, k, c, f c, z⟩) → w1.grownBy w2 lv.ownBlock → (lv'.ownBlock = lv.ownBlock ∨ lv'.ownBlock = some w1.heap.size) → RDoes b y lv (.int .u64 (f c)) (upd f c z) (log ++ [⟨t, k, c, f c, z⟩]) w (.returned (.int .u64 (f c))) ((w2.setCell ⟨b, 8, none⟩ lv').setCell ⟨y.gh, c, none⟩ (.int .u64 z))) := Lib.hid (fun w1 w2 lv' e1 e2 e3 e4 => by
    obtain ⟨t1, t2, t3⟩ := touchedR h e1 e2 e3 e4 hc (z := z)
    exact ⟨rfl, lv', t1, t2, t3⟩)
  have HF : Hid (∀ w1 w2, Ext w w1 → w1.grownBy w2 lv.ownBlock → w2.cell? ⟨b, 7, none⟩ = some (.slice (some ⟨y.gh, 0, none⟩) y.m y.ch) ∧ w2.cell? ⟨b, 8, none⟩ = some lv ∧ w2.frozen? ⟨b, 8, none⟩ = false ∧ w2.cell? ⟨y.gh, c, none⟩ = some (.int .u64 (f c)) ∧ w2.frozen? ⟨y.gh, c, none⟩ = false ∧ b ≠ y.gh) := Lib.hid (fun w1 w2 hx hg => by
    have h1 := h.ext hx
    have B2 := but_grown hg
    have sb : ¬ (lv.ownBlock = some b) := fun e => tag_ne h1.tb (row_tagA h1.row e) (by decide) rfl
    have sg : ¬ (lv.ownBlock = some y.gh) := fun e => tag_ne h1.th (row_tagA h1.row e) (by decide) rfl
    exact ⟨B2.cell h1.q7 sb, B2.cell h1.q8 sb, B2.frozen h1.q8 h1.z8 sb, B2.cell (h1.va.c c hc) sg, B2.frozen (h1.va.c c hc) (h1.va.z c hc) sg, tag_ne h1.tb h1.th (by decide)⟩)
  generalize RDoes b y lv (.int .u64 (f c)) (upd f c z) (log ++ [⟨t, k, c, f c, z⟩]) w = G at *
  generalize f c = o at *
  obtain ⟨i0, hi, hz0, hz1, hz2⟩ := info_parts info_acc
  clear h
  go_enter Tryz.func113, Tryz.ntmps113
  go_wp2_with (at_builtin; refine wpList_append_own_at _ rfl _ _ 53 rfl 0 173 i0 (.agg #[.int .i64 0, .int .i64 0, .int .i64 0, .int .u64 0, .int .u64 0]) 5 40 Tryz.underlying53 hi hz0 hz1 hz2 rfl (by decide) lv log.length (rowA log) rfl (((Ext.refl w).alloc _).row HB.out.row) ⟨w.heap.size, 0, none⟩ 1 1 (acV ⟨t, k, c, o, z⟩) rfl rfl ?c1 ?c2 ?c3 ?c4 ?c5 ?_)
  case c1 =>
    intro j u hu
    match j, hu with
    | 0, hu => simp [acV] at hu; subst hu; simp [go_sem, Addr.add]
    | 1, hu => simp [acV] at hu; subst hu; simp [go_sem, Addr.add]
    | 2, hu => simp [acV] at hu; subst hu; simp [go_sem, Addr.add]
    | 3, hu => simp [acV] at hu; subst hu; simp [go_sem, Addr.add]
    | 4, hu => simp [acV] at hu; subst hu; simp [go_sem, Addr.add]
    | j + 5, hu => simp [acV] at hu
  case c2 => intro u hu; simp [acV] at hu; rcases hu with rfl | rfl | rfl | rfl | rfl <;> rfl
  case c3 => unfold maxLen; omega
  case c4 => omega
  case c5 => exact Nat.zero_le _
  intro v' w2 h1 h2 _ h4
  obtain ⟨a', n', c', ev'⟩ : ∃ a n c, v' = .slice a n c := by
    rcases h1.2 with ⟨e1, _⟩ | ⟨g', cap', cur, e1, _⟩
    · exact ⟨_, _, _, e1⟩
    · exact ⟨_, _, _, e1⟩
  subst ev'
  have HG2 := Lib.hid (HG.out _ w2 (.slice a' n' c') ((Ext.refl w).alloc _) h1 h2 (by simpa using h4))
  obtain ⟨g7, g8, gz8, gc, gzc, hbg⟩ := HF.out _ w2 ((Ext.refl w).alloc _) h2
  have hgb : y.gh ≠ b := Ne.symm hbg
  clear h1 h2 h4 q7 q8 qc HB
  go_wp2
  exact HG2.out
set_option maxRecDepth 100000 in
theorem rLook (b : Nat) (y : RY) (f : Nat → Int) (lv : Value) (log : List Acc) (t k : Int) (c : Nat) (w : World) (h : RB w b y f lv log) (hc : c < y.m) (hl : log.length ≤ 1000) :
    Calls Tryz.prog 156 #[.pointer (some ⟨b, 0, none⟩), .int .i64 t, .int .i64 k, .int .i64 c] w (RDoes b y lv (.int .u64 (f c)) f (log ++ [⟨t, k, c, f c, f c⟩]) w) := by
  have q7 := h.q7
  have qc := h.va.c c hc
  have hcm : (c : Int) < (y.m : Int) := by omega
  have C0 := rDo b y f lv log t k c (f c) w h hc hl
  rw [upd_same] at C0
  have C := Lib.hid C0
  clear C0 h
  generalize hfo : f c = o at *
  have HFO := Lib.hid hfo
  clear hfo
  go_enter Tryz.func156, Tryz.ntmps156
  go_wp2_with fail
  refine C.out.mono ?_
  rintro e w1 ⟨rfl, R1⟩
  have HR := Lib.hid R1
  clear R1
  go_wp2
  go_ret
  exact ⟨rfl, HR.out⟩
end Go.Proofs.YtkmfamidahlgiaaGreatDoor
/- The document's accesses; the law's model. -/
namespace Go.Proofs.YtkmfamidahlgiaaGreatDoor
open Go.RowKit
set_option linter.unusedVariables false
set_option linter.unusedSimpArgs false
set_option maxHeartbeats 2000000
attribute [local go_sem] later_cell later_frozen later_const
set_option maxRecDepth 100000 in
theorem rLoad_no (b : Nat) (r : RY) (f : Nat → Int) (lv : Value) (log : List Acc) (t c : Int) (w : World) (h : RB w b r f lv log) (hk : isK r c 1 = false) : Calls Tryz.prog 114 #[.pointer (some ⟨b, 0, none⟩), .int .i64 t, .int .i64 c] w (RDoes b r lv (.int .u64 0) f log w) := by
  have C0 := rIs b r f lv log c 1 w h
  rw [hk] at C0
  have C := Lib.hid C0
  have HG2 : Hid ((RDoes b r lv (.int .u64 0) f log w) (.returned (.int .u64 0)) w) := Lib.hid (rdoes_same h (Ext.refl _))
  generalize (RDoes b r lv (.int .u64 0) f log w) = G at *
  clear C0 h hk
  go_enter Tryz.func114, Tryz.ntmps114
  go_wp2_with fail
  refine C.out.mono ?_
  rintro e w' ⟨rfl, rfl⟩
  go_wp2
  exact HG2.out
set_option maxRecDepth 100000 in
theorem rLoad_yes (b : Nat) (r : RY) (f : Nat → Int) (lv : Value) (log : List Acc) (t : Int) (c : Nat) (w : World) (h : RB w b r f lv log) (hk : isK r c 1 = true) (hc : c < r.m) (hl : log.length ≤ 1000)  : Calls Tryz.prog 114 #[.pointer (some ⟨b, 0, none⟩), .int .i64 t, .int .i64 c] w (RDoes b r lv (.int .u64 (f c)) f (log ++ [⟨t, 1, c, f c, f c⟩]) w) := by
  have C0 := rIs b r f lv log c 1 w h
  rw [hk] at C0
  have C := Lib.hid C0
  have CD := Lib.hid (rLook b r f lv log t 1 c w h hc hl)
  have HG : Hid (∀ w2, (∃ lv', RB w2 b r f lv' (log ++ [⟨t, 1, c, f c, f c⟩]) ∧ But (Own b r.gh lv) w w2 ∧ (lv'.ownBlock = lv.ownBlock ∨ ∃ j, lv'.ownBlock = some j ∧ w.heap.size ≤ j)) → (RDoes b r lv (.int .u64 (f c)) f (log ++ [⟨t, 1, c, f c, f c⟩]) w) (.returned (.int .u64 (f c))) w2) := Lib.hid (fun w2 R => ⟨rfl, R⟩)
  generalize hGd : (RDoes b r lv (.int .u64 (f c)) f (log ++ [⟨t, 1, c, f c, f c⟩]) w) = G at HG ⊢
  clear C0 h hk hGd
  go_enter Tryz.func114, Tryz.ntmps114
  go_wp2_with fail
  refine C.out.mono ?_
  rintro e w' ⟨rfl, rfl⟩
  go_wp2_with fail
  refine CD.out.mono ?_
  rintro e w2 ⟨rfl, R2⟩
  have HG2 := Lib.hid (HG.out w2 R2)
  clear R2
  go_wp2
  exact HG2.out
set_option maxRecDepth 100000 in
theorem rStore_no (b : Nat) (r : RY) (f : Nat → Int) (lv : Value) (log : List Acc) (t c z : Int) (w : World) (h : RB w b r f lv log) (hk : isK r c 1 = false) : Calls Tryz.prog 58 #[.pointer (some ⟨b, 0, none⟩), .int .i64 t, .int .i64 c, .int .u64 z] w (RDoes b r lv (.tuple #[]) f log w) := by
  have C0 := rIs b r f lv log c 1 w h
  rw [hk] at C0
  have C := Lib.hid C0
  have HG2 : Hid ((RDoes b r lv (.tuple #[]) f log w) (.returned (.tuple #[])) w) := Lib.hid (rdoes_same h (Ext.refl _))
  generalize (RDoes b r lv (.tuple #[]) f log w) = G at *
  clear C0 h hk
  go_enter Tryz.func58, Tryz.ntmps58
  go_wp2_with fail
  refine C.out.mono ?_
  rintro e w' ⟨rfl, rfl⟩
  go_wp2
  refine bodyPost_ret (v := .tuple #[]) (by simp [results, Tryz.results58, go_sem]) rfl ?_
  exact HG2.out
set_option maxRecDepth 100000 in
theorem rStore_yes (b : Nat) (r : RY) (f : Nat → Int) (lv : Value) (log : List Acc) (t z : Int) (c : Nat) (w : World) (h : RB w b r f lv log) (hk : isK r c 1 = true) (hc : c < r.m) (hl : log.length ≤ 1000)  : Calls Tryz.prog 58 #[.pointer (some ⟨b, 0, none⟩), .int .i64 t, .int .i64 c, .int .u64 z] w (RDoes b r lv (.tuple #[]) (upd f c z) (log ++ [⟨t, 2, c, f c, z⟩]) w) := by
  have C0 := rIs b r f lv log c 1 w h
  rw [hk] at C0
  have C := Lib.hid C0
  have CD := Lib.hid (rDo b r f lv log t 2 c z w h hc hl)
  have HG : Hid (∀ w2, (∃ lv', RB w2 b r (upd f c z) lv' (log ++ [⟨t, 2, c, f c, z⟩]) ∧ But (Own b r.gh lv) w w2 ∧ (lv'.ownBlock = lv.ownBlock ∨ ∃ j, lv'.ownBlock = some j ∧ w.heap.size ≤ j)) → (RDoes b r lv (.tuple #[]) (upd f c z) (log ++ [⟨t, 2, c, f c, z⟩]) w) (.returned (.tuple #[])) w2) := Lib.hid (fun w2 R => ⟨rfl, R⟩)
  generalize hGd : (RDoes b r lv (.tuple #[]) (upd f c z) (log ++ [⟨t, 2, c, f c, z⟩]) w) = G at HG ⊢
  clear C0 h hk hGd
  go_enter Tryz.func58, Tryz.ntmps58
  go_wp2_with fail
  refine C.out.mono ?_
  rintro e w' ⟨rfl, rfl⟩
  go_wp2_with fail
  refine CD.out.mono ?_
  rintro e w2 ⟨rfl, R2⟩
  have HG2 := Lib.hid (HG.out w2 R2)
  clear R2
  go_wp2
  refine bodyPost_ret (v := .tuple #[]) (by simp [results, Tryz.results58, go_sem]) rfl ?_
  exact HG2.out
theorem rPlusW (W a n : Int) (w : World) (hW : W = 32 ∨ W = 64) : Calls Tryz.prog 80 #[.int .i64 W, .int .u64 a, .int .i64 n] w fun e w' => e = .returned (.int .u64 (plusW W a n)) ∧ w = w' := by
  rcases hW with rfl | rfl
  · exact rPlus_32 a n w
  · exact rPlus_64 a n w
theorem rCutW (W a : Int) (w : World) (hW : W = 32 ∨ W = 64) (h0 : 0 ≤ a) : Calls Tryz.prog 78 #[.int .i64 W, .int .u64 a] w fun e w' => e = .returned (.int .u64 (cutS W a)) ∧ w = w' := by
  rcases hW with rfl | rfl
  · exact rCut_32 a w h0
  · exact rCut_64 a w
end Go.Proofs.YtkmfamidahlgiaaGreatDoor
/- What the law's model comes to. -/
namespace Go.Proofs.YtkmfamidahlgiaaGreatDoor
open Go.RowKit
set_option linter.unusedVariables false
set_option linter.unusedSimpArgs false
set_option maxHeartbeats 2000000
attribute [local go_sem] later_cell later_frozen later_const
/-- the two boards' letters speak of one configuration -/
structure Rel (y : LY) (r : RY) (W : Int) : Prop where
  m : r.m = y.m
  w : r.W = W
  c : r.C = y.C
  kf : ∀ c, c < y.m → r.kf c = kd y c
  sl : y.Sl + y.C = y.m
  sl0 : 0 ≤ y.Sl
  c0 : 0 ≤ y.C
  m1 : y.m ≤ 1000
  data : ∀ s, 0 ≤ s → s < y.C → kd y (y.Sl + s) = 3
/-- what is no data is below 2^W -/
def Nar (y : LY) (W : Int) (f : Nat → Int) : Prop := ∀ c : Nat, c < y.m → kd y c ≠ 3 → cutS W (f c) = f c
theorem isK_kd {y : LY} {r : RY} {W : Int} (R : Rel y r W) {c kind : Int} (h0 : kind ≠ 0) : isK r c kind = (kd y c == kind) := by
  unfold isK
  by_cases hc : 0 ≤ c ∧ c < y.m
  · rw [R.m, R.kf c.toNat (by omega), show ((c.toNat : Nat) : Int) = c by omega, decide_eq_true hc.1, decide_eq_true hc.2]
    simp
  · have hk : kd y c = 0 := by
      by_cases hh : kd y c = 0
      · exact hh
      · exact absurd (kd_in hh) hc
    have : (decide (0 ≤ c) && decide (c < (r.m : Int))) = false := by rw [R.m]; simp; omega
    rw [this, hk]
    simp
    exact fun e => h0 e.symm
theorem slot_kd {y : LY} {r : RY} {W : Int} (R : Rel y r W) (s : Int) : (kd y (plc y.Sl y.C s) = 3 ∧ plc y.Sl r.C s = plc y.Sl y.C s ∧ 0 ≤ plc y.Sl y.C s ∧ plc y.Sl y.C s < y.m) ∨ (kd y (plc y.Sl y.C s) ≠ 3 ∧ plc y.Sl r.C s = -1) := by
  have := R.sl
  have := R.sl0
  rw [R.c]
  by_cases hs : 0 ≤ s ∧ s < y.C
  · have e : plc y.Sl y.C s = y.Sl + s := by unfold plc; rw [if_neg (by omega)]
    rw [e]
    exact .inl ⟨R.data s hs.1 hs.2, rfl, by omega, by omega⟩
  · have e : plc y.Sl y.C s = -1 := by unfold plc; rw [if_pos (by omega)]
    rw [e]
    refine .inr ⟨fun h3 => ?_, rfl⟩
    have := kd_in (y := y) (c := -1) (by rw [h3]; decide)
    omega
end Go.Proofs.YtkmfamidahlgiaaGreatDoor
/- The document's answers of layer 6: numbers' words. -/
namespace Go.Proofs.YtkmfamidahlgiaaGreatDoor
open Go.RowKit
set_option linter.unusedVariables false
set_option maxHeartbeats 1000000
/-- a text of these bytes -/
def tx (l : List UInt8) : ByteArray := ⟨l.toArray⟩
theorem conv_digit (d : Nat) (w : World) (hd : d < 10) : (convert 43 9 (.slice (some ⟨w.heap.size, 0, none⟩) 1 1)).run Tryz.prog (w.alloc (.cells #[.int .u8 (48 + (d : Int))] 5)) = .ok (.string (tx [UInt8.ofNat (48 + d)])) (w.alloc (.cells #[.int .u8 (48 + (d : Int))] 5)) := by
  have h := run_convert_bytes_back (P := Tryz.prog) (w.alloc (.cells #[.int .u8 (48 + (d : Int))] 5)) 43 9 5 ⟨w.heap.size, 0, none⟩ 1 [UInt8.ofNat (48 + d)] Tryz.underlying43 Tryz.underlying5 Tryz.underlying9 (fun j hj => by
    match j, hj with
    | 0, _ =>
      have e : (UInt8.ofNat (48 + d)).toNat = 48 + d := by rw [UInt8.toNat_ofNat']; omega
      simp only [List.getElem_cons_zero, e]
      simp [Addr.add])
  exact h
set_option maxRecDepth 100000 in
theorem rDigits_small (x : Nat) (w : World) (hx : x < 10) : Calls Tryz.prog 163 #[.int .u64 x] w fun e w' => e = .returned (.string (tx [UInt8.ofNat (48 + x)])) ∧ Ext w w' := by
  have h10 : (x : Int) < 10 := by omega
  have hc := conv_digit x w hx
  have hm : (x : Int) % 10 = (x : Int) := by omega
  generalize tx [UInt8.ofNat (48 + x)] = s at *
  go_enter Tryz.func163, Tryz.ntmps163
  go_wp2
  go_ret
  exact ⟨rfl, (Ext.refl w).alloc _⟩
theorem dec_len (k : Nat) : ∀ x, x < 10 ^ (k + 1) → (Lib.decDigits x).length ≤ k + 1 := by
  induction k with
  | zero => intro x hx; unfold Lib.decDigits; rw [dif_pos (by simpa using hx)]; simp
  | succ k ih =>
    intro x hx
    unfold Lib.decDigits
    split
    · simp
    · have := ih (x / 10) (by rw [Nat.pow_succ] at hx; omega)
      simp; omega
theorem dec_len20 {x : Nat} (h : x < 18446744073709551616) : (Lib.decDigits x).length ≤ 20 := dec_len 19 x (by
  have : (10 : Nat) ^ 20 = 100000000000000000000 := by decide
  omega)
theorem tx_size (l : List UInt8) : (tx l).size = l.length := rfl
theorem tx_append (a b : List UInt8) : tx (a ++ b) = tx a ++ tx b := by
  apply ByteArray.ext
  simp [tx]
set_option maxRecDepth 100000 in
theorem rDigits (n : Nat) : ∀ (x : Nat) (w : World), x < n → x < 18446744073709551616 → Calls Tryz.prog 163 #[.int .u64 x] w fun e w' => e = .returned (.string (tx (Lib.decDigits x))) ∧ Ext w w' := by
  induction n with
  | zero => intro x w h; omega
  | succ n ih =>
    intro x w hn hx
    by_cases h : x < 10
    · have : Lib.decDigits x = [UInt8.ofNat (48 + x)] := by unfold Lib.decDigits; rw [dif_pos h]
      rw [this]
      exact rDigits_small x w h
    · have hd : Lib.decDigits x = Lib.decDigits (x / 10) ++ [UInt8.ofNat (48 + x % 10)] := by rw [Lib.decDigits]; rw [dif_neg h]
      obtain ⟨q, hq0⟩ : ∃ q, q = x / 10 := ⟨_, rfl⟩
      rw [← hq0] at hd
      have c := fun w => ih q w (by omega) (by omega)
      have h10 : ¬ (x : Int) < 10 := by omega
      have hc := conv_digit (x % 10) w (by omega)
      have hm : ((x % 10 : Nat) : Int) = (x : Int) % 10 := by omega
      rw [hm] at hc
      have hq : (x : Int) / 10 = (q : Int) := by omega
      have hl := dec_len20 (x := q) (by omega)
      obtain ⟨s1, hs1⟩ : ∃ s, s = tx [UInt8.ofNat (48 + x % 10)] := ⟨_, rfl⟩
      rw [← hs1] at hc
      obtain ⟨s2, hs2⟩ : ∃ s, s = tx (Lib.decDigits q) := ⟨_, rfl⟩
      rw [← hs2] at c
      have HD : Hid (tx (Lib.decDigits x) = s2 ++ s1) := Lib.hid (by rw [hd, hs1, hs2, tx_append])
      have hz1 : s2.size + s1.size ≤ 9223372036854775807 := by rw [hs1, hs2, tx_size, tx_size]; simp; omega
      have C := Lib.hid c
      clear c ih hm hd hs1 hs2 hq0
      go_enter Tryz.func163, Tryz.ntmps163
      go_wp2_with fail
      refine (C.out _).mono ?_
      rintro e w1 ⟨rfl, X1⟩
      go_wp2
      go_ret
      exact ⟨by rw [HD.out]; rfl, ((Ext.refl w).alloc _).trans X1⟩
theorem rNum6 (n : Int) (w : World) (h0 : -9223372036854775808 ≤ n) (h1 : n ≤ 9223372036854775807) : Calls Tryz.prog 124 #[.int .i64 n] w fun e w' => e = .returned (.string (tx (Lib.itoa n))) ∧ Ext w w' := by
  by_cases hn : n < 0
  · obtain ⟨m, hm⟩ : ∃ m : Nat, (m : Int) = -n := ⟨(-n).toNat, by omega⟩
    have hi : Lib.itoa n = 45 :: Lib.decDigits m := by unfold Lib.itoa; rw [if_pos hn, show n.natAbs = m by omega]
    obtain ⟨s, hs⟩ : ∃ s, s = tx (Lib.decDigits m) := ⟨_, rfl⟩
    have c := fun w => rDigits (m + 1) m w (by omega) (by omega)
    rw [← hs] at c
    have HI : Hid (tx (Lib.itoa n) = tx [45] ++ s) := Lib.hid (by rw [hi, hs, ← tx_append]; rfl)
    have hz1 : (tx [45]).size + s.size ≤ 9223372036854775807 := by
      have := dec_len20 (x := m) (by omega)
      rw [hs, tx_size, tx_size]; simp; omega
    have e1 : IntKind.u64.wrap (-(n + 1)) = -(n + 1) := by rw [IntKind.wrap_u64]; omega
    have e2 : -(n + 1) + 1 = -n := by omega
    rw [hm] at c
    have C := Lib.hid c
    have hz2 : ({ data := #[45] } : ByteArray).size + s.size ≤ 9223372036854775807 := hz1
    clear c hi hs hz1
    go_enter Tryz.func124, Tryz.ntmps124
    go_wp2_with fail
    refine (C.out _).mono ?_
    rintro e w1 ⟨rfl, X1⟩
    go_wp2
    go_ret
    exact ⟨by rw [HI.out]; rfl, X1⟩
  · obtain ⟨m, rfl⟩ := Int.eq_ofNat_of_zero_le (show 0 ≤ n by omega)
    have hi : Lib.itoa (m : Int) = Lib.decDigits m := by unfold Lib.itoa; rw [if_neg (by omega)]; rfl
    rw [hi]
    have C := Lib.hid fun w => rDigits (m + 1) m w (by omega) (by omega)
    generalize tx (Lib.decDigits m) = s at *
    have hn' : ¬ (m : Int) < 0 := by omega
    clear hi
    go_enter Tryz.func124, Tryz.ntmps124
    go_wp2_with fail
    refine (C.out _).mono ?_
    rintro e w1 ⟨rfl, X1⟩
    go_wp2
    go_ret
    exact ⟨rfl, X1⟩
end Go.Proofs.YtkmfamidahlgiaaGreatDoor
/- The document's cells of layer 11: slots, Of. -/
namespace Go.Proofs.YtkmfamidahlgiaaGreatDoor
open Go.RowKit
set_option linter.unusedVariables false
set_option linter.unusedSimpArgs false
set_option maxHeartbeats 2000000
attribute [local go_sem] later_cell later_frozen later_const
/-- a cell as the document has it: its name, its kind, what it has at first -/
structure DC where
  nm : ByteArray
  kd : Int
  fs : Int
def dcV (d : DC) : List Value := [.string d.nm, .int .i64 d.kd, .int .u64 d.fs]
def rowD (l : List DC) : List Value := l.flatMap dcV
theorem rowD_app (a b : List DC) : rowD (a ++ b) = rowD a ++ rowD b := List.flatMap_append
theorem rowD_len (l : List DC) : (rowD l).length = l.length * 3 := by
  induction l with
  | nil => rfl
  | cons d l ih => show (dcV d ++ rowD l).length = _; rw [List.length_append, ih]; simp [dcV]; omega
theorem rowD_one (l : List DC) : ∀ u ∈ rowD l, u.oneCell' = true := by
  intro u hu
  obtain ⟨d, _, hd⟩ := List.mem_flatMap.1 hu
  simp [dcV] at hd
  rcases hd with rfl | rfl | rfl <;> rfl
theorem rowD_at (l : List DC) (i j : Nat) (hi : i < l.length) (hj : j < 3) : (rowD l)[i * 3 + j]? = (dcV l[i])[j]? := by
  induction l generalizing i with
  | nil => simp at hi
  | cons d l ih =>
    show (dcV d ++ rowD l)[i * 3 + j]? = _
    have hd : (dcV d).length = 3 := rfl
    cases i with
    | zero => rw [List.getElem?_append_left (by omega)]; simp
    | succ i =>
      rw [List.getElem?_append_right (by omega), hd, show (i + 1) * 3 + j - 3 = i * 3 + j by omega, ih i (by simpa using hi)]
      rfl
/-- a row of cells of the call's own -/
def RD (w : World) (base : Nat) (v : Value) (l : List DC) : Prop := w.ownsRow base 124 3 v l.length (rowD l)
theorem RD.ext {w w' : World} {base : Nat} {v : Value} {l : List DC} (h : RD w base v l) (hx : Ext w w') : RD w' base v l := hx.row h
theorem RD.lower {w : World} {base b : Nat} {v : Value} {l : List DC} (h : RD w base v l) (hb : b ≤ base) : RD w b v l := row_lower h hb
theorem RD.nil (w : World) (base : Nat) : RD w base (.slice none 0 0) [] := World.ownsRow_nil _ _ _ _
theorem info_dc : (Tryz.prog.info? 124).map (fun i => (i.zero, i.size, i.bytes)) = some (some (.agg #[.string ⟨#[]⟩, .int .i64 0, .int .u64 0]), 3, 32) := by kernel_rfl
/-- how a row of the call's own lies -/
theorem RD.form {w : World} {base : Nat} {v : Value} {l : List DC} (h : RD w base v l) (h0 : 0 < l.length) : ∃ g cap, v = .slice (some ⟨g, 0, none⟩) l.length cap ∧ base ≤ g ∧ l.length ≤ cap ∧ ∀ j u, (rowD l)[j]? = some u → w.cell? ⟨g, j, none⟩ = some u := by
  rcases h.2 with ⟨h1, h2⟩ | ⟨g, cap, cur, h1, h2, h3, h4, h5, h6, h7⟩
  · omega
  · refine ⟨g, cap, h1, h2, h4, fun j u hu => ?_⟩
    have hv : cur[j]? = some u := by
      rw [← h7] at hu
      rw [← Array.getElem?_toList]
      rw [List.getElem?_take] at hu
      split at hu
      · exact hu
      · cases hu
    simp [World.cell?, h3, hv]
/-- a field of a row's cell -/
theorem RD.cell {w : World} {base : Nat} {v : Value} {l : List DC} (h : RD w base v l) {i : Nat} (hi : i < l.length) : ∃ g cap, v = .slice (some ⟨g, 0, none⟩) l.length cap ∧ w.cell? ⟨g, i * 3, none⟩ = some (.string l[i].nm) ∧ w.cell? ⟨g, i * 3 + 1, none⟩ = some (.int .i64 l[i].kd) ∧ w.cell? ⟨g, i * 3 + 2, none⟩ = some (.int .u64 l[i].fs) := by
  obtain ⟨g, cap, h1, _, _, h4⟩ := h.form (by omega)
  exact ⟨g, cap, h1, h4 _ _ (rowD_at l i 0 hi (by omega)), h4 _ _ (rowD_at l i 1 hi (by omega)), h4 _ _ (rowD_at l i 2 hi (by omega))⟩
/-- 'out = append(out, x..)' of a row of cells of the call's own -/
theorem appD {ops : Array Oper} {rest : List Oper} {o : Oper} {a : Act} {Q : Exit → Act → World → Prop} (w : World) (hgd : o.guard = none) (s x : Operand)
    (ho : o.op = .call { callee := .builtin .append, args := #[s, x], argTypes := #[51, 51] })
    (W : World) (v : Value) (l : List DC) (hs : a.eval s = v) (hown : RD w W.heap.size v l) (hW : Ext W w) (g cap : Nat) (l2 : List DC) (hx : a.eval x = .slice (some ⟨g, 0, none⟩) l2.length cap) (hcell : ∀ j u, (rowD l2)[j]? = some u → w.cell? ⟨g, j, none⟩ = some u) (hl : l.length ≤ 1000) (hl2 : l2.length ≤ 1000)
    (h : ∀ v' w', RD w' W.heap.size v' (l ++ l2) → Ext W w' → wpList Tryz.prog ops Q rest (a.put o.dst v') w') : wpList Tryz.prog ops Q (o :: rest) a w := by
  obtain ⟨i0, hi, hz0, hz1, hz2⟩ := info_parts info_dc
  refine wpList_append_own w hgd s x 51 ho W.heap.size 124 i0 (.agg #[.string ⟨#[]⟩, .int .i64 0, .int .u64 0]) 3 32 Tryz.underlying51 hi hz0 hz1 hz2 rfl (by decide) v l.length (rowD l) hs hown ⟨g, 0, none⟩ l2.length cap (rowD l2) hx (rowD_len l2) ?_ ?_ ?_ ?_ ?_ ?_
  · intro j u hu
    have := hcell j u hu
    by_cases hj : j = 0
    · subst hj; simpa [Addr.add] using this
    · simpa [Addr.add, hj] using this
  · exact rowD_one l2
  · unfold maxLen; omega
  · omega
  · exact hW.size
  · intro v' w' h1 h2 _
    refine h v' w' ?_ (hW.grown h2 fun j hj => (World.ownsRow.lt hown j hj).1)
    unfold RD
    rw [List.length_append, rowD_app]
    exact h1
theorem one_cells (w : World) (g : Nat) (d : DC) (h0 : w.cell? ⟨g, 0, none⟩ = some (.string d.nm)) (h1 : w.cell? ⟨g, 1, none⟩ = some (.int .i64 d.kd)) (h2 : w.cell? ⟨g, 2, none⟩ = some (.int .u64 d.fs)) : ∀ j u, (rowD [d])[j]? = some u → w.cell? ⟨g, j, none⟩ = some u := by
  intro j u hu
  match j, hu with
  | 0, hu => simp [rowD, dcV] at hu; subst hu; exact h0
  | 1, hu => simp [rowD, dcV] at hu; subst hu; exact h1
  | 2, hu => simp [rowD, dcV] at hu; subst hu; exact h2
  | j + 3, hu => simp [rowD, dcV] at hu
theorem r2FirstR (W c s p : Int) (w : World) (hW : W = 32 ∨ W = 64) (hc : rightB c = true) (h0 : 0 ≤ s) (h1 : s < c) : Calls Tryz.prog 164 #[.int .i64 W, .int .i64 c, .int .i64 s, .int .u64 p] w fun e w' => e = .returned (.int .u64 (firstR W c s p)) ∧ w = w' := by
  rcases hW with rfl | rfl
  · exact r2First_32 c s p w hc h0 h1
  · exact r2First_64 c s p w hc h0 h1
theorem r2AheadR (W c s p : Int) (w : World) (hW : W = 32 ∨ W = 64) (hc : rightB c = true) (h0 : 0 ≤ s) (h1 : s < c) : Calls Tryz.prog 165 #[.int .i64 W, .int .i64 c, .int .i64 s, .int .u64 p] w fun e w' => e = .returned (.int .u64 (aheadR W c s p)) ∧ w = w' := by
  rcases hW with rfl | rfl
  · exact r2Ahead_32 c s p w hc h0 h1
  · exact r2Ahead_64 c s p w hc h0 h1
/-- a cell of each slot -/
def slotL (k : Nat) (W C S : Int) (m : Nat) : List DC := (List.range m).map fun (i : Nat) => ⟨pName k ++ tx (Lib.itoa (i : Int)), pKind k, fst W C S k i⟩
theorem slotL_len (k : Nat) (W C S : Int) (m : Nat) : (slotL k W C S m).length = m := by simp [slotL]
theorem slotL_snoc (k : Nat) (W C S : Int) (m : Nat) : slotL k W C S (m + 1) = slotL k W C S m ++ [⟨pName k ++ tx (Lib.itoa (m : Int)), pKind k, fst W C S k m⟩] := by
  unfold slotL
  rw [List.range_succ, List.map_append]
  rfl
def GivesD (w : World) (l : List DC) (e : Ending) (w' : World) : Prop := ∃ v, e = .returned v ∧ RD w' w.heap.size v l ∧ Ext w w'
theorem itoa_len21 (i : Nat) (h : i ≤ 64) : (tx (Lib.itoa (i : Int))).size ≤ 21 := by
  rw [tx_size]
  unfold Lib.itoa
  rw [if_neg (by omega)]
  have := dec_len20 (x := (i : Int).toNat) (by omega)
  omega
set_option maxRecDepth 100000 in
theorem rSlots_7 (V W C P S : Int) (a : Option Addr) (n cap : Nat) (w : World) (hW : W = 32 ∨ W = 64) (hC : rightB C = true) (hC1 : C ≤ 64) (hS0 : 0 ≤ S) :
    Calls Tryz.prog 125 #[(.agg #[.int .i64 V, .int .i64 W, .int .i64 C, .int .i64 P, .int .u64 (S), .slice a n cap]), .string ⟨#[109, 97, 114, 107]⟩, .int .i64 1] w (GivesD w (slotL 7 W C S C.toNat)) := by
  have CS := Lib.hid (fun w => rStart V W C P S a n cap w hW hS0)
  obtain ⟨m, rfl⟩ : ∃ m : Nat, C = m := ⟨C.toNat, by have := right_range hC; omega⟩
  rw [show ((m : Int)).toNat = m by omega]
  have hm : m ≤ 64 := by omega
  have CN := Lib.hid (fun (i : Nat) (w : World) (hi : i ≤ 64) => rNum6 i w (by omega) (by omega))
  have CF := Lib.hid (fun (i : Nat) (w : World) (hi : i < m) => r2AheadR W m i (cutS W S) w hW hC (by omega) (by omega))
  have HST : Hid (∀ i : Nat, slotL 7 W m S (i + 1) = slotL 7 W m S i ++ [⟨⟨#[109, 97, 114, 107]⟩ ++ tx (Lib.itoa (i : Int)), 1, aheadR W m i (cutS W S)⟩]) := Lib.hid (fun i => by rw [slotL_snoc]; rfl)
  have HLN : Hid (∀ i : Nat, (slotL 7 W m S i).length = i) := Lib.hid (fun i => slotL_len _ _ _ _ _)
  have HZ : Hid (∀ i : Nat, i ≤ 64 → (tx (Lib.itoa (i : Int))).size ≤ 21) := Lib.hid (fun i hi => itoa_len21 i hi)
  have HG : Hid (∀ v w', RD w' w.heap.size v (slotL 7 W m S m) → Ext w w' → GivesD w (slotL 7 W m S m) (.returned v) w') := Lib.hid (fun v w' h1 h2 => ⟨v, rfl, h1, h2⟩)
  generalize hG : GivesD w (slotL 7 W m S m) = G at *
  have HSL : Hid (slotL 7 W m S 0 = []) := Lib.hid rfl
  generalize hf : slotL 7 W m S = F at *
  clear hG hf hC hC1 hS0 hW
  generalize cutS W S = p at *
  have d1 : ((⟨#[109, 97, 114, 107]⟩ : ByteArray).toList == (⟨#[115, 116, 97, 109, 112]⟩ : ByteArray).toList) = false := (Lib.bytes_beq_false_iff _ _).2 (by decide)
  have d2 : ((⟨#[109, 97, 114, 107]⟩ : ByteArray).toList == (⟨#[115, 108, 111, 116]⟩ : ByteArray).toList) = false := (Lib.bytes_beq_false_iff _ _).2 (by decide)
  go_enter Tryz.func125, Tryz.ntmps125
  go_wp2_with fail
  refine (CS.out _).mono ?_
  rintro e w1 ⟨rfl, hb1⟩
  obtain ⟨hc1, hf1⟩ := hb1.cells
  clear hc1 hf1
  have qc_0 : w1.cell? ⟨w.heap.size, 0, none⟩ = some (.int .i64 V) := (hb1.cells.1 _ _ (by simp <;> omega)).trans (by simp [go_sem])
  have qc_1 : w1.cell? ⟨w.heap.size, 1, none⟩ = some (.int .i64 W) := (hb1.cells.1 _ _ (by simp <;> omega)).trans (by simp [go_sem])
  have qc_2 : w1.cell? ⟨w.heap.size, 2, none⟩ = some (.int .i64 m) := (hb1.cells.1 _ _ (by simp <;> omega)).trans (by simp [go_sem])
  have qc_3 : w1.cell? ⟨w.heap.size, 3, none⟩ = some (.int .i64 P) := (hb1.cells.1 _ _ (by simp <;> omega)).trans (by simp [go_sem])
  have qc_4 : w1.cell? ⟨w.heap.size, 4, none⟩ = some (.int .u64 (S)) := (hb1.cells.1 _ _ (by simp <;> omega)).trans (by simp [go_sem])
  have qc_5 : w1.cell? ⟨w.heap.size, 5, none⟩ = some (.slice a n cap) := (hb1.cells.1 _ _ (by simp <;> omega)).trans (by simp [go_sem])
  have pc := World.block_lt_of_cell? _ ⟨w.heap.size, 0, none⟩ qc_0
  have rc := Nat.lt_succ_of_lt pc
  have EB : Ext w w1 := by repeat (first | with_reducible exact Ext.refl _ | with_reducible assumption | with_reducible refine Ext.alloc ?_ _ | with_reducible refine Ext.drew ?_ | with_reducible refine Ext.drewN ?_ _ | with_reducible refine Ext.setCell ?_ (by simp <;> omega) _ | with_reducible refine Ext.trans ?_ (by assumption))
  clear hb1
  go_wp2
  go_loopw [7, 9] (fun v i wr => ∃ k : Nat, k ≤ m ∧ i = .int .i64 k ∧ RD wr w1.heap.size v (F k) ∧ Ext w1 wr) (fun _ i _ => m - (intOf i).toNat)
  case atStart => exact ⟨0, Nat.zero_le _, rfl, by rw [HSL.out]; exact RD.nil _ _, Ext.refl _⟩
  case round =>
    obtain ⟨k, hk, rfl, hR, hx⟩ := hrel
    by_cases hlt : k < m
    · have hkm : (k : Int) < (m : Int) := by omega
      have p_0 := hx.cell qc_0
      have p_1 := hx.cell qc_1
      have p_2 := hx.cell qc_2
      have p_3 := hx.cell qc_3
      have p_4 := hx.cell qc_4
      have p_5 := hx.cell qc_5
      have HR := Lib.hid hR
      have HX := Lib.hid hx
      have CK := Lib.hid (fun w => CN.out k w (by omega))
      have hz := HZ.out k (by omega)
      have hz2 : (⟨#[109, 97, 114, 107]⟩ : ByteArray).size + (tx (Lib.itoa (k : Int))).size ≤ 9223372036854775807 := by
        have : (⟨#[109, 97, 114, 107]⟩ : ByteArray).size ≤ 10 := by decide
        omega
      have HT := Lib.hid (HST.out k)
      have hfl := HLN.out k
      have CK2 := Lib.hid (fun w => CF.out k w hlt)
      generalize tx (Lib.itoa (k : Int)) = num at *
      generalize aheadR W m k p = r at *
      clear hR hx
      go_wp2_with fail
      refine (CK.out _).mono ?_
      rintro e w2 ⟨rfl, X2⟩
      replace p_0 := X2.cell p_0
      replace p_1 := X2.cell p_1
      replace p_2 := X2.cell p_2
      replace p_3 := X2.cell p_3
      replace p_4 := X2.cell p_4
      replace p_5 := X2.cell p_5
      have pb : w.heap.size < w2.heap.size := World.block_lt_of_cell? _ ⟨w.heap.size, 0, none⟩ p_0
      have rb := Nat.lt_succ_of_lt pb
      have HR2 := Lib.hid (HR.out.ext X2)
      have HX2 := Lib.hid (HX.out.trans X2)
      clear X2
      go_wp2_with fail
      refine (CK2.out _).mono ?_
      rintro e w' ⟨rfl, rfl⟩
      go_upto_region 11 with (fail)
      refine settle_wp ?_
      intro w3 hb3
      have x_0 : w3.cell? ⟨w2.heap.size, 0, none⟩ = some (.string (⟨#[109, 97, 114, 107]⟩ ++ num)) := hb3.cell (by simp [go_sem])
      have x_1 : w3.cell? ⟨w2.heap.size, 1, none⟩ = some (.int .i64 1) := hb3.cell (by simp [go_sem])
      have x_2 : w3.cell? ⟨w2.heap.size, 2, none⟩ = some (.int .u64 r) := hb3.cell (by simp [go_sem])
      have E3 : Ext w2 w3 := Ext.trans (by repeat (first | with_reducible exact Ext.refl _ | with_reducible assumption | with_reducible refine Ext.alloc ?_ _ | with_reducible refine Ext.drew ?_ | with_reducible refine Ext.drewN ?_ _ | with_reducible refine Ext.setCell ?_ (by simp <;> omega) _ | with_reducible refine Ext.trans ?_ (by assumption))) hb3
      have HR3 := Lib.hid (HR2.out.ext E3)
      have HX3 := Lib.hid (HX2.out.trans E3)
      clear hb3 E3 p_0 p_1 p_2 p_3 p_4 p_5
      go_wp2_with (at_builtin; refine appD _ rfl _ _ rfl w1 _ (F k) rfl (HR3.out.ext ((Ext.refl w3).alloc _)) (HX3.out.alloc _) w3.heap.size 1 [⟨⟨#[109, 97, 114, 107]⟩ ++ num, 1, r⟩] rfl (one_cells _ _ _ (by simp [go_sem]) (by simp [go_sem]) (by simp [go_sem])) (by omega) (by simp) ?_)
      intro v' w' hR' hX'
      have HR4 := Lib.hid hR'
      have HX4 := Lib.hid hX'
      clear hR' hX'
      go_wp2
      exact ⟨⟨k + 1, by omega, by go_num, by rw [HT.out]; exact HR4.out, HX4.out⟩, by simp [intOf]; omega⟩
    · obtain rfl : k = m := by omega
      have p_2 := hx.cell qc_2
      have HG2 := Lib.hid (HG.out _ wr (hR.lower EB.size) (EB.trans hx))
      clear hR hx
      go_wp2
      exact HG2.out
set_option maxRecDepth 100000 in
theorem rSlots_8 (V W C P S : Int) (a : Option Addr) (n cap : Nat) (w : World) (hW : W = 32 ∨ W = 64) (hC : rightB C = true) (hC1 : C ≤ 64) (hS0 : 0 ≤ S) :
    Calls Tryz.prog 125 #[(.agg #[.int .i64 V, .int .i64 W, .int .i64 C, .int .i64 P, .int .u64 (S), .slice a n cap]), .string ⟨#[115, 116, 97, 109, 112]⟩, .int .i64 1] w (GivesD w (slotL 8 W C S C.toNat)) := by
  have CS := Lib.hid (fun w => rStart V W C P S a n cap w hW hS0)
  obtain ⟨m, rfl⟩ : ∃ m : Nat, C = m := ⟨C.toNat, by have := right_range hC; omega⟩
  rw [show ((m : Int)).toNat = m by omega]
  have hm : m ≤ 64 := by omega
  have CN := Lib.hid (fun (i : Nat) (w : World) (hi : i ≤ 64) => rNum6 i w (by omega) (by omega))
  have CF := Lib.hid (fun (i : Nat) (w : World) (hi : i < m) => r2FirstR W m i (cutS W S) w hW hC (by omega) (by omega))
  have HST : Hid (∀ i : Nat, slotL 8 W m S (i + 1) = slotL 8 W m S i ++ [⟨⟨#[115, 116, 97, 109, 112]⟩ ++ tx (Lib.itoa (i : Int)), 1, firstR W m i (cutS W S)⟩]) := Lib.hid (fun i => by rw [slotL_snoc]; rfl)
  have HLN : Hid (∀ i : Nat, (slotL 8 W m S i).length = i) := Lib.hid (fun i => slotL_len _ _ _ _ _)
  have HZ : Hid (∀ i : Nat, i ≤ 64 → (tx (Lib.itoa (i : Int))).size ≤ 21) := Lib.hid (fun i hi => itoa_len21 i hi)
  have HG : Hid (∀ v w', RD w' w.heap.size v (slotL 8 W m S m) → Ext w w' → GivesD w (slotL 8 W m S m) (.returned v) w') := Lib.hid (fun v w' h1 h2 => ⟨v, rfl, h1, h2⟩)
  generalize hG : GivesD w (slotL 8 W m S m) = G at *
  have HSL : Hid (slotL 8 W m S 0 = []) := Lib.hid rfl
  generalize hf : slotL 8 W m S = F at *
  clear hG hf hC hC1 hS0 hW
  generalize cutS W S = p at *
  go_enter Tryz.func125, Tryz.ntmps125
  go_wp2_with fail
  refine (CS.out _).mono ?_
  rintro e w1 ⟨rfl, hb1⟩
  obtain ⟨hc1, hf1⟩ := hb1.cells
  clear hc1 hf1
  have qc_0 : w1.cell? ⟨w.heap.size, 0, none⟩ = some (.int .i64 V) := (hb1.cells.1 _ _ (by simp <;> omega)).trans (by simp [go_sem])
  have qc_1 : w1.cell? ⟨w.heap.size, 1, none⟩ = some (.int .i64 W) := (hb1.cells.1 _ _ (by simp <;> omega)).trans (by simp [go_sem])
  have qc_2 : w1.cell? ⟨w.heap.size, 2, none⟩ = some (.int .i64 m) := (hb1.cells.1 _ _ (by simp <;> omega)).trans (by simp [go_sem])
  have qc_3 : w1.cell? ⟨w.heap.size, 3, none⟩ = some (.int .i64 P) := (hb1.cells.1 _ _ (by simp <;> omega)).trans (by simp [go_sem])
  have qc_4 : w1.cell? ⟨w.heap.size, 4, none⟩ = some (.int .u64 (S)) := (hb1.cells.1 _ _ (by simp <;> omega)).trans (by simp [go_sem])
  have qc_5 : w1.cell? ⟨w.heap.size, 5, none⟩ = some (.slice a n cap) := (hb1.cells.1 _ _ (by simp <;> omega)).trans (by simp [go_sem])
  have pc := World.block_lt_of_cell? _ ⟨w.heap.size, 0, none⟩ qc_0
  have rc := Nat.lt_succ_of_lt pc
  have EB : Ext w w1 := by repeat (first | with_reducible exact Ext.refl _ | with_reducible assumption | with_reducible refine Ext.alloc ?_ _ | with_reducible refine Ext.drew ?_ | with_reducible refine Ext.drewN ?_ _ | with_reducible refine Ext.setCell ?_ (by simp <;> omega) _ | with_reducible refine Ext.trans ?_ (by assumption))
  clear hb1
  go_wp2
  go_loopw [7, 9] (fun v i wr => ∃ k : Nat, k ≤ m ∧ i = .int .i64 k ∧ RD wr w1.heap.size v (F k) ∧ Ext w1 wr) (fun _ i _ => m - (intOf i).toNat)
  case atStart => exact ⟨0, Nat.zero_le _, rfl, by rw [HSL.out]; exact RD.nil _ _, Ext.refl _⟩
  case round =>
    obtain ⟨k, hk, rfl, hR, hx⟩ := hrel
    by_cases hlt : k < m
    · have hkm : (k : Int) < (m : Int) := by omega
      have p_0 := hx.cell qc_0
      have p_1 := hx.cell qc_1
      have p_2 := hx.cell qc_2
      have p_3 := hx.cell qc_3
      have p_4 := hx.cell qc_4
      have p_5 := hx.cell qc_5
      have HR := Lib.hid hR
      have HX := Lib.hid hx
      have CK := Lib.hid (fun w => CN.out k w (by omega))
      have hz := HZ.out k (by omega)
      have hz2 : (⟨#[115, 116, 97, 109, 112]⟩ : ByteArray).size + (tx (Lib.itoa (k : Int))).size ≤ 9223372036854775807 := by
        have : (⟨#[115, 116, 97, 109, 112]⟩ : ByteArray).size ≤ 10 := by decide
        omega
      have HT := Lib.hid (HST.out k)
      have hfl := HLN.out k
      have CK2 := Lib.hid (fun w => CF.out k w hlt)
      generalize tx (Lib.itoa (k : Int)) = num at *
      generalize firstR W m k p = r at *
      clear hR hx
      go_wp2_with fail
      refine (CK.out _).mono ?_
      rintro e w2 ⟨rfl, X2⟩
      replace p_0 := X2.cell p_0
      replace p_1 := X2.cell p_1
      replace p_2 := X2.cell p_2
      replace p_3 := X2.cell p_3
      replace p_4 := X2.cell p_4
      replace p_5 := X2.cell p_5
      have pb : w.heap.size < w2.heap.size := World.block_lt_of_cell? _ ⟨w.heap.size, 0, none⟩ p_0
      have rb := Nat.lt_succ_of_lt pb
      have HR2 := Lib.hid (HR.out.ext X2)
      have HX2 := Lib.hid (HX.out.trans X2)
      clear X2
      go_wp2_with fail
      refine (CK2.out _).mono ?_
      rintro e w' ⟨rfl, rfl⟩
      go_upto_region 11 with (fail)
      refine settle_wp ?_
      intro w3 hb3
      have x_0 : w3.cell? ⟨w2.heap.size, 0, none⟩ = some (.string (⟨#[115, 116, 97, 109, 112]⟩ ++ num)) := hb3.cell (by simp [go_sem])
      have x_1 : w3.cell? ⟨w2.heap.size, 1, none⟩ = some (.int .i64 1) := hb3.cell (by simp [go_sem])
      have x_2 : w3.cell? ⟨w2.heap.size, 2, none⟩ = some (.int .u64 r) := hb3.cell (by simp [go_sem])
      have E3 : Ext w2 w3 := Ext.trans (by repeat (first | with_reducible exact Ext.refl _ | with_reducible assumption | with_reducible refine Ext.alloc ?_ _ | with_reducible refine Ext.drew ?_ | with_reducible refine Ext.drewN ?_ _ | with_reducible refine Ext.setCell ?_ (by simp <;> omega) _ | with_reducible refine Ext.trans ?_ (by assumption))) hb3
      have HR3 := Lib.hid (HR2.out.ext E3)
      have HX3 := Lib.hid (HX2.out.trans E3)
      clear hb3 E3 p_0 p_1 p_2 p_3 p_4 p_5
      go_wp2_with (at_builtin; refine appD _ rfl _ _ rfl w1 _ (F k) rfl (HR3.out.ext ((Ext.refl w3).alloc _)) (HX3.out.alloc _) w3.heap.size 1 [⟨⟨#[115, 116, 97, 109, 112]⟩ ++ num, 1, r⟩] rfl (one_cells _ _ _ (by simp [go_sem]) (by simp [go_sem]) (by simp [go_sem])) (by omega) (by simp) ?_)
      intro v' w' hR' hX'
      have HR4 := Lib.hid hR'
      have HX4 := Lib.hid hX'
      clear hR' hX'
      go_wp2
      exact ⟨⟨k + 1, by omega, by go_num, by rw [HT.out]; exact HR4.out, HX4.out⟩, by simp [intOf]; omega⟩
    · obtain rfl : k = m := by omega
      have p_2 := hx.cell qc_2
      have HG2 := Lib.hid (HG.out _ wr (hR.lower EB.size) (EB.trans hx))
      clear hR hx
      go_wp2
      exact HG2.out
set_option maxRecDepth 100000 in
theorem rSlots_9 (V W C P S : Int) (a : Option Addr) (n cap : Nat) (w : World) (hW : W = 32 ∨ W = 64) (hC : rightB C = true) (hC1 : C ≤ 64) (hS0 : 0 ≤ S) :
    Calls Tryz.prog 125 #[(.agg #[.int .i64 V, .int .i64 W, .int .i64 C, .int .i64 P, .int .u64 (S), .slice a n cap]), .string ⟨#[100, 111, 110, 101]⟩, .int .i64 2] w (GivesD w (slotL 9 W C S C.toNat)) := by
  have CS := Lib.hid (fun w => rStart V W C P S a n cap w hW hS0)
  obtain ⟨m, rfl⟩ : ∃ m : Nat, C = m := ⟨C.toNat, by have := right_range hC; omega⟩
  rw [show ((m : Int)).toNat = m by omega]
  have hm : m ≤ 64 := by omega
  have CN := Lib.hid (fun (i : Nat) (w : World) (hi : i ≤ 64) => rNum6 i w (by omega) (by omega))
  have CF := Lib.hid (fun (i : Nat) (w : World) (hi : i < m) => r2AheadR W m i (cutS W S) w hW hC (by omega) (by omega))
  have HST : Hid (∀ i : Nat, slotL 9 W m S (i + 1) = slotL 9 W m S i ++ [⟨⟨#[100, 111, 110, 101]⟩ ++ tx (Lib.itoa (i : Int)), 2, aheadR W m i (cutS W S)⟩]) := Lib.hid (fun i => by rw [slotL_snoc]; rfl)
  have HLN : Hid (∀ i : Nat, (slotL 9 W m S i).length = i) := Lib.hid (fun i => slotL_len _ _ _ _ _)
  have HZ : Hid (∀ i : Nat, i ≤ 64 → (tx (Lib.itoa (i : Int))).size ≤ 21) := Lib.hid (fun i hi => itoa_len21 i hi)
  have HG : Hid (∀ v w', RD w' w.heap.size v (slotL 9 W m S m) → Ext w w' → GivesD w (slotL 9 W m S m) (.returned v) w') := Lib.hid (fun v w' h1 h2 => ⟨v, rfl, h1, h2⟩)
  generalize hG : GivesD w (slotL 9 W m S m) = G at *
  have HSL : Hid (slotL 9 W m S 0 = []) := Lib.hid rfl
  generalize hf : slotL 9 W m S = F at *
  clear hG hf hC hC1 hS0 hW
  generalize cutS W S = p at *
  have d1 : ((⟨#[100, 111, 110, 101]⟩ : ByteArray).toList == (⟨#[115, 116, 97, 109, 112]⟩ : ByteArray).toList) = false := (Lib.bytes_beq_false_iff _ _).2 (by decide)
  have d2 : ((⟨#[100, 111, 110, 101]⟩ : ByteArray).toList == (⟨#[115, 108, 111, 116]⟩ : ByteArray).toList) = false := (Lib.bytes_beq_false_iff _ _).2 (by decide)
  go_enter Tryz.func125, Tryz.ntmps125
  go_wp2_with fail
  refine (CS.out _).mono ?_
  rintro e w1 ⟨rfl, hb1⟩
  obtain ⟨hc1, hf1⟩ := hb1.cells
  clear hc1 hf1
  have qc_0 : w1.cell? ⟨w.heap.size, 0, none⟩ = some (.int .i64 V) := (hb1.cells.1 _ _ (by simp <;> omega)).trans (by simp [go_sem])
  have qc_1 : w1.cell? ⟨w.heap.size, 1, none⟩ = some (.int .i64 W) := (hb1.cells.1 _ _ (by simp <;> omega)).trans (by simp [go_sem])
  have qc_2 : w1.cell? ⟨w.heap.size, 2, none⟩ = some (.int .i64 m) := (hb1.cells.1 _ _ (by simp <;> omega)).trans (by simp [go_sem])
  have qc_3 : w1.cell? ⟨w.heap.size, 3, none⟩ = some (.int .i64 P) := (hb1.cells.1 _ _ (by simp <;> omega)).trans (by simp [go_sem])
  have qc_4 : w1.cell? ⟨w.heap.size, 4, none⟩ = some (.int .u64 (S)) := (hb1.cells.1 _ _ (by simp <;> omega)).trans (by simp [go_sem])
  have qc_5 : w1.cell? ⟨w.heap.size, 5, none⟩ = some (.slice a n cap) := (hb1.cells.1 _ _ (by simp <;> omega)).trans (by simp [go_sem])
  have pc := World.block_lt_of_cell? _ ⟨w.heap.size, 0, none⟩ qc_0
  have rc := Nat.lt_succ_of_lt pc
  have EB : Ext w w1 := by repeat (first | with_reducible exact Ext.refl _ | with_reducible assumption | with_reducible refine Ext.alloc ?_ _ | with_reducible refine Ext.drew ?_ | with_reducible refine Ext.drewN ?_ _ | with_reducible refine Ext.setCell ?_ (by simp <;> omega) _ | with_reducible refine Ext.trans ?_ (by assumption))
  clear hb1
  go_wp2
  go_loopw [7, 9] (fun v i wr => ∃ k : Nat, k ≤ m ∧ i = .int .i64 k ∧ RD wr w1.heap.size v (F k) ∧ Ext w1 wr) (fun _ i _ => m - (intOf i).toNat)
  case atStart => exact ⟨0, Nat.zero_le _, rfl, by rw [HSL.out]; exact RD.nil _ _, Ext.refl _⟩
  case round =>
    obtain ⟨k, hk, rfl, hR, hx⟩ := hrel
    by_cases hlt : k < m
    · have hkm : (k : Int) < (m : Int) := by omega
      have p_0 := hx.cell qc_0
      have p_1 := hx.cell qc_1
      have p_2 := hx.cell qc_2
      have p_3 := hx.cell qc_3
      have p_4 := hx.cell qc_4
      have p_5 := hx.cell qc_5
      have HR := Lib.hid hR
      have HX := Lib.hid hx
      have CK := Lib.hid (fun w => CN.out k w (by omega))
      have hz := HZ.out k (by omega)
      have hz2 : (⟨#[100, 111, 110, 101]⟩ : ByteArray).size + (tx (Lib.itoa (k : Int))).size ≤ 9223372036854775807 := by
        have : (⟨#[100, 111, 110, 101]⟩ : ByteArray).size ≤ 10 := by decide
        omega
      have HT := Lib.hid (HST.out k)
      have hfl := HLN.out k
      have CK2 := Lib.hid (fun w => CF.out k w hlt)
      generalize tx (Lib.itoa (k : Int)) = num at *
      generalize aheadR W m k p = r at *
      clear hR hx
      go_wp2_with fail
      refine (CK.out _).mono ?_
      rintro e w2 ⟨rfl, X2⟩
      replace p_0 := X2.cell p_0
      replace p_1 := X2.cell p_1
      replace p_2 := X2.cell p_2
      replace p_3 := X2.cell p_3
      replace p_4 := X2.cell p_4
      replace p_5 := X2.cell p_5
      have pb : w.heap.size < w2.heap.size := World.block_lt_of_cell? _ ⟨w.heap.size, 0, none⟩ p_0
      have rb := Nat.lt_succ_of_lt pb
      have HR2 := Lib.hid (HR.out.ext X2)
      have HX2 := Lib.hid (HX.out.trans X2)
      clear X2
      go_wp2_with fail
      refine (CK2.out _).mono ?_
      rintro e w' ⟨rfl, rfl⟩
      go_upto_region 11 with (fail)
      refine settle_wp ?_
      intro w3 hb3
      have x_0 : w3.cell? ⟨w2.heap.size, 0, none⟩ = some (.string (⟨#[100, 111, 110, 101]⟩ ++ num)) := hb3.cell (by simp [go_sem])
      have x_1 : w3.cell? ⟨w2.heap.size, 1, none⟩ = some (.int .i64 2) := hb3.cell (by simp [go_sem])
      have x_2 : w3.cell? ⟨w2.heap.size, 2, none⟩ = some (.int .u64 r) := hb3.cell (by simp [go_sem])
      have E3 : Ext w2 w3 := Ext.trans (by repeat (first | with_reducible exact Ext.refl _ | with_reducible assumption | with_reducible refine Ext.alloc ?_ _ | with_reducible refine Ext.drew ?_ | with_reducible refine Ext.drewN ?_ _ | with_reducible refine Ext.setCell ?_ (by simp <;> omega) _ | with_reducible refine Ext.trans ?_ (by assumption))) hb3
      have HR3 := Lib.hid (HR2.out.ext E3)
      have HX3 := Lib.hid (HX2.out.trans E3)
      clear hb3 E3 p_0 p_1 p_2 p_3 p_4 p_5
      go_wp2_with (at_builtin; refine appD _ rfl _ _ rfl w1 _ (F k) rfl (HR3.out.ext ((Ext.refl w3).alloc _)) (HX3.out.alloc _) w3.heap.size 1 [⟨⟨#[100, 111, 110, 101]⟩ ++ num, 2, r⟩] rfl (one_cells _ _ _ (by simp [go_sem]) (by simp [go_sem]) (by simp [go_sem])) (by omega) (by simp) ?_)
      intro v' w' hR' hX'
      have HR4 := Lib.hid hR'
      have HX4 := Lib.hid hX'
      clear hR' hX'
      go_wp2
      exact ⟨⟨k + 1, by omega, by go_num, by rw [HT.out]; exact HR4.out, HX4.out⟩, by simp [intOf]; omega⟩
    · obtain rfl : k = m := by omega
      have p_2 := hx.cell qc_2
      have HG2 := Lib.hid (HG.out _ wr (hR.lower EB.size) (EB.trans hx))
      clear hR hx
      go_wp2
      exact HG2.out
set_option maxRecDepth 100000 in
theorem rSlots_10 (V W C P S : Int) (a : Option Addr) (n cap : Nat) (w : World) (hW : W = 32 ∨ W = 64) (hC : rightB C = true) (hC1 : C ≤ 64) (hS0 : 0 ≤ S) :
    Calls Tryz.prog 125 #[(.agg #[.int .i64 V, .int .i64 W, .int .i64 C, .int .i64 P, .int .u64 (S), .slice a n cap]), .string ⟨#[115, 108, 111, 116]⟩, .int .i64 3] w (GivesD w (slotL 10 W C S C.toNat)) := by
  have CS := Lib.hid (fun w => rStart V W C P S a n cap w hW hS0)
  obtain ⟨m, rfl⟩ : ∃ m : Nat, C = m := ⟨C.toNat, by have := right_range hC; omega⟩
  rw [show ((m : Int)).toNat = m by omega]
  have hm : m ≤ 64 := by omega
  have CN := Lib.hid (fun (i : Nat) (w : World) (hi : i ≤ 64) => rNum6 i w (by omega) (by omega))
  have HST : Hid (∀ i : Nat, slotL 10 W m S (i + 1) = slotL 10 W m S i ++ [⟨⟨#[115, 108, 111, 116]⟩ ++ tx (Lib.itoa (i : Int)), 3, 0⟩]) := Lib.hid (fun i => by rw [slotL_snoc]; rfl)
  have HLN : Hid (∀ i : Nat, (slotL 10 W m S i).length = i) := Lib.hid (fun i => slotL_len _ _ _ _ _)
  have HZ : Hid (∀ i : Nat, i ≤ 64 → (tx (Lib.itoa (i : Int))).size ≤ 21) := Lib.hid (fun i hi => itoa_len21 i hi)
  have HG : Hid (∀ v w', RD w' w.heap.size v (slotL 10 W m S m) → Ext w w' → GivesD w (slotL 10 W m S m) (.returned v) w') := Lib.hid (fun v w' h1 h2 => ⟨v, rfl, h1, h2⟩)
  generalize hG : GivesD w (slotL 10 W m S m) = G at *
  have HSL : Hid (slotL 10 W m S 0 = []) := Lib.hid rfl
  generalize hf : slotL 10 W m S = F at *
  clear hG hf hC hC1 hS0 hW
  generalize cutS W S = p at *
  have d1 : ((⟨#[115, 108, 111, 116]⟩ : ByteArray).toList == (⟨#[115, 116, 97, 109, 112]⟩ : ByteArray).toList) = false := (Lib.bytes_beq_false_iff _ _).2 (by decide)
  go_enter Tryz.func125, Tryz.ntmps125
  go_wp2_with fail
  refine (CS.out _).mono ?_
  rintro e w1 ⟨rfl, hb1⟩
  obtain ⟨hc1, hf1⟩ := hb1.cells
  clear hc1 hf1
  have qc_0 : w1.cell? ⟨w.heap.size, 0, none⟩ = some (.int .i64 V) := (hb1.cells.1 _ _ (by simp <;> omega)).trans (by simp [go_sem])
  have qc_1 : w1.cell? ⟨w.heap.size, 1, none⟩ = some (.int .i64 W) := (hb1.cells.1 _ _ (by simp <;> omega)).trans (by simp [go_sem])
  have qc_2 : w1.cell? ⟨w.heap.size, 2, none⟩ = some (.int .i64 m) := (hb1.cells.1 _ _ (by simp <;> omega)).trans (by simp [go_sem])
  have qc_3 : w1.cell? ⟨w.heap.size, 3, none⟩ = some (.int .i64 P) := (hb1.cells.1 _ _ (by simp <;> omega)).trans (by simp [go_sem])
  have qc_4 : w1.cell? ⟨w.heap.size, 4, none⟩ = some (.int .u64 (S)) := (hb1.cells.1 _ _ (by simp <;> omega)).trans (by simp [go_sem])
  have qc_5 : w1.cell? ⟨w.heap.size, 5, none⟩ = some (.slice a n cap) := (hb1.cells.1 _ _ (by simp <;> omega)).trans (by simp [go_sem])
  have pc := World.block_lt_of_cell? _ ⟨w.heap.size, 0, none⟩ qc_0
  have rc := Nat.lt_succ_of_lt pc
  have EB : Ext w w1 := by repeat (first | with_reducible exact Ext.refl _ | with_reducible assumption | with_reducible refine Ext.alloc ?_ _ | with_reducible refine Ext.drew ?_ | with_reducible refine Ext.drewN ?_ _ | with_reducible refine Ext.setCell ?_ (by simp <;> omega) _ | with_reducible refine Ext.trans ?_ (by assumption))
  clear hb1
  go_wp2
  go_loopw [7, 9] (fun v i wr => ∃ k : Nat, k ≤ m ∧ i = .int .i64 k ∧ RD wr w1.heap.size v (F k) ∧ Ext w1 wr) (fun _ i _ => m - (intOf i).toNat)
  case atStart => exact ⟨0, Nat.zero_le _, rfl, by rw [HSL.out]; exact RD.nil _ _, Ext.refl _⟩
  case round =>
    obtain ⟨k, hk, rfl, hR, hx⟩ := hrel
    by_cases hlt : k < m
    · have hkm : (k : Int) < (m : Int) := by omega
      have p_0 := hx.cell qc_0
      have p_1 := hx.cell qc_1
      have p_2 := hx.cell qc_2
      have p_3 := hx.cell qc_3
      have p_4 := hx.cell qc_4
      have p_5 := hx.cell qc_5
      have HR := Lib.hid hR
      have HX := Lib.hid hx
      have CK := Lib.hid (fun w => CN.out k w (by omega))
      have hz := HZ.out k (by omega)
      have hz2 : (⟨#[115, 108, 111, 116]⟩ : ByteArray).size + (tx (Lib.itoa (k : Int))).size ≤ 9223372036854775807 := by
        have : (⟨#[115, 108, 111, 116]⟩ : ByteArray).size ≤ 10 := by decide
        omega
      have HT := Lib.hid (HST.out k)
      have hfl := HLN.out k
      generalize tx (Lib.itoa (k : Int)) = num at *
      clear hR hx
      go_wp2_with fail
      refine (CK.out _).mono ?_
      rintro e w2 ⟨rfl, X2⟩
      replace p_0 := X2.cell p_0
      replace p_1 := X2.cell p_1
      replace p_2 := X2.cell p_2
      replace p_3 := X2.cell p_3
      replace p_4 := X2.cell p_4
      replace p_5 := X2.cell p_5
      have pb : w.heap.size < w2.heap.size := World.block_lt_of_cell? _ ⟨w.heap.size, 0, none⟩ p_0
      have rb := Nat.lt_succ_of_lt pb
      have HR2 := Lib.hid (HR.out.ext X2)
      have HX2 := Lib.hid (HX.out.trans X2)
      clear X2
      go_upto_region 11 with (fail)
      refine settle_wp ?_
      intro w3 hb3
      have x_0 : w3.cell? ⟨w2.heap.size, 0, none⟩ = some (.string (⟨#[115, 108, 111, 116]⟩ ++ num)) := hb3.cell (by simp [go_sem])
      have x_1 : w3.cell? ⟨w2.heap.size, 1, none⟩ = some (.int .i64 3) := hb3.cell (by simp [go_sem])
      have x_2 : w3.cell? ⟨w2.heap.size, 2, none⟩ = some (.int .u64 0) := hb3.cell (by simp [go_sem])
      have E3 : Ext w2 w3 := Ext.trans (by repeat (first | with_reducible exact Ext.refl _ | with_reducible assumption | with_reducible refine Ext.alloc ?_ _ | with_reducible refine Ext.drew ?_ | with_reducible refine Ext.drewN ?_ _ | with_reducible refine Ext.setCell ?_ (by simp <;> omega) _ | with_reducible refine Ext.trans ?_ (by assumption))) hb3
      have HR3 := Lib.hid (HR2.out.ext E3)
      have HX3 := Lib.hid (HX2.out.trans E3)
      clear hb3 E3 p_0 p_1 p_2 p_3 p_4 p_5
      go_wp2_with (at_builtin; refine appD _ rfl _ _ rfl w1 _ (F k) rfl (HR3.out.ext ((Ext.refl w3).alloc _)) (HX3.out.alloc _) w3.heap.size 1 [⟨⟨#[115, 108, 111, 116]⟩ ++ num, 3, 0⟩] rfl (one_cells _ _ _ (by simp [go_sem]) (by simp [go_sem]) (by simp [go_sem])) (by omega) (by simp) ?_)
      intro v' w' hR' hX'
      have HR4 := Lib.hid hR'
      have HX4 := Lib.hid hX'
      clear hR' hX'
      go_wp2
      exact ⟨⟨k + 1, by omega, by go_num, by rw [HT.out]; exact HR4.out, HX4.out⟩, by simp [intOf]; omega⟩
    · obtain rfl : k = m := by omega
      have p_2 := hx.cell qc_2
      have HG2 := Lib.hid (HG.out _ wr (hR.lower EB.size) (EB.trans hx))
      clear hR hx
      go_wp2
      exact HG2.out
end Go.Proofs.YtkmfamidahlgiaaGreatDoor
/- The document's Of of layer 11. -/
namespace Go.Proofs.YtkmfamidahlgiaaGreatDoor
open Go.RowKit
set_option linter.unusedVariables false
set_option linter.unusedSimpArgs false
set_option maxHeartbeats 2000000
attribute [local go_sem] later_cell later_frozen later_const
/-- the gates -/
def gateL (W S : Int) (m : Nat) : List DC := (List.range m).map fun (i : Nat) => ⟨pName 1 ++ tx (Lib.itoa (i : Int)), 1, cutS W S⟩
theorem gateL_len (W S : Int) (m : Nat) : (gateL W S m).length = m := by simp [gateL]
theorem gateL_snoc (W S : Int) (m : Nat) : gateL W S (m + 1) = gateL W S m ++ [⟨pName 1 ++ tx (Lib.itoa (m : Int)), 1, cutS W S⟩] := by
  unfold gateL
  rw [List.range_succ, List.map_append]
  rfl
/-- those of the variant -/
def varL (V W C S : Int) : List DC :=
  if V = 1 then [⟨pName 2, 1, cutS W S⟩] else if V = 5 then [⟨pName 4, 1, 0⟩, ⟨pName 5, 1, 0⟩, ⟨pName 6, 2, cutS W S⟩] ++ slotL 9 W C S C.toNat
  else if V = 4 then [⟨pName 3, 1, cutS W S⟩] ++ slotL 8 W C S C.toNat else [⟨pName 3, 1, cutS W S⟩] ++ slotL 7 W C S C.toNat
def listD (V W C S : Int) (n : Nat) : List DC := gateL W S n ++ varL V W C S ++ slotL 10 W C S C.toNat
theorem three_cells (w : World) (g : Nat) (d e f : DC) (h : ∀ j u, (dcV d ++ dcV e ++ dcV f)[j]? = some u → w.cell? ⟨g, j, none⟩ = some u) : ∀ j u, (rowD [d, e, f])[j]? = some u → w.cell? ⟨g, j, none⟩ = some u := by
  intro j u hu
  refine h j u ?_
  simpa [rowD] using hu
theorem three_at (w : World) (g : Nat) (d e f : DC) (h0 : w.cell? ⟨g, 0, none⟩ = some (.string d.nm)) (h1 : w.cell? ⟨g, 1, none⟩ = some (.int .i64 d.kd)) (h2 : w.cell? ⟨g, 2, none⟩ = some (.int .u64 d.fs)) (h3 : w.cell? ⟨g, 3, none⟩ = some (.string e.nm)) (h4 : w.cell? ⟨g, 4, none⟩ = some (.int .i64 e.kd)) (h5 : w.cell? ⟨g, 5, none⟩ = some (.int .u64 e.fs)) (h6 : w.cell? ⟨g, 6, none⟩ = some (.string f.nm)) (h7 : w.cell? ⟨g, 7, none⟩ = some (.int .i64 f.kd)) (h8 : w.cell? ⟨g, 8, none⟩ = some (.int .u64 f.fs)) : ∀ j u, (dcV d ++ dcV e ++ dcV f)[j]? = some u → w.cell? ⟨g, j, none⟩ = some u := by
  intro j u hu
  match j, hu with
  | 0, hu => simp [dcV] at hu; subst hu; exact h0
  | 1, hu => simp [dcV] at hu; subst hu; exact h1
  | 2, hu => simp [dcV] at hu; subst hu; exact h2
  | 3, hu => simp [dcV] at hu; subst hu; exact h3
  | 4, hu => simp [dcV] at hu; subst hu; exact h4
  | 5, hu => simp [dcV] at hu; subst hu; exact h5
  | 6, hu => simp [dcV] at hu; subst hu; exact h6
  | 7, hu => simp [dcV] at hu; subst hu; exact h7
  | 8, hu => simp [dcV] at hu; subst hu; exact h8
  | j + 9, hu => simp [dcV] at hu
set_option maxRecDepth 100000 in
theorem rOf11 (V W C P S : Int) (a : Option Addr) (n cap : Nat) (w : World) (hV1 : 1 ≤ V) (hV5 : V ≤ 5) (hW : W = 32 ∨ W = 64) (hC : rightB C = true) (hC1 : C ≤ 64) (hS0 : 0 ≤ S) (hn : n ≤ 6) :
    Calls Tryz.prog 70 #[(.agg #[.int .i64 V, .int .i64 W, .int .i64 C, .int .i64 P, .int .u64 (S), .slice a n cap])] w (GivesD w (listD V W C S n)) := by
  have CS := Lib.hid (fun w => rStart V W C P S a n cap w hW hS0)
  have c7 := Lib.hid (fun w => rSlots_7 V W C P S a n cap w hW hC hC1 hS0)
  have c8 := Lib.hid (fun w => rSlots_8 V W C P S a n cap w hW hC hC1 hS0)
  have c9 := Lib.hid (fun w => rSlots_9 V W C P S a n cap w hW hC hC1 hS0)
  have c10 := Lib.hid (fun w => rSlots_10 V W C P S a n cap w hW hC hC1 hS0)
  have hCr := right_range hC
  have l7 := Lib.hid (slotL_len 7 W C S C.toNat)
  have l8 := Lib.hid (slotL_len 8 W C S C.toNat)
  have l9 := Lib.hid (slotL_len 9 W C S C.toNat)
  have l10 := Lib.hid (slotL_len 10 W C S C.toNat)
  have HL0 : Hid (∀ F, F = listD V W C S n → ∀ v w', RD w' w.heap.size v F → Ext w w' → GivesD w (listD V W C S n) (.returned v) w') := Lib.hid (fun F e v w' h1 h2 => ⟨v, rfl, by rw [← e]; exact h1, h2⟩)
  have CN := Lib.hid (fun (i : Nat) (w : World) (hi : i ≤ 64) => rNum6 i w (by omega) (by omega))
  have HST : Hid (∀ i : Nat, gateL W S (i + 1) = gateL W S i ++ [⟨⟨#[103, 97, 116, 101]⟩ ++ tx (Lib.itoa (i : Int)), 1, cutS W S⟩]) := Lib.hid (fun i => by rw [gateL_snoc]; rfl)
  have HLN : Hid (∀ i : Nat, (gateL W S i).length = i) := Lib.hid (fun i => gateL_len _ _ _)
  have HZ : Hid (∀ i : Nat, i ≤ 64 → (tx (Lib.itoa (i : Int))).size ≤ 21) := Lib.hid (fun i hi => itoa_len21 i hi)
  have HSL : Hid (gateL W S 0 = []) := Lib.hid rfl
  have hv1 : V = 1 → varL V W C S = [⟨⟨#[99, 117, 114, 115, 111, 114]⟩, 1, cutS W S⟩] := fun h => by unfold varL; rw [if_pos h]; rfl
  have hv5 : V = 5 → varL V W C S = [⟨⟨#[116, 105, 99, 107, 101, 116]⟩, 1, 0⟩, ⟨⟨#[115, 101, 114, 118, 105, 110, 103]⟩, 1, 0⟩, ⟨⟨#[110, 101, 120, 116]⟩, 2, cutS W S⟩] ++ slotL 9 W C S C.toNat := fun h => by unfold varL; rw [if_neg (by omega), if_pos h]; rfl
  have hv4 : V = 4 → varL V W C S = [⟨⟨#[99, 108, 97, 105, 109]⟩, 1, cutS W S⟩] ++ slotL 8 W C S C.toNat := fun h => by unfold varL; rw [if_neg (by omega), if_neg (by omega), if_pos h]; rfl
  have hv2 : V = 2 ∨ V = 3 → varL V W C S = [⟨⟨#[99, 108, 97, 105, 109]⟩, 1, cutS W S⟩] ++ slotL 7 W C S C.toNat := fun h => by unfold varL; rw [if_neg (by omega), if_neg (by omega), if_neg (by omega)]; rfl
  have HLD : Hid (∀ G, varL V W C S = G → listD V W C S n = gateL W S n ++ G ++ slotL 10 W C S C.toNat) := Lib.hid (fun G h => by rw [← h]; rfl)
  have H1 := Lib.hid hv1
  have H5 := Lib.hid hv5
  have H4 := Lib.hid hv4
  have H2 := Lib.hid hv2
  clear hv1 hv5 hv4 hv2
  generalize GivesD w (listD V W C S n) = G at *
  generalize listD V W C S n = LD at *
  generalize varL V W C S = VL at *
  generalize slotL 7 W C S C.toNat = L7 at *
  generalize slotL 8 W C S C.toNat = L8 at *
  generalize slotL 9 W C S C.toNat = L9 at *
  generalize slotL 10 W C S C.toNat = L10 at *
  generalize hf : gateL W S = F at *
  clear hf hC hS0 hW
  generalize cutS W S = p at *
  go_enter Tryz.func70, Tryz.ntmps70
  go_wp2_with fail
  refine (CS.out _).mono ?_
  rintro e w1 ⟨rfl, hb1⟩
  obtain ⟨hc1, hf1⟩ := hb1.cells
  clear hc1 hf1
  have qc_0 : w1.cell? ⟨w.heap.size, 0, none⟩ = some (.int .i64 V) := (hb1.cells.1 _ _ (by simp <;> omega)).trans (by simp [go_sem])
  have qc_1 : w1.cell? ⟨w.heap.size, 1, none⟩ = some (.int .i64 W) := (hb1.cells.1 _ _ (by simp <;> omega)).trans (by simp [go_sem])
  have qc_2 : w1.cell? ⟨w.heap.size, 2, none⟩ = some (.int .i64 C) := (hb1.cells.1 _ _ (by simp <;> omega)).trans (by simp [go_sem])
  have qc_3 : w1.cell? ⟨w.heap.size, 3, none⟩ = some (.int .i64 P) := (hb1.cells.1 _ _ (by simp <;> omega)).trans (by simp [go_sem])
  have qc_4 : w1.cell? ⟨w.heap.size, 4, none⟩ = some (.int .u64 (S)) := (hb1.cells.1 _ _ (by simp <;> omega)).trans (by simp [go_sem])
  have qc_5 : w1.cell? ⟨w.heap.size, 5, none⟩ = some (.slice a n cap) := (hb1.cells.1 _ _ (by simp <;> omega)).trans (by simp [go_sem])
  have pc := World.block_lt_of_cell? _ ⟨w.heap.size, 0, none⟩ qc_0
  have rc := Nat.lt_succ_of_lt pc
  have EB : Ext w w1 := by repeat (first | with_reducible exact Ext.refl _ | with_reducible assumption | with_reducible refine Ext.alloc ?_ _ | with_reducible refine Ext.drew ?_ | with_reducible refine Ext.drewN ?_ _ | with_reducible refine Ext.setCell ?_ (by simp <;> omega) _ | with_reducible refine Ext.trans ?_ (by assumption))
  clear hb1
  go_wp2
  go_loopw [3, 5] (fun v i wr => ∃ k : Nat, k ≤ n ∧ i = .int .i64 k ∧ RD wr w1.heap.size v (F k) ∧ Ext w1 wr) (fun _ i _ => n - (intOf i).toNat)
  case atStart => exact ⟨0, Nat.zero_le _, rfl, by rw [HSL.out]; exact RD.nil _ _, Ext.refl _⟩
  case round =>
    obtain ⟨k, hk, rfl, hR, hx⟩ := hrel
    have p_0 := hx.cell qc_0
    have p_1 := hx.cell qc_1
    have p_2 := hx.cell qc_2
    have p_3 := hx.cell qc_3
    have p_4 := hx.cell qc_4
    have p_5 := hx.cell qc_5
    by_cases hlt : k < n
    · have hkm : (k : Int) < (n : Int) := by omega
      have HR := Lib.hid hR
      have HX := Lib.hid hx
      have CK := Lib.hid (fun w => CN.out k w (by omega))
      have hz := HZ.out k (by omega)
      have hz2 : (⟨#[103, 97, 116, 101]⟩ : ByteArray).size + (tx (Lib.itoa (k : Int))).size ≤ 9223372036854775807 := by
        have : (⟨#[103, 97, 116, 101]⟩ : ByteArray).size ≤ 10 := by decide
        omega
      have HT := Lib.hid (HST.out k)
      have hfl := HLN.out k
      generalize tx (Lib.itoa (k : Int)) = num at *
      clear hR hx
      go_wp2_with fail
      refine (CK.out _).mono ?_
      rintro e w2 ⟨rfl, X2⟩
      have HR3 := Lib.hid (HR.out.ext X2)
      have HX3 := Lib.hid (HX.out.trans X2)
      clear X2 p_0 p_1 p_2 p_3 p_4 p_5
      go_wp2_with (at_builtin; refine appD _ rfl _ _ rfl w1 _ (F k) rfl (HR3.out.ext ((Ext.refl w2).alloc _)) (HX3.out.alloc _) w2.heap.size 1 [⟨⟨#[103, 97, 116, 101]⟩ ++ num, 1, p⟩] rfl (one_cells _ _ _ (by simp [go_sem]) (by simp [go_sem]) (by simp [go_sem])) (by omega) (by simp) ?_)
      intro v' w' hR' hX'
      have HR4 := Lib.hid hR'
      have HX4 := Lib.hid hX'
      clear hR' hX'
      go_wp2
      exact ⟨⟨k + 1, by omega, by go_num, by rw [HT.out]; exact HR4.out, HX4.out⟩, by simp [intOf]; omega⟩
    · obtain rfl : k = n := by omega
      have HR := Lib.hid hR
      have HX := Lib.hid hx
      have hfl := HLN.out k
      clear hR hx
      by_cases h1 : V = 1
      · subst h1
        go_wp2_with (at_builtin; refine appD _ rfl _ _ rfl w1 _ (F k) rfl (HR.out.ext ((Ext.refl wr).alloc _)) (HX.out.alloc _) wr.heap.size 1 [⟨⟨#[99, 117, 114, 115, 111, 114]⟩, 1, p⟩] rfl (one_cells _ _ _ (by simp [go_sem]) (by simp [go_sem]) (by simp [go_sem])) (by first | omega | (simp only [List.length_append, List.length_cons, List.length_nil]; omega)) (by simp) ?_)
        intro v6 w6 hR' hX'
        have HR6 := Lib.hid hR'
        have HX6 := Lib.hid hX'
        clear hR' hX' p_0 p_1 p_2 p_3 p_4 p_5
        have p_0 := HX6.out.cell qc_0
        have p_1 := HX6.out.cell qc_1
        have p_2 := HX6.out.cell qc_2
        have p_3 := HX6.out.cell qc_3
        have p_4 := HX6.out.cell qc_4
        have p_5 := HX6.out.cell qc_5
        go_wp2_with fail
        rename_i Kz hKz
        refine (c10.out _).mono ?_
        rintro e wz9 ⟨vz, rfl, Rz, Xz⟩
        obtain ⟨gz, capz, ez, _, _, hcz⟩ := Rz.form (by have := l7.out; have := l8.out; have := l9.out; have := l10.out; omega)
        subst ez
        have HRz := Lib.hid (HR6.out.ext Xz)
        have HXz := Lib.hid (HX6.out.trans Xz)
        have HCZ := Lib.hid hcz
        clear Rz Xz hcz
        refine hKz _ _ (appD _ rfl _ _ rfl w1 v6 (F k ++ [⟨⟨#[99, 117, 114, 115, 111, 114]⟩, 1, p⟩]) rfl HRz.out HXz.out gz capz L10 rfl HCZ.out (by have := l7.out; have := l8.out; have := l9.out; have := l10.out; simp only [List.length_append, List.length_cons, List.length_nil]; omega) (by have := l7.out; have := l8.out; have := l9.out; have := l10.out; omega) ?_)
        intro v9 w9 hR' hX'
        have HR9 := Lib.hid hR'
        have HX9 := Lib.hid hX'
        clear hR' hX' p_0 p_1 p_2 p_3 p_4 p_5 HRz HXz HCZ
        have p_0 := HX9.out.cell qc_0
        have p_1 := HX9.out.cell qc_1
        have p_2 := HX9.out.cell qc_2
        have p_3 := HX9.out.cell qc_3
        have p_4 := HX9.out.cell qc_4
        have p_5 := HX9.out.cell qc_5
        have HG2 := Lib.hid (HL0.out _ ((by simp only [List.append_assoc] : F k ++ [⟨⟨#[99, 117, 114, 115, 111, 114]⟩, 1, p⟩] ++ L10 = F k ++ ([⟨⟨#[99, 117, 114, 115, 111, 114]⟩, 1, p⟩]) ++ L10).trans (HLD.out _ (H1.out (by first | trivial | simp | omega))).symm) _ _ (HR9.out.lower EB.size) (EB.trans HX9.out))
        clear p_0 p_1 p_2 p_3 p_4 p_5
        go_wp2
        exact HG2.out
      have d1 : (V == 1) = false := by simpa using h1
      by_cases h23 : V = 2 ∨ V = 3
      · rcases h23 with rfl | rfl
        · go_wp2_with (at_builtin; refine appD _ rfl _ _ rfl w1 _ (F k) rfl (HR.out.ext ((Ext.refl wr).alloc _)) (HX.out.alloc _) wr.heap.size 1 [⟨⟨#[99, 108, 97, 105, 109]⟩, 1, p⟩] rfl (one_cells _ _ _ (by simp [go_sem]) (by simp [go_sem]) (by simp [go_sem])) (by first | omega | (simp only [List.length_append, List.length_cons, List.length_nil]; omega)) (by simp) ?_)
          intro v6 w6 hR' hX'
          have HR6 := Lib.hid hR'
          have HX6 := Lib.hid hX'
          clear hR' hX' p_0 p_1 p_2 p_3 p_4 p_5
          have p_0 := HX6.out.cell qc_0
          have p_1 := HX6.out.cell qc_1
          have p_2 := HX6.out.cell qc_2
          have p_3 := HX6.out.cell qc_3
          have p_4 := HX6.out.cell qc_4
          have p_5 := HX6.out.cell qc_5
          go_wp2_with fail
          rename_i Kz hKz
          refine (c7.out _).mono ?_
          rintro e wz7 ⟨vz, rfl, Rz, Xz⟩
          obtain ⟨gz, capz, ez, _, _, hcz⟩ := Rz.form (by have := l7.out; have := l8.out; have := l9.out; have := l10.out; omega)
          subst ez
          have HRz := Lib.hid (HR6.out.ext Xz)
          have HXz := Lib.hid (HX6.out.trans Xz)
          have HCZ := Lib.hid hcz
          clear Rz Xz hcz
          refine hKz _ _ (appD _ rfl _ _ rfl w1 v6 (F k ++ [⟨⟨#[99, 108, 97, 105, 109]⟩, 1, p⟩]) rfl HRz.out HXz.out gz capz L7 rfl HCZ.out (by have := l7.out; have := l8.out; have := l9.out; have := l10.out; simp only [List.length_append, List.length_cons, List.length_nil]; omega) (by have := l7.out; have := l8.out; have := l9.out; have := l10.out; omega) ?_)
          intro v7 w7 hR' hX'
          have HR7 := Lib.hid hR'
          have HX7 := Lib.hid hX'
          clear hR' hX' p_0 p_1 p_2 p_3 p_4 p_5 HRz HXz HCZ
          have p_0 := HX7.out.cell qc_0
          have p_1 := HX7.out.cell qc_1
          have p_2 := HX7.out.cell qc_2
          have p_3 := HX7.out.cell qc_3
          have p_4 := HX7.out.cell qc_4
          have p_5 := HX7.out.cell qc_5
          go_wp2_with fail
          rename_i Kz hKz
          refine (c10.out _).mono ?_
          rintro e wz9 ⟨vz, rfl, Rz, Xz⟩
          obtain ⟨gz, capz, ez, _, _, hcz⟩ := Rz.form (by have := l7.out; have := l8.out; have := l9.out; have := l10.out; omega)
          subst ez
          have HRz := Lib.hid (HR7.out.ext Xz)
          have HXz := Lib.hid (HX7.out.trans Xz)
          have HCZ := Lib.hid hcz
          clear Rz Xz hcz
          refine hKz _ _ (appD _ rfl _ _ rfl w1 v7 (F k ++ [⟨⟨#[99, 108, 97, 105, 109]⟩, 1, p⟩] ++ L7) rfl HRz.out HXz.out gz capz L10 rfl HCZ.out (by have := l7.out; have := l8.out; have := l9.out; have := l10.out; simp only [List.length_append, List.length_cons, List.length_nil]; omega) (by have := l7.out; have := l8.out; have := l9.out; have := l10.out; omega) ?_)
          intro v9 w9 hR' hX'
          have HR9 := Lib.hid hR'
          have HX9 := Lib.hid hX'
          clear hR' hX' p_0 p_1 p_2 p_3 p_4 p_5 HRz HXz HCZ
          have p_0 := HX9.out.cell qc_0
          have p_1 := HX9.out.cell qc_1
          have p_2 := HX9.out.cell qc_2
          have p_3 := HX9.out.cell qc_3
          have p_4 := HX9.out.cell qc_4
          have p_5 := HX9.out.cell qc_5
          have HG2 := Lib.hid (HL0.out _ ((by simp only [List.append_assoc] : F k ++ [⟨⟨#[99, 108, 97, 105, 109]⟩, 1, p⟩] ++ L7 ++ L10 = F k ++ ([⟨⟨#[99, 108, 97, 105, 109]⟩, 1, p⟩] ++ L7) ++ L10).trans (HLD.out _ (H2.out (by first | trivial | simp | omega))).symm) _ _ (HR9.out.lower EB.size) (EB.trans HX9.out))
          clear p_0 p_1 p_2 p_3 p_4 p_5
          go_wp2
          exact HG2.out
        · go_wp2_with (at_builtin; refine appD _ rfl _ _ rfl w1 _ (F k) rfl (HR.out.ext ((Ext.refl wr).alloc _)) (HX.out.alloc _) wr.heap.size 1 [⟨⟨#[99, 108, 97, 105, 109]⟩, 1, p⟩] rfl (one_cells _ _ _ (by simp [go_sem]) (by simp [go_sem]) (by simp [go_sem])) (by first | omega | (simp only [List.length_append, List.length_cons, List.length_nil]; omega)) (by simp) ?_)
          intro v6 w6 hR' hX'
          have HR6 := Lib.hid hR'
          have HX6 := Lib.hid hX'
          clear hR' hX' p_0 p_1 p_2 p_3 p_4 p_5
          have p_0 := HX6.out.cell qc_0
          have p_1 := HX6.out.cell qc_1
          have p_2 := HX6.out.cell qc_2
          have p_3 := HX6.out.cell qc_3
          have p_4 := HX6.out.cell qc_4
          have p_5 := HX6.out.cell qc_5
          go_wp2_with fail
          rename_i Kz hKz
          refine (c7.out _).mono ?_
          rintro e wz7 ⟨vz, rfl, Rz, Xz⟩
          obtain ⟨gz, capz, ez, _, _, hcz⟩ := Rz.form (by have := l7.out; have := l8.out; have := l9.out; have := l10.out; omega)
          subst ez
          have HRz := Lib.hid (HR6.out.ext Xz)
          have HXz := Lib.hid (HX6.out.trans Xz)
          have HCZ := Lib.hid hcz
          clear Rz Xz hcz
          refine hKz _ _ (appD _ rfl _ _ rfl w1 v6 (F k ++ [⟨⟨#[99, 108, 97, 105, 109]⟩, 1, p⟩]) rfl HRz.out HXz.out gz capz L7 rfl HCZ.out (by have := l7.out; have := l8.out; have := l9.out; have := l10.out; simp only [List.length_append, List.length_cons, List.length_nil]; omega) (by have := l7.out; have := l8.out; have := l9.out; have := l10.out; omega) ?_)
          intro v7 w7 hR' hX'
          have HR7 := Lib.hid hR'
          have HX7 := Lib.hid hX'
          clear hR' hX' p_0 p_1 p_2 p_3 p_4 p_5 HRz HXz HCZ
          have p_0 := HX7.out.cell qc_0
          have p_1 := HX7.out.cell qc_1
          have p_2 := HX7.out.cell qc_2
          have p_3 := HX7.out.cell qc_3
          have p_4 := HX7.out.cell qc_4
          have p_5 := HX7.out.cell qc_5
          go_wp2_with fail
          rename_i Kz hKz
          refine (c10.out _).mono ?_
          rintro e wz9 ⟨vz, rfl, Rz, Xz⟩
          obtain ⟨gz, capz, ez, _, _, hcz⟩ := Rz.form (by have := l7.out; have := l8.out; have := l9.out; have := l10.out; omega)
          subst ez
          have HRz := Lib.hid (HR7.out.ext Xz)
          have HXz := Lib.hid (HX7.out.trans Xz)
          have HCZ := Lib.hid hcz
          clear Rz Xz hcz
          refine hKz _ _ (appD _ rfl _ _ rfl w1 v7 (F k ++ [⟨⟨#[99, 108, 97, 105, 109]⟩, 1, p⟩] ++ L7) rfl HRz.out HXz.out gz capz L10 rfl HCZ.out (by have := l7.out; have := l8.out; have := l9.out; have := l10.out; simp only [List.length_append, List.length_cons, List.length_nil]; omega) (by have := l7.out; have := l8.out; have := l9.out; have := l10.out; omega) ?_)
          intro v9 w9 hR' hX'
          have HR9 := Lib.hid hR'
          have HX9 := Lib.hid hX'
          clear hR' hX' p_0 p_1 p_2 p_3 p_4 p_5 HRz HXz HCZ
          have p_0 := HX9.out.cell qc_0
          have p_1 := HX9.out.cell qc_1
          have p_2 := HX9.out.cell qc_2
          have p_3 := HX9.out.cell qc_3
          have p_4 := HX9.out.cell qc_4
          have p_5 := HX9.out.cell qc_5
          have HG2 := Lib.hid (HL0.out _ ((by simp only [List.append_assoc] : F k ++ [⟨⟨#[99, 108, 97, 105, 109]⟩, 1, p⟩] ++ L7 ++ L10 = F k ++ ([⟨⟨#[99, 108, 97, 105, 109]⟩, 1, p⟩] ++ L7) ++ L10).trans (HLD.out _ (H2.out (by first | trivial | simp | omega))).symm) _ _ (HR9.out.lower EB.size) (EB.trans HX9.out))
          clear p_0 p_1 p_2 p_3 p_4 p_5
          go_wp2
          exact HG2.out
      have d2 : (V == 2) = false := by simp; omega
      have d3 : (V == 3) = false := by simp; omega
      by_cases h4 : V = 4
      · subst h4
        go_wp2_with (at_builtin; refine appD _ rfl _ _ rfl w1 _ (F k) rfl (HR.out.ext ((Ext.refl wr).alloc _)) (HX.out.alloc _) wr.heap.size 1 [⟨⟨#[99, 108, 97, 105, 109]⟩, 1, p⟩] rfl (one_cells _ _ _ (by simp [go_sem]) (by simp [go_sem]) (by simp [go_sem])) (by first | omega | (simp only [List.length_append, List.length_cons, List.length_nil]; omega)) (by simp) ?_)
        intro v6 w6 hR' hX'
        have HR6 := Lib.hid hR'
        have HX6 := Lib.hid hX'
        clear hR' hX' p_0 p_1 p_2 p_3 p_4 p_5
        have p_0 := HX6.out.cell qc_0
        have p_1 := HX6.out.cell qc_1
        have p_2 := HX6.out.cell qc_2
        have p_3 := HX6.out.cell qc_3
        have p_4 := HX6.out.cell qc_4
        have p_5 := HX6.out.cell qc_5
        go_wp2_with fail
        rename_i Kz hKz
        refine (c8.out _).mono ?_
        rintro e wz7 ⟨vz, rfl, Rz, Xz⟩
        obtain ⟨gz, capz, ez, _, _, hcz⟩ := Rz.form (by have := l7.out; have := l8.out; have := l9.out; have := l10.out; omega)
        subst ez
        have HRz := Lib.hid (HR6.out.ext Xz)
        have HXz := Lib.hid (HX6.out.trans Xz)
        have HCZ := Lib.hid hcz
        clear Rz Xz hcz
        refine hKz _ _ (appD _ rfl _ _ rfl w1 v6 (F k ++ [⟨⟨#[99, 108, 97, 105, 109]⟩, 1, p⟩]) rfl HRz.out HXz.out gz capz L8 rfl HCZ.out (by have := l7.out; have := l8.out; have := l9.out; have := l10.out; simp only [List.length_append, List.length_cons, List.length_nil]; omega) (by have := l7.out; have := l8.out; have := l9.out; have := l10.out; omega) ?_)
        intro v7 w7 hR' hX'
        have HR7 := Lib.hid hR'
        have HX7 := Lib.hid hX'
        clear hR' hX' p_0 p_1 p_2 p_3 p_4 p_5 HRz HXz HCZ
        have p_0 := HX7.out.cell qc_0
        have p_1 := HX7.out.cell qc_1
        have p_2 := HX7.out.cell qc_2
        have p_3 := HX7.out.cell qc_3
        have p_4 := HX7.out.cell qc_4
        have p_5 := HX7.out.cell qc_5
        go_wp2_with fail
        rename_i Kz hKz
        refine (c10.out _).mono ?_
        rintro e wz9 ⟨vz, rfl, Rz, Xz⟩
        obtain ⟨gz, capz, ez, _, _, hcz⟩ := Rz.form (by have := l7.out; have := l8.out; have := l9.out; have := l10.out; omega)
        subst ez
        have HRz := Lib.hid (HR7.out.ext Xz)
        have HXz := Lib.hid (HX7.out.trans Xz)
        have HCZ := Lib.hid hcz
        clear Rz Xz hcz
        refine hKz _ _ (appD _ rfl _ _ rfl w1 v7 (F k ++ [⟨⟨#[99, 108, 97, 105, 109]⟩, 1, p⟩] ++ L8) rfl HRz.out HXz.out gz capz L10 rfl HCZ.out (by have := l7.out; have := l8.out; have := l9.out; have := l10.out; simp only [List.length_append, List.length_cons, List.length_nil]; omega) (by have := l7.out; have := l8.out; have := l9.out; have := l10.out; omega) ?_)
        intro v9 w9 hR' hX'
        have HR9 := Lib.hid hR'
        have HX9 := Lib.hid hX'
        clear hR' hX' p_0 p_1 p_2 p_3 p_4 p_5 HRz HXz HCZ
        have p_0 := HX9.out.cell qc_0
        have p_1 := HX9.out.cell qc_1
        have p_2 := HX9.out.cell qc_2
        have p_3 := HX9.out.cell qc_3
        have p_4 := HX9.out.cell qc_4
        have p_5 := HX9.out.cell qc_5
        have HG2 := Lib.hid (HL0.out _ ((by simp only [List.append_assoc] : F k ++ [⟨⟨#[99, 108, 97, 105, 109]⟩, 1, p⟩] ++ L8 ++ L10 = F k ++ ([⟨⟨#[99, 108, 97, 105, 109]⟩, 1, p⟩] ++ L8) ++ L10).trans (HLD.out _ (H4.out (by first | trivial | simp | omega))).symm) _ _ (HR9.out.lower EB.size) (EB.trans HX9.out))
        clear p_0 p_1 p_2 p_3 p_4 p_5
        go_wp2
        exact HG2.out
      · obtain rfl : V = 5 := by omega
        go_wp2_with (at_builtin; refine appD _ rfl _ _ rfl w1 _ (F k) rfl (HR.out.ext ((Ext.refl wr).alloc _)) (HX.out.alloc _) wr.heap.size 3 [⟨⟨#[116, 105, 99, 107, 101, 116]⟩, 1, 0⟩, ⟨⟨#[115, 101, 114, 118, 105, 110, 103]⟩, 1, 0⟩, ⟨⟨#[110, 101, 120, 116]⟩, 2, p⟩] rfl (three_cells _ _ _ _ _ (fun j u hu => three_at _ _ _ _ _ (by simp [go_sem]) (by simp [go_sem]) (by simp [go_sem]) (by simp [go_sem]) (by simp [go_sem]) (by simp [go_sem]) (by simp [go_sem]) (by simp [go_sem]) (by simp [go_sem]) j u hu)) (by first | omega | (simp only [List.length_append, List.length_cons, List.length_nil]; omega)) (by simp) ?_)
        intro v6 w6 hR' hX'
        have HR6 := Lib.hid hR'
        have HX6 := Lib.hid hX'
        clear hR' hX' p_0 p_1 p_2 p_3 p_4 p_5
        have p_0 := HX6.out.cell qc_0
        have p_1 := HX6.out.cell qc_1
        have p_2 := HX6.out.cell qc_2
        have p_3 := HX6.out.cell qc_3
        have p_4 := HX6.out.cell qc_4
        have p_5 := HX6.out.cell qc_5
        go_wp2_with fail
        rename_i Kz hKz
        refine (c9.out _).mono ?_
        rintro e wz7 ⟨vz, rfl, Rz, Xz⟩
        obtain ⟨gz, capz, ez, _, _, hcz⟩ := Rz.form (by have := l7.out; have := l8.out; have := l9.out; have := l10.out; omega)
        subst ez
        have HRz := Lib.hid (HR6.out.ext Xz)
        have HXz := Lib.hid (HX6.out.trans Xz)
        have HCZ := Lib.hid hcz
        clear Rz Xz hcz
        refine hKz _ _ (appD _ rfl _ _ rfl w1 v6 (F k ++ [⟨⟨#[116, 105, 99, 107, 101, 116]⟩, 1, 0⟩, ⟨⟨#[115, 101, 114, 118, 105, 110, 103]⟩, 1, 0⟩, ⟨⟨#[110, 101, 120, 116]⟩, 2, p⟩]) rfl HRz.out HXz.out gz capz L9 rfl HCZ.out (by have := l7.out; have := l8.out; have := l9.out; have := l10.out; simp only [List.length_append, List.length_cons, List.length_nil]; omega) (by have := l7.out; have := l8.out; have := l9.out; have := l10.out; omega) ?_)
        intro v7 w7 hR' hX'
        have HR7 := Lib.hid hR'
        have HX7 := Lib.hid hX'
        clear hR' hX' p_0 p_1 p_2 p_3 p_4 p_5 HRz HXz HCZ
        have p_0 := HX7.out.cell qc_0
        have p_1 := HX7.out.cell qc_1
        have p_2 := HX7.out.cell qc_2
        have p_3 := HX7.out.cell qc_3
        have p_4 := HX7.out.cell qc_4
        have p_5 := HX7.out.cell qc_5
        go_wp2_with fail
        rename_i Kz hKz
        refine (c10.out _).mono ?_
        rintro e wz9 ⟨vz, rfl, Rz, Xz⟩
        obtain ⟨gz, capz, ez, _, _, hcz⟩ := Rz.form (by have := l7.out; have := l8.out; have := l9.out; have := l10.out; omega)
        subst ez
        have HRz := Lib.hid (HR7.out.ext Xz)
        have HXz := Lib.hid (HX7.out.trans Xz)
        have HCZ := Lib.hid hcz
        clear Rz Xz hcz
        refine hKz _ _ (appD _ rfl _ _ rfl w1 v7 (F k ++ [⟨⟨#[116, 105, 99, 107, 101, 116]⟩, 1, 0⟩, ⟨⟨#[115, 101, 114, 118, 105, 110, 103]⟩, 1, 0⟩, ⟨⟨#[110, 101, 120, 116]⟩, 2, p⟩] ++ L9) rfl HRz.out HXz.out gz capz L10 rfl HCZ.out (by have := l7.out; have := l8.out; have := l9.out; have := l10.out; simp only [List.length_append, List.length_cons, List.length_nil]; omega) (by have := l7.out; have := l8.out; have := l9.out; have := l10.out; omega) ?_)
        intro v9 w9 hR' hX'
        have HR9 := Lib.hid hR'
        have HX9 := Lib.hid hX'
        clear hR' hX' p_0 p_1 p_2 p_3 p_4 p_5 HRz HXz HCZ
        have p_0 := HX9.out.cell qc_0
        have p_1 := HX9.out.cell qc_1
        have p_2 := HX9.out.cell qc_2
        have p_3 := HX9.out.cell qc_3
        have p_4 := HX9.out.cell qc_4
        have p_5 := HX9.out.cell qc_5
        have HG2 := Lib.hid (HL0.out _ ((by simp only [List.append_assoc] : F k ++ [⟨⟨#[116, 105, 99, 107, 101, 116]⟩, 1, 0⟩, ⟨⟨#[115, 101, 114, 118, 105, 110, 103]⟩, 1, 0⟩, ⟨⟨#[110, 101, 120, 116]⟩, 2, p⟩] ++ L9 ++ L10 = F k ++ ([⟨⟨#[116, 105, 99, 107, 101, 116]⟩, 1, 0⟩, ⟨⟨#[115, 101, 114, 118, 105, 110, 103]⟩, 1, 0⟩, ⟨⟨#[110, 101, 120, 116]⟩, 2, p⟩] ++ L9) ++ L10).trans (HLD.out _ (H5.out (by first | trivial | simp | omega))).symm) _ _ (HR9.out.lower EB.size) (EB.trans HX9.out))
        clear p_0 p_1 p_2 p_3 p_4 p_5
        go_wp2
        exact HG2.out
end Go.Proofs.YtkmfamidahlgiaaGreatDoor
/- The document's board made. -/
namespace Go.Proofs.YtkmfamidahlgiaaGreatDoor
open Go.RowKit
set_option linter.unusedVariables false
set_option linter.unusedSimpArgs false
set_option maxHeartbeats 2000000
attribute [local go_sem] later_cell later_frozen later_const
def nmO (k : Nat) (i : Int) : ByteArray := if pMany k then pName k ++ tx (Lib.itoa i) else pName k
theorem gateL_at (W S : Int) {m i : Nat} (h : i < m) : (gateL W S m)[i]? = some ⟨pName 1 ++ tx (Lib.itoa (i : Int)), 1, cutS W S⟩ := by simp [gateL, h]
theorem slotL_at (k : Nat) (W C S : Int) {m i : Nat} (h : i < m) : (slotL k W C S m)[i]? = some ⟨pName k ++ tx (Lib.itoa (i : Int)), pKind k, fst W C S k i⟩ := by simp [slotL, h]
theorem listD_at {V n C : Int} (h : NumOk V n C) (W S : Int) {N c : Nat} (hN : (N : Int) = n) (hc : (c : Int) < nCe V n C) {k i : Int} (e : useN V n C c = (k, i)) :
    (listD V W C S N)[c]? = some ⟨nmO k.toNat i, pKind k.toNat, fst W C S k i⟩ := by
  have hg := gateL_len W S N
  have hs10 := slotL_len 10 W C S C.toNat
  have hs9 := slotL_len 9 W C S C.toNat
  have hs8 := slotL_len 8 W C S C.toNat
  have hs7 := slotL_len 7 W C S C.toNat
  have h6 := h.c64
  have h5 := h.c2
  have hce : nCe V n C = nSl V n C + C := rfl
  have hlv : ((varL V W C S).length : Int) = nSl V n C - n := by
    unfold varL nSl
    by_cases v1 : V = 1
    · simp [v1]; omega
    by_cases v5 : V = 5
    · simp [v5, hs9]; omega
    by_cases v4 : V = 4
    · simp [v4, hs8]; omega
    · simp [v1, v5, v4, hs7]; omega
  have hsl : n ≤ nSl V n C := by omega
  unfold listD
  rcases use_cases h (by omega) hc with ⟨a, b⟩ | ⟨a, b⟩ | ⟨a, a2, b⟩ | ⟨a, a1, a2, b⟩ | ⟨a, a2, b⟩ | ⟨a, a2, b⟩ | ⟨a, a2, b⟩ | ⟨a, a1, a2, b⟩ <;> rw [e] at b <;> cases b
  · rw [List.append_assoc, List.getElem?_append_left (by omega), gateL_at W S (by omega)]
    rfl
  · rw [List.getElem?_append_right (by rw [List.length_append]; omega), List.length_append, slotL_at 10 W C S (by omega)]
    have : (c : Int) - nSl V n C = ((c - ((gateL W S N).length + (varL V W C S).length) : Nat) : Int) := by omega
    rw [this]
    rfl
  · rw [List.append_assoc, List.getElem?_append_right (by omega), hg, show c - N = 0 by omega]
    subst a
    simp [varL, nmO, pMany, pKind, fst]
  · rw [List.append_assoc, List.getElem?_append_right (by omega), hg, show c - N = 0 by omega]
    by_cases v4 : V = 4
    · subst v4
      simp [varL, nmO, pMany, pKind, fst]
    · simp [varL, a, a1, v4, nmO, pMany, pKind, fst]
  · rw [List.append_assoc, List.getElem?_append_right (by omega), hg, show c - N = 0 by omega]
    subst a
    simp [varL, nmO, pMany, pKind, fst]
  · rw [List.append_assoc, List.getElem?_append_right (by omega), hg, show c - N = 1 by omega]
    subst a
    simp [varL, nmO, pMany, pKind, fst]
  · rw [List.append_assoc, List.getElem?_append_right (by omega), hg, show c - N = 2 by omega]
    subst a
    simp [varL, nmO, pMany, pKind, fst]
  · by_cases v5 : V = 5
    · subst v5
      simp [nMa, nSl] at a1 a2
      rw [List.append_assoc, List.getElem?_append_right (by omega), hg, List.getElem?_append_left (by simp [nSl] at hlv; omega)]
      have hx : (c : Int) - (n + 3) = ((c - N - 3 : Nat) : Int) := by omega
      have hv : varL 5 W C S = [⟨pName 4, 1, 0⟩, ⟨pName 5, 1, 0⟩, ⟨pName 6, 2, cutS W S⟩] ++ slotL 9 W C S C.toNat := by simp [varL]
      rw [hv, List.getElem?_append_right (by simp; omega)]
      simp only [List.length_cons, List.length_nil]
      rw [slotL_at 9 W C S (by omega), show nMa 5 n = n + 3 by simp [nMa], show mrk 5 = 9 by simp [mrk], hx]
      rfl
    · have hma : nMa V n = n + 1 := by simp [nMa, a, v5]
      have hsl2 : nSl V n C = n + 1 + C := by simp [nSl, a, v5]
      rw [List.append_assoc, List.getElem?_append_right (by omega), hg, List.getElem?_append_left (by omega)]
      have hx : (c : Int) - (n + 1) = ((c - N - 1 : Nat) : Int) := by omega
      by_cases v4 : V = 4
      · subst v4
        have hv : varL 4 W C S = [⟨pName 3, 1, cutS W S⟩] ++ slotL 8 W C S C.toNat := by simp [varL]
        rw [hv, List.getElem?_append_right (by simp; omega)]
        simp only [List.length_cons, List.length_nil]
        rw [slotL_at 8 W C S (by omega), hma, show mrk 4 = 8 by simp [mrk], hx]
        rfl
      · have hv : varL V W C S = [⟨pName 3, 1, cutS W S⟩] ++ slotL 7 W C S C.toNat := by simp [varL, a, v4, v5]
        rw [hv, List.getElem?_append_right (by simp; omega)]
        simp only [List.length_cons, List.length_nil]
        rw [slotL_at 7 W C S (by omega), hma, show mrk V = 7 by simp [mrk, v4, v5], hx]
        rfl
theorem listD_len {V n C : Int} (h : NumOk V n C) (W S : Int) {N : Nat} (hN : (N : Int) = n) : ((listD V W C S N).length : Int) = nCe V n C := by
  have h5 := h.c2
  unfold listD varL nCe nSl
  simp only [List.length_append, gateL_len, slotL_len]
  by_cases v1 : V = 1
  · simp [v1]; omega
  by_cases v5 : V = 5
  · simp [v5, slotL_len]; omega
  by_cases v4 : V = 4
  · simp [v4, slotL_len]; omega
  · simp [v1, v5, v4, slotL_len]; omega

def rowU (F : Nat → Int) (k : Nat) : List Value := (List.range k).map fun i => .int .u64 (F i)
theorem rowU_snoc (F : Nat → Int) (k : Nat) : rowU F (k + 1) = rowU F k ++ [.int .u64 (F k)] := by
  unfold rowU
  rw [List.range_succ, List.map_append]
  rfl
/-- a board on its way: k numbers are laid -/
structure RN (w : World) (base b : Nat) (y : RY) (F : Nat → Int) (hv : Value) (k : Nat) : Prop where
  q0 : w.cell? ⟨b, 0, none⟩ = some (.int .i64 y.V)
  q1 : w.cell? ⟨b, 1, none⟩ = some (.int .i64 y.W)
  q2 : w.cell? ⟨b, 2, none⟩ = some (.int .i64 y.C)
  q3 : w.cell? ⟨b, 3, none⟩ = some (.int .i64 y.P)
  q4 : w.cell? ⟨b, 4, none⟩ = some (.int .u64 y.S)
  q5 : w.cell? ⟨b, 5, none⟩ = some (.slice y.a y.n y.cap)
  q6 : w.cell? ⟨b, 6, none⟩ = some (.slice (some ⟨y.gc, 0, none⟩) y.m y.cc)
  q7 : w.cell? ⟨b, 7, none⟩ = some hv
  z7 : w.frozen? ⟨b, 7, none⟩ = false
  q8 : w.cell? ⟨b, 8, none⟩ = some (.slice none 0 0)
  z8 : w.frozen? ⟨b, 8, none⟩ = false
  kc : ∀ c, c < y.m → w.cell? ⟨y.gc, c * 3 + 1, none⟩ = some (.int .i64 (y.kf c))
  fc : ∀ c, c < y.m → w.cell? ⟨y.gc, c * 3 + 2, none⟩ = some (.int .u64 (F c))
  tb : Tag w b 55
  tc : Tag w y.gc 124
  row : w.ownsRow base 22 1 hv k (rowU F k)
theorem row_tagU {w : World} {base t n : Nat} {v : Value} {xs : List Value} (h : w.ownsRow base t 1 v n xs) {k : Nat} (hk : v.ownBlock = some k) : Tag w k t := by
  rcases h.2 with ⟨e1, _⟩ | ⟨g', cap', cur, e1, _, hgo, _⟩
  · rw [e1] at hk; cases hk
  · rw [e1] at hk; cases hk; exact ⟨_, hgo⟩
theorem RN.ext {w w' : World} {base b : Nat} {y : RY} {F : Nat → Int} {hv : Value} {k : Nat} (h : RN w base b y F hv k) (hx : Ext w w') : RN w' base b y F hv k :=
  ⟨hx.cell h.q0, hx.cell h.q1, hx.cell h.q2, hx.cell h.q3, hx.cell h.q4, hx.cell h.q5, hx.cell h.q6, hx.cell h.q7, hx.frozen h.q7 h.z7, hx.cell h.q8, hx.frozen h.q8 h.z8, fun c hc => hx.cell (h.kc c hc), fun c hc => hx.cell (h.fc c hc), h.tb.ext hx, h.tc.ext hx, hx.row h.row⟩
theorem RN.grown {w w2 : World} {base b : Nat} {y : RY} {F : Nat → Int} {hv : Value} {k : Nat} (h : RN w base b y F hv k) (hg : w.grownBy w2 hv.ownBlock) : w2.cell? ⟨b, 7, none⟩ = some hv ∧ w2.frozen? ⟨b, 7, none⟩ = false := by
  have B2 := but_grown hg
  have sb : ¬ (hv.ownBlock = some b) := fun e => tag_ne h.tb (row_tagU h.row e) (by decide) rfl
  exact ⟨B2.cell h.q7 sb, B2.frozen h.q7 h.z7 sb⟩
theorem RN.step {w w2 : World} {base b : Nat} {y : RY} {F : Nat → Int} {hv v' : Value} {k : Nat} (h : RN w base b y F hv k) (hr : w2.ownsRow base 22 1 v' (k + 1) (rowU F k ++ [.int .u64 (F k)])) (hg : w.grownBy w2 hv.ownBlock) (hat : v'.ownBlock = hv.ownBlock ∨ v'.ownBlock = some w.heap.size) : RN (w2.setCell ⟨b, 7, none⟩ v') base b y F v' (k + 1) := by
  have B2 := but_grown hg
  have nbc : b ≠ y.gc := tag_ne h.tb h.tc (by decide)
  have sb : ¬ (hv.ownBlock = some b) := fun e => tag_ne h.tb (row_tagU h.row e) (by decide) rfl
  have sc : ¬ (hv.ownBlock = some y.gc) := fun e => tag_ne h.tc (row_tagU h.row e) (by decide) rfl
  have lb : b < w.heap.size := tag_lt h.tb
  have nb' : ¬ (v'.ownBlock = some b) := fun e => by
    rcases hat with e' | e'
    · rw [e] at e'; exact sb e'.symm
    · rw [e] at e'; have := Option.some.inj e'; omega
  have C3 := but_setCell w2 ⟨b, 7, none⟩ v'
  have far : ∀ {j : Nat} {u : Value}, j ≠ 7 → w.cell? ⟨b, j, none⟩ = some u → (w2.setCell ⟨b, 7, none⟩ v').cell? ⟨b, j, none⟩ = some u := by
    intro j u hj hq
    rw [World.cell?_setCell_other _ _ _ _ (fun e => hj (by cases e; rfl))]
    exact B2.cell hq sb
  refine ⟨far (by decide) h.q0, far (by decide) h.q1, far (by decide) h.q2, far (by decide) h.q3, far (by decide) h.q4, far (by decide) h.q5, far (by decide) h.q6, ?_, ?_, far (by decide) h.q8, ?_, ?_, ?_, (h.tb.but B2 sb).set, (h.tc.but B2 sc).set, ?_⟩
  · exact World.cell?_setCell_same _ _ _ (B2.cell h.q7 sb)
  · rw [World.frozen?_setCell]
    exact B2.frozen h.q7 h.z7 sb
  · rw [World.frozen?_setCell]
    exact B2.frozen h.q8 h.z8 sb
  · intro c hc
    exact C3.cell (B2.cell (h.kc c hc) sc) (by simpa using Ne.symm nbc)
  · intro c hc
    exact C3.cell (B2.cell (h.fc c hc) sc) (by simpa using Ne.symm nbc)
  · rw [rowU_snoc]
    exact C3.row hr (fun k hk e => nb' (by rw [hk]; simp at e; rw [e]))
/-- all numbers are laid: it is a board -/
theorem RN.done {w : World} {base b : Nat} {y : RY} {F : Nat → Int} {hv : Value} (h : RN w base b y F hv y.m) (h0 : 0 < y.m) : ∃ gh ch, base ≤ gh ∧ RB w b { y with gh := gh, ch := ch } F (.slice none 0 0) [] := by
  rcases h.row.2 with ⟨h1, h2⟩ | ⟨g, cap, cur, h1, h2, h3, h4, h5, h6, h7⟩
  · omega
  · refine ⟨g, cap, h2, ⟨h.q0, h.q1, h.q2, h.q3, h.q4, h.q5, h.q6, by rw [← h1]; exact h.q7, h.q8, h.z8, h.kc, h.tb, h.tc, ⟨_, h3⟩, ⟨fun i hi => ?_, fun i hi => ?_⟩, World.ownsRow_nil _ _ _ _⟩⟩
    · have hi2 : i < y.m := hi
      have hu : (rowU F y.m)[i]? = some (.int .u64 (F i)) := by simp [rowU, hi2]
      rw [← h7, List.getElem?_take] at hu
      have hv : cur[i]? = some (.int .u64 (F i)) := by
        rw [← Array.getElem?_toList]
        split at hu
        · exact hu
        · cases hu
      simp [World.cell?, h3, hv]
    · simp [World.frozen?, h3]
/-- the document's New -/
def RNewDoes (V W C P S : Int) (n m : Nat) (w : World) (e : Ending) (w' : World) : Prop :=
  ∃ b y, e = .returned (.pointer (some ⟨b, 0, none⟩)) ∧ RB w' b y (fsC V W C S n) (.slice none 0 0) [] ∧ y.m = m ∧ y.W = W ∧ y.C = C ∧ (∀ c : Nat, c < m → y.kf c = pKind (useN V n C c).1.toNat) ∧ Ext w w' ∧ w.heap.size ≤ b ∧ w.heap.size ≤ y.gh
theorem listD_kf {V : Int} {N : Nat} {C : Int} (h : NumOk V N C) (W S : Int) {c : Nat} (hc : c < (listD V W C S N).length) : (listD V W C S N)[c].kd = pKind (useN V N C c).1.toNat ∧ (listD V W C S N)[c].fs = fsC V W C S N c := by
  have hl := listD_len h W S rfl
  have ha := listD_at h W S (N := N) (c := c) rfl (by omega) (k := (useN V N C c).1) (i := (useN V N C c).2) rfl
  rw [List.getElem?_eq_getElem hc] at ha
  have := Option.some.inj ha
  rw [this]
  exact ⟨rfl, rfl⟩
theorem rNew_start {w : World} {base : Nat} {V W C P S : Int} {a : Option Addr} {n cap m : Nat} {v : Value} (hok : NumOk V n C) (hm : (m : Int) = nCe V n C) (h0 : 0 < m) (hR : RD w base v (listD V W C S n)) :
    ∃ gc cc, v = .slice (some ⟨gc, 0, none⟩) m cc ∧ ∀ w', Ext w w' → RN (w'.alloc (.cells #[.int .i64 V, .int .i64 W, .int .i64 C, .int .i64 P, .int .u64 S, .slice a n cap, .slice (some ⟨gc, 0, none⟩) m cc, .slice none 0 0, .slice none 0 0] 55)) base w'.heap.size ⟨V, W, C, P, S, a, n, cap, gc, cc, 0, 0, m, fun c => pKind (useN V n C c).1.toNat⟩ (fsC V W C S n) (.slice none 0 0) 0 := by
  have hl := listD_len hok W S rfl
  have hlm : (listD V W C S n).length = m := by omega
  have hR0 : RD w base v (listD V W C S n) := hR
  rcases hR.2 with ⟨h1, h2⟩ | ⟨g, cc, cur, h1, h2, h3, h4, h5, h6, h7⟩
  · omega
  · refine ⟨g, cc, by rw [← hlm]; exact h1, fun w' hx => ?_⟩
    have X := hx.alloc (.cells #[.int .i64 V, .int .i64 W, .int .i64 C, .int .i64 P, .int .u64 S, .slice a n cap, .slice (some ⟨g, 0, none⟩) m cc, .slice none 0 0, .slice none 0 0] 55)
    refine ⟨by simp [go_sem], by simp [go_sem], by simp [go_sem], by simp [go_sem], by simp [go_sem], by simp [go_sem], by simp [go_sem], by simp [go_sem], by simp [go_sem], by simp [go_sem], by simp [go_sem], fun c hc => ?_, fun c hc => ?_, Tag.new _ _ _, Tag.ext ⟨_, h3⟩ X, World.ownsRow_nil _ _ _ _⟩
    · have hc' : c < (listD V W C S n).length := by rw [hlm]; exact hc
      obtain ⟨g2, cap2, e2, _, r1, _⟩ := hR0.cell hc'
      rw [h1] at e2
      cases e2
      rw [(listD_kf hok W S hc').1] at r1
      exact X.cell r1
    · have hc' : c < (listD V W C S n).length := by rw [hlm]; exact hc
      obtain ⟨g2, cap2, e2, _, _, r2⟩ := hR0.cell hc'
      rw [h1] at e2
      cases e2
      rw [(listD_kf hok W S hc').2] at r2
      exact X.cell r2
/-- .. and which configuration it has -/
def RNewDoes2 (V W C P S : Int) (n m : Nat) (w : World) (e : Ending) (w' : World) : Prop :=
  ∃ b y, e = .returned (.pointer (some ⟨b, 0, none⟩)) ∧ RB w' b y (fsC V W C S n) (.slice none 0 0) [] ∧ y.m = m ∧ y.W = W ∧ y.C = C ∧ (∀ c : Nat, c < m → y.kf c = pKind (useN V n C c).1.toNat) ∧ Ext w w' ∧ w.heap.size ≤ b ∧ w.heap.size ≤ y.gh ∧ y.V = V ∧ y.n = n ∧ y.P = P ∧ y.S = S
set_option maxRecDepth 100000 in
theorem rNew12b (V W C P S : Int) (a : Option Addr) (n cap m : Nat) (w : World) (hok : NumOk V n C) (hW : W = 32 ∨ W = 64) (hC : rightB C = true) (hS0 : 0 ≤ S) (hm : (m : Int) = nCe V n C) :
    Calls Tryz.prog 19 #[(.agg #[.int .i64 V, .int .i64 W, .int .i64 C, .int .i64 P, .int .u64 (S), .slice a n cap])] w (RNewDoes2 V W C P S n m w) := by
  have hbd := num_bounds hok
  have h0 : 0 < m := by omega
  have hm5 : m ≤ 500 := by omega
  have CO := Lib.hid (fun w => rOf11 V W C P S a n cap w hok.v1 hok.v5 hW hC hok.c64 hS0 (by have := hok.n6; omega))
  have HST : Hid (∀ (w : World) (base : Nat) (v : Value), RD w base v (listD V W C S n) → ∃ gc cc, v = .slice (some ⟨gc, 0, none⟩) m cc ∧ ∀ w', Ext w w' → RN (w'.alloc (.cells #[.int .i64 V, .int .i64 W, .int .i64 C, .int .i64 P, .int .u64 S, .slice a n cap, .slice (some ⟨gc, 0, none⟩) m cc, .slice none 0 0, .slice none 0 0] 55)) base w'.heap.size ⟨V, W, C, P, S, a, n, cap, gc, cc, 0, 0, m, fun c => pKind (useN V n C c).1.toNat⟩ (fsC V W C S n) (.slice none 0 0) 0) := Lib.hid (fun w base v h => rNew_start hok hm h0 h)
  have HG : Hid (∀ b gc cc hv w', RN w' w.heap.size b ⟨V, W, C, P, S, a, n, cap, gc, cc, 0, 0, m, fun c => pKind (useN V n C c).1.toNat⟩ (fsC V W C S n) hv m → Ext w w' → w.heap.size ≤ b → RNewDoes2 V W C P S n m w (.returned (.pointer (some ⟨b, 0, none⟩))) w') := Lib.hid (fun b gc cc hv w' h1 h2 h3 => by
    obtain ⟨gh, ch, hh, hB⟩ := RN.done h1 h0
    exact ⟨b, _, rfl, hB, rfl, rfl, rfl, fun c hc => rfl, h2, h3, hh, rfl, rfl, rfl, rfl⟩)
  generalize RNewDoes2 V W C P S n m w = G at *
  generalize fsC V W C S n = F at *
  generalize (fun c : Nat => pKind (useN V n C c).1.toNat) = kf at *
  generalize listD V W C S n = LD at *
  obtain ⟨i0, hi, hz0, hz1, hz2⟩ := info_parts info_u64
  clear hok hW hC hS0 hm hbd
  go_enter Tryz.func19, Tryz.ntmps19
  go_upto_region 1 with (fail)
  refine settle_wp ?_
  intro w1 hb1
  have q_0 : w1.cell? ⟨w.heap.size, 0, none⟩ = some (.int .i64 V) := hb1.cell (by simp [go_sem])
  have q_1 : w1.cell? ⟨w.heap.size, 1, none⟩ = some (.int .i64 W) := hb1.cell (by simp [go_sem])
  have q_2 : w1.cell? ⟨w.heap.size, 2, none⟩ = some (.int .i64 C) := hb1.cell (by simp [go_sem])
  have q_3 : w1.cell? ⟨w.heap.size, 3, none⟩ = some (.int .i64 P) := hb1.cell (by simp [go_sem])
  have q_4 : w1.cell? ⟨w.heap.size, 4, none⟩ = some (.int .u64 S) := hb1.cell (by simp [go_sem])
  have q_5 : w1.cell? ⟨w.heap.size, 5, none⟩ = some (.slice a n cap) := hb1.cell (by simp [go_sem])
  have X1 : Ext w w1 := Ext.trans ((Ext.refl w).alloc _) hb1
  clear hb1
  refine wp_region_D (fun i => decide (i ≤ 2)) (by kernel_rfl) ?_
  have f_0 := fun w' (hx : Ext w1 w') => hx.cell q_0
  have f_1 := fun w' (hx : Ext w1 w') => hx.cell q_1
  have f_2 := fun w' (hx : Ext w1 w') => hx.cell q_2
  have f_3 := fun w' (hx : Ext w1 w') => hx.cell q_3
  have f_4 := fun w' (hx : Ext w1 w') => hx.cell q_4
  have f_5 := fun w' (hx : Ext w1 w') => hx.cell q_5
  refine take_D (i := 0) (v := ?_) rfl rfl rfl (by kernel_rfl) (by kernel_rfl) (by kernel_rfl) (by kernel_rfl) (by kernel_rfl) ((Ext.refl w1).drew) ?hy0 ?_
  case hy0 => intro wz hSw; (try dsimp only at hSw); go_simp <;> with_reducible rfl
  simp only [List.setIfInBounds_toArray, List.set_cons_zero, List.set_cons_succ]
  refine take_D (i := 1) (v := ?_) rfl rfl rfl (by kernel_rfl) (by kernel_rfl) (by kernel_rfl) (by kernel_rfl) (by kernel_rfl) ((Ext.refl w1).drew) ?hy1 ?_
  case hy1 => intro wz hSw; (try dsimp only at hSw); go_simp <;> with_reducible rfl
  simp only [List.setIfInBounds_toArray, List.set_cons_zero, List.set_cons_succ]
  refine last_D (n := 2) rfl rfl (fun j hj => by simp; omega) (by kernel_rfl) ?_
  clear f_0 f_1 f_2 f_3 f_4 f_5 q_0 q_1 q_2 q_3 q_4 q_5
  go_wp2_with fail
  refine (CO.out _).mono ?_
  rintro e w2 ⟨v2, rfl, R2, X2⟩
  have E2 : Ext w1 w2 := ((Ext.refl w1).drew).trans X2
  have hle : w.heap.size ≤ w1.drew.heap.size := ((X1.drew)).size
  obtain ⟨gc, cc, ev, HRN⟩ := HST.out w2 w.heap.size v2 (R2.lower hle)
  subst ev
  have EW := X1.trans E2
  have HR0 := Lib.hid (HRN w2 (Ext.refl _))
  clear HRN R2 X2 hle
  go_wp2
  refine ⟨E2, ?_⟩
  go_wp2
  refine off_normal ?_
  have EW3 := EW.alloc (.cells #[.int .i64 V, .int .i64 W, .int .i64 C, .int .i64 P, .int .u64 S, .slice a n cap, .slice (some ⟨gc, 0, none⟩) m cc, .slice none 0 0, .slice none 0 0] 55)
  have hb : w.heap.size ≤ w2.heap.size := EW.size
  have HX3 := Lib.hid EW3
  clear E2 X1 EW EW3
  go_wp2
  go_loopw [4] (fun i wr => ∃ k : Nat, k ≤ m ∧ i = .int .i64 k ∧ Ext w wr ∧ ∃ hv, RN wr w.heap.size w2.heap.size ⟨V, W, C, P, S, a, n, cap, gc, cc, 0, 0, m, kf⟩ F hv k) (fun i _ => m - (intOf i).toNat)
  case atStart => exact ⟨0, Nat.zero_le _, rfl, HX3.out, _, HR0.out⟩
  case round =>
    obtain ⟨k, hk, rfl, hx, hv, hR⟩ := hrel
    have q6 := hR.q6
    by_cases hlt : k < m
    · have hkm : (k : Int) < (m : Int) := by omega
      have q7 := hR.q7
      have fc := hR.fc k hlt
      have HR := Lib.hid hR
      have HX := Lib.hid hx
      clear hx hR
      go_upto_region 5 with (fail)
      refine wp_region_D (fun i => decide (1 ≤ i) && decide (i ≤ 13)) (by kernel_rfl) ?_
      have F6 := fun w' (hx : Ext wr w') => hx.cell q6
      have F7 := fun w' (hx : Ext wr w') => hx.cell q7
      have FC := fun w' (hx : Ext wr w') => hx.cell fc
      refine pure_D (i := 0) (v := ?_) rfl rfl rfl (by kernel_rfl) (by kernel_rfl) (by kernel_rfl) rfl ?hy0 ?_
      case hy0 => intro wz; go_simp <;> with_reducible rfl
      simp only [List.setIfInBounds_toArray, List.set_cons_zero, List.set_cons_succ]
      refine take_D (i := 1) (v := ?_) rfl rfl rfl (by kernel_rfl) (by kernel_rfl) (by kernel_rfl) (by kernel_rfl) (by kernel_rfl) ((Ext.refl wr).drew) ?hy1 ?_
      case hy1 => intro wz hSw; (try dsimp only at hSw); go_simp <;> with_reducible rfl
      simp only [List.setIfInBounds_toArray, List.set_cons_zero, List.set_cons_succ]
      refine take_D (i := 2) (v := ?_) rfl rfl rfl (by kernel_rfl) (by kernel_rfl) (by kernel_rfl) (by kernel_rfl) (by kernel_rfl) ((Ext.refl wr).drew) ?hy2 ?_
      case hy2 => intro wz hSw; (try dsimp only at hSw); go_simp <;> with_reducible rfl
      simp only [List.setIfInBounds_toArray, List.set_cons_zero, List.set_cons_succ]
      refine take_D (i := 3) (v := ?_) rfl rfl rfl (by kernel_rfl) (by kernel_rfl) (by kernel_rfl) (by kernel_rfl) (by kernel_rfl) ((Ext.refl wr).drew) ?hy3 ?_
      case hy3 => intro wz hSw; (try dsimp only at hSw); go_simp <;> with_reducible rfl
      simp only [List.setIfInBounds_toArray, List.set_cons_zero, List.set_cons_succ]
      refine take_D (i := 4) (v := ?_) rfl rfl rfl (by kernel_rfl) (by kernel_rfl) (by kernel_rfl) (by kernel_rfl) (by kernel_rfl) ((Ext.refl wr).drew) ?hy4 ?_
      case hy4 => intro wz hSw; (try dsimp only at hSw); go_simp <;> with_reducible rfl
      simp only [List.setIfInBounds_toArray, List.set_cons_zero, List.set_cons_succ]
      refine take_D (i := 5) (v := ?_) rfl rfl rfl (by kernel_rfl) (by kernel_rfl) (by kernel_rfl) (by kernel_rfl) (by kernel_rfl) ((Ext.refl wr).drew) ?hy5 ?_
      case hy5 => intro wz hSw; (try dsimp only at hSw); go_simp <;> with_reducible rfl
      simp only [List.setIfInBounds_toArray, List.set_cons_zero, List.set_cons_succ]
      refine take_D (i := 6) (v := ?_) rfl rfl rfl (by kernel_rfl) (by kernel_rfl) (by kernel_rfl) (by kernel_rfl) (by kernel_rfl) ((Ext.refl wr).drew) ?hy6 ?_
      case hy6 => intro wz hSw; (try dsimp only at hSw); go_simp <;> with_reducible rfl
      simp only [List.setIfInBounds_toArray, List.set_cons_zero, List.set_cons_succ]
      refine take_D (i := 7) (v := ?_) rfl rfl rfl (by kernel_rfl) (by kernel_rfl) (by kernel_rfl) (by kernel_rfl) (by kernel_rfl) ((Ext.refl wr).drew) ?hy7 ?_
      case hy7 => intro wz hSw; (try dsimp only at hSw); go_simp <;> with_reducible rfl
      simp only [List.setIfInBounds_toArray, List.set_cons_zero, List.set_cons_succ]
      refine take_D (i := 8) (v := ?_) rfl rfl rfl (by kernel_rfl) (by kernel_rfl) (by kernel_rfl) (by kernel_rfl) (by kernel_rfl) ((Ext.refl wr).drew) ?hy8 ?_
      case hy8 => intro wz hSw; (try dsimp only at hSw); go_simp <;> with_reducible rfl
      simp only [List.setIfInBounds_toArray, List.set_cons_zero, List.set_cons_succ]
      refine take_D (i := 9) (v := ?_) rfl rfl rfl (by kernel_rfl) (by kernel_rfl) (by kernel_rfl) (by kernel_rfl) (by kernel_rfl) ((Ext.refl wr).drew) ?hy9 ?_
      case hy9 => intro wz hSw; (try dsimp only at hSw); go_simp <;> with_reducible rfl
      simp only [List.setIfInBounds_toArray, List.set_cons_zero, List.set_cons_succ]
      refine take_D (i := 10) (v := ?_) rfl rfl rfl (by kernel_rfl) (by kernel_rfl) (by kernel_rfl) (by kernel_rfl) (by kernel_rfl) ((Ext.refl wr).drew) ?hy10 ?_
      case hy10 => intro wz hSw; (try dsimp only at hSw); go_simp <;> with_reducible rfl
      simp only [List.setIfInBounds_toArray, List.set_cons_zero, List.set_cons_succ]
      refine take_D (i := 11) (v := ?_) rfl rfl rfl (by kernel_rfl) (by kernel_rfl) (by kernel_rfl) (by kernel_rfl) (by kernel_rfl) ((Ext.refl wr).drew) ?hy11 ?_
      case hy11 => intro wz hSw; (try dsimp only at hSw); go_simp <;> with_reducible rfl
      simp only [List.setIfInBounds_toArray, List.set_cons_zero, List.set_cons_succ]
      refine take_D (i := 12) (v := ?_) rfl rfl rfl (by kernel_rfl) (by kernel_rfl) (by kernel_rfl) (by kernel_rfl) (by kernel_rfl) ((Ext.refl wr).drew) ?hy12 ?_
      case hy12 => intro wz hSw; (try dsimp only at hSw); go_simp <;> with_reducible rfl
      simp only [List.setIfInBounds_toArray, List.set_cons_zero, List.set_cons_succ]
      refine last_D (n := 13) rfl rfl (fun j hj => by simp; omega) (by kernel_rfl) ?_
      clear F6 F7 FC q6 q7 fc
      go_wp2
      refine ⟨((Ext.refl wr).drew).alloc _, ?_⟩
      have HRA := Lib.hid (HR.out.ext (((Ext.refl wr).drew).alloc (.cells #[.int .u64 (F k)] 22)))
      have HXA := Lib.hid (HX.out.trans (((Ext.refl wr).drew).alloc (.cells #[.int .u64 (F k)] 22)))
      refine wpList_append_own_at _ rfl _ _ 52 rfl w.heap.size 22 i0 (.int .u64 0) 1 8 Tryz.underlying52 hi hz0 hz1 hz2 rfl (by decide) hv k (rowU F k) rfl HRA.out.row ⟨wr.heap.size, 0, none⟩ 1 1 [.int .u64 (F k)] rfl rfl ?c1 ?c2 ?c3 ?c4 ?c5 ?_
      case c1 =>
        intro j u hu
        match j, hu with
        | 0, hu => simp at hu; subst hu; simp [go_sem, Addr.add]
        | j + 1, hu => simp at hu
      case c2 => intro u hu; simp at hu; subst hu; rfl
      case c3 => unfold maxLen; omega
      case c4 => omega
      case c5 => exact HXA.out.size
      intro v' w5 h1 h2 _ h4
      have HRS := Lib.hid (HRA.out.step h1 h2 h4)
      obtain ⟨g7, gz7⟩ := HRA.out.grown h2
      have HXS := Lib.hid ((HXA.out.grown h2 (fun j hj => (HRA.out.row.lt j hj).1)).setCell (p := ⟨w2.heap.size, 7, none⟩) hb v')
      obtain ⟨a', n', c', ev'⟩ : ∃ a n c, v' = .slice a n c := by
        rcases h1.2 with ⟨e1, _⟩ | ⟨g', cap', cur, e1, _⟩
        · exact ⟨_, _, _, e1⟩
        · exact ⟨_, _, _, e1⟩
      subst ev'
      clear h1 h2 h4 HR HX HRA HXA
      generalize F k = o at *
      go_wp2
      refine off_normal ?_
      go_wp2
      exact ⟨⟨k + 1, by omega, by go_num, HXS.out, _, HRS.out⟩, by simp [intOf]; omega⟩
    · obtain rfl : k = m := by omega
      have HG2 := Lib.hid (HG.out _ gc cc hv wr hR hx hb)
      clear hx hR
      go_wp2
      exact HG2.out
theorem rNew12 (V W C P S : Int) (a : Option Addr) (n cap m : Nat) (w : World) (hok : NumOk V n C) (hW : W = 32 ∨ W = 64) (hC : rightB C = true) (hS0 : 0 ≤ S) (hm : (m : Int) = nCe V n C) :
    Calls Tryz.prog 19 #[(.agg #[.int .i64 V, .int .i64 W, .int .i64 C, .int .i64 P, .int .u64 (S), .slice a n cap])] w (RNewDoes V W C P S n m w) :=
  (rNew12b V W C P S a n cap m w hok hW hC hS0 hm).mono (by
    rintro e w' ⟨b, y, h1, h2, h3, h4, h5, h6, h7, h8, h9, -⟩
    exact ⟨b, y, h1, h2, h3, h4, h5, h6, h7, h8, h9⟩)
end Go.Proofs.YtkmfamidahlgiaaGreatDoor
/- Each access finds what the last one of the same cell left. No program in sight. -/
namespace Go.Proofs.YtkmfamidahlgiaaGreatDoor
open Go.RowKit
set_option linter.unusedVariables false
set_option linter.unusedSimpArgs false
set_option maxHeartbeats 1000000
/-- what the last one of a cell left -/
def lastN (v0 : Int) (l : List Acc) (c : Int) : Int := l.foldl (fun h x => if x.c = c then x.n else h) v0
theorem lastN_snoc (v0 : Int) (l : List Acc) (x : Acc) (c : Int) : lastN v0 (l ++ [x]) c = if x.c = c then x.n else lastN v0 l c := by
  unfold lastN
  rw [List.foldl_append]
  rfl
/-- one access more, or none -/
theorem stp_form (y : LY) (W : Int) (hW : W = 32 ∨ W = 64) (d : DoR) (f : Nat → Int) (l : List Acc) (fr : ∀ i, i < y.m → 0 ≤ f i ∧ f i < 18446744073709551616) (z0 : 0 ≤ d.z) (z1 : d.z < 18446744073709551616) :
    ((stp y W d f l).f = f ∧ (stp y W d f l).l = l) ∨ ∃ (t k : Int) (c : Nat) (z : Int), c < y.m ∧ 0 ≤ z ∧ z < 18446744073709551616 ∧ (stp y W d f l).f = upd f c z ∧ (stp y W d f l).l = l ++ [⟨t, k, c, f c, z⟩] := by
  have cz : 0 ≤ cutS W d.z ∧ cutS W d.z < 18446744073709551616 := by unfold cutS; split <;> omega
  have pz : ∀ x n, 0 ≤ plusW W x n ∧ plusW W x n < 18446744073709551616 := fun x n => by
    unfold plusW
    split
    · omega
    · exact U64_range _
  have look : ∀ kind ak, kind ≠ 0 → ((lookS y W kind ak d f l).f = f ∧ (lookS y W kind ak d f l).l = l) ∨ ∃ (t k : Int) (c : Nat) (z : Int), c < y.m ∧ 0 ≤ z ∧ z < 18446744073709551616 ∧ (lookS y W kind ak d f l).f = upd f c z ∧ (lookS y W kind ak d f l).l = l ++ [⟨t, k, c, f c, z⟩] := by
    intro kind ak h0
    unfold lookS
    by_cases hk : kd y d.c = kind
    · rw [if_pos hk]
      obtain ⟨c0, c1⟩ := kd_in (y := y) (c := d.c) (by rw [hk]; exact h0)
      have hc : d.c.toNat < y.m := by omega
      have e : ((d.c.toNat : Nat) : Int) = d.c := by omega
      exact .inr ⟨d.t, ak, d.c.toNat, f d.c.toNat, hc, (fr _ hc).1, (fr _ hc).2, (upd_same f _).symm, by rw [e]⟩
    · rw [if_neg hk]; exact .inl ⟨rfl, rfl⟩
  have put : ∀ kind ak, kind ≠ 0 → ((putS y W kind ak d f l).f = f ∧ (putS y W kind ak d f l).l = l) ∨ ∃ (t k : Int) (c : Nat) (z : Int), c < y.m ∧ 0 ≤ z ∧ z < 18446744073709551616 ∧ (putS y W kind ak d f l).f = upd f c z ∧ (putS y W kind ak d f l).l = l ++ [⟨t, k, c, f c, z⟩] := by
    intro kind ak h0
    unfold putS
    by_cases hk : kd y d.c = kind
    · rw [if_pos hk]
      obtain ⟨c0, c1⟩ := kd_in (y := y) (c := d.c) (by rw [hk]; exact h0)
      have hc : d.c.toNat < y.m := by omega
      have e : ((d.c.toNat : Nat) : Int) = d.c := by omega
      exact .inr ⟨d.t, ak, d.c.toNat, cutS W d.z, hc, cz.1, cz.2, rfl, by rw [e]⟩
    · rw [if_neg hk]; exact .inl ⟨rfl, rfl⟩
  unfold stp
  by_cases k1 : d.k = 1
  · rw [if_pos k1]; exact look 1 1 (by decide)
  rw [if_neg k1]
  by_cases k2 : d.k = 2
  · rw [if_pos k2]; exact put 1 2 (by decide)
  rw [if_neg k2]
  by_cases k3 : d.k = 3
  · rw [if_pos k3]
    unfold addS
    by_cases hk : kd y d.c = 1
    · rw [if_pos hk]
      obtain ⟨c0, c1⟩ := kd_in (y := y) (c := d.c) (by rw [hk]; decide)
      have hc : d.c.toNat < y.m := by omega
      have e : ((d.c.toNat : Nat) : Int) = d.c := by omega
      exact .inr ⟨d.t, 3, d.c.toNat, _, hc, (pz _ _).1, (pz _ _).2, rfl, by rw [e]⟩
    · rw [if_neg hk]; exact .inl ⟨rfl, rfl⟩
  rw [if_neg k3]
  by_cases k4 : d.k = 4
  · rw [if_pos k4]
    unfold swapS
    by_cases hk : kd y d.c = 1
    · rw [if_pos hk]
      obtain ⟨c0, c1⟩ := kd_in (y := y) (c := d.c) (by rw [hk]; decide)
      have hc : d.c.toNat < y.m := by omega
      have e : ((d.c.toNat : Nat) : Int) = d.c := by omega
      by_cases ho : cutS W (f d.c.toNat) = cutS W d.o
      · rw [if_pos ho]
        exact .inr ⟨d.t, 4, d.c.toNat, cutS W d.z, hc, cz.1, cz.2, rfl, by rw [e]⟩
      · rw [if_neg ho]
        exact .inr ⟨d.t, 5, d.c.toNat, f d.c.toNat, hc, (fr _ hc).1, (fr _ hc).2, (upd_same f _).symm, by rw [e]⟩
    · rw [if_neg hk]; exact .inl ⟨rfl, rfl⟩
  rw [if_neg k4]
  by_cases k6 : d.k = 6
  · rw [if_pos k6]; exact look 2 6 (by decide)
  rw [if_neg k6]
  by_cases k7 : d.k = 7
  · rw [if_pos k7]; exact put 2 7 (by decide)
  rw [if_neg k7]
  by_cases k8 : d.k = 8
  · rw [if_pos k8]
    unfold getS
    by_cases hk : kd y (plc y.Sl y.C d.c) = 3
    · rw [if_pos hk]
      obtain ⟨c0, c1⟩ := kd_in (y := y) (c := plc y.Sl y.C d.c) (by rw [hk]; decide)
      have hc : (plc y.Sl y.C d.c).toNat < y.m := by omega
      have e : (((plc y.Sl y.C d.c).toNat : Nat) : Int) = plc y.Sl y.C d.c := by omega
      exact .inr ⟨d.t, 6, (plc y.Sl y.C d.c).toNat, _, hc, (fr _ hc).1, (fr _ hc).2, (upd_same f _).symm, by rw [e]⟩
    · rw [if_neg hk]; exact .inl ⟨rfl, rfl⟩
  rw [if_neg k8]
  by_cases k9 : d.k = 9
  · rw [if_pos k9]
    unfold setS
    by_cases hk : kd y (plc y.Sl y.C d.c) = 3
    · rw [if_pos hk]
      obtain ⟨c0, c1⟩ := kd_in (y := y) (c := plc y.Sl y.C d.c) (by rw [hk]; decide)
      have hc : (plc y.Sl y.C d.c).toNat < y.m := by omega
      have e : (((plc y.Sl y.C d.c).toNat : Nat) : Int) = plc y.Sl y.C d.c := by omega
      exact .inr ⟨d.t, 7, (plc y.Sl y.C d.c).toNat, _, hc, (U64_range _).1, (U64_range _).2, rfl, by rw [e]⟩
    · rw [if_neg hk]; exact .inl ⟨rfl, rfl⟩
  · rw [if_neg k9]; exact .inl ⟨rfl, rfl⟩
/-- how cells and accesses stand to each other -/
structure Chain (m : Nat) (F f : Nat → Int) (l : List Acc) : Prop where
  rng : ∀ i, i < m → 0 ≤ f i ∧ f i < 18446744073709551616
  cur : ∀ i, i < m → f i = lastN (F i) l i
  old : ∀ i, (hi : i < l.length) → ∃ c : Nat, c < m ∧ l[i].c = c ∧ l[i].o = lastN (F c) (l.take i) c
theorem Chain.step {m : Nat} {F f : Nat → Int} {l : List Acc} (h : Chain m F f l) {t k : Int} {c : Nat} {z : Int} (hc : c < m) (z0 : 0 ≤ z) (z1 : z < 18446744073709551616) : Chain m F (upd f c z) (l ++ [⟨t, k, c, f c, z⟩]) := by
  refine ⟨fun i hi => ?_, fun i hi => ?_, fun i hi => ?_⟩
  · unfold upd
    by_cases e : i = c
    · rw [if_pos e]; exact ⟨z0, z1⟩
    · rw [if_neg e]; exact h.rng i hi
  · rw [lastN_snoc]
    unfold upd
    by_cases e : i = c
    · rw [if_pos e, if_pos (by simp [e])]
    · rw [if_neg e, if_neg (by simp; omega)]
      exact h.cur i hi
  · rw [List.length_append] at hi
    simp at hi
    by_cases hil : i < l.length
    · obtain ⟨c', a, b, d⟩ := h.old i hil
      rw [List.getElem_append_left hil, List.take_append_of_le_length (by omega)]
      exact ⟨c', a, b, d⟩
    · have : i = l.length := by omega
      subst this
      refine ⟨c, hc, by simp, ?_⟩
      rw [List.getElem_append_right (Nat.le_refl _), List.take_append_of_le_length (Nat.le_refl _), List.take_length]
      simpa using h.cur c hc
theorem Chain.nil {m : Nat} {F : Nat → Int} (h : ∀ i, i < m → 0 ≤ F i ∧ F i < 18446744073709551616) : Chain m F F [] := ⟨h, fun _ _ => rfl, fun i hi => by simp at hi⟩
theorem stp_len (y : LY) (W : Int) (hW : W = 32 ∨ W = 64) (d : DoR) (f : Nat → Int) (l : List Acc) (fr : ∀ i, i < y.m → 0 ≤ f i ∧ f i < 18446744073709551616) (z0 : 0 ≤ d.z) (z1 : d.z < 18446744073709551616) : (stp y W d f l).l.length ≤ l.length + 1 := by
  rcases stp_form y W hW d f l fr z0 z1 with ⟨_, e⟩ | ⟨t, k, c, z, _, _, _, _, e⟩
  · rw [e]; omega
  · rw [e]; simp
theorem Chain.stp {y : LY} {F f : Nat → Int} {l : List Acc} (h : Chain y.m F f l) (W : Int) (hW : W = 32 ∨ W = 64) (d : DoR) (z0 : 0 ≤ d.z) (z1 : d.z < 18446744073709551616) : Chain y.m F (Go.Proofs.YtkmfamidahlgiaaGreatDoor.stp y W d f l).f (Go.Proofs.YtkmfamidahlgiaaGreatDoor.stp y W d f l).l := by
  rcases stp_form y W hW d f l h.rng z0 z1 with ⟨e1, e2⟩ | ⟨t, k, c, z, hc, a, b, e1, e2⟩
  · rw [e1, e2]; exact h
  · rw [e1, e2]; exact h.step hc a b
/-- what cells have at first fits -/
theorem fst_rng {W C S : Int} (hW : W = 32 ∨ W = 64) (hC : rightB C = true) (h0 : 0 ≤ S) (h1 : S < 18446744073709551616) (k i : Int) : 0 ≤ fst W C S k i ∧ fst W C S k i < 18446744073709551616 := by
  have hc : 0 ≤ cutS W S ∧ cutS W S < 18446744073709551616 := by unfold cutS; split <;> omega
  unfold fst
  split
  · exact hc
  · split
    · unfold aheadR
      rcases hW with rfl | rfl
      · rw [if_pos rfl]
        have := ahead_bound32 (cutS 32 S + (i - cutS 32 S) % C - C) hC
        omega
      · rw [if_neg (by decide)]
        exact ahead_bound64 _ hC
    · split
      · unfold firstR
        rcases hW with rfl | rfl
        · rw [if_pos rfl]; omega
        · rw [if_neg (by decide)]; exact first_bound64 _
      · omega
end Go.Proofs.YtkmfamidahlgiaaGreatDoor
/- The two boards beside each other; the document's Cost. -/
namespace Go.Proofs.YtkmfamidahlgiaaGreatDoor
open Go.RowKit
set_option linter.unusedVariables false
set_option linter.unusedSimpArgs false
set_option maxHeartbeats 2000000
attribute [local go_sem] later_cell later_frozen later_const
theorem rel_of {V W C P S : Int} {bo n m : Nat} {r : RY} (hok : NumOk V n C) (hm : (m : Int) = nCe V n C) (h1 : r.m = m) (h2 : r.W = W) (h3 : r.C = C) (h4 : ∀ c : Nat, c < m → r.kf c = pKind (useN V n C c).1.toNat) : Rel (yOf V W C P S bo n m) r W := by
  have hb := num_bounds hok
  have h6 := hok.c64
  have h5 := hok.c2
  have hn := hok.n0
  have hce : nCe V n C = nSl V n C + C := rfl
  have hns : (n : Int) ≤ nSl V n C := by
    have := hok.v1
    have := hok.v5
    unfold nSl
    split
    · omega
    · split <;> omega
  refine ⟨h1, h2, h3, fun c hc => by rw [yOf_kd hm]; exact h4 c hc, ?_, ?_, ?_, ?_, fun s s0 s1 => ?_⟩
  · show nSl V n C + C = m
    omega
  · show 0 ≤ nSl V n C
    omega
  · show 0 ≤ C
    omega
  · show m ≤ 1000
    omega
  · rw [yOf_kd hm]
    have s1' : s < C := s1
    show pKind (useN V n C (nSl V n C + s)).1.toNat = 3
    unfold useN useL
    rw [if_neg (by omega), if_neg (by omega), if_pos (by omega)]
    rfl
theorem nar64 (y : LY) (f : Nat → Int) : Nar y 64 f := fun c _ _ => rfl
theorem nar_upd {y : LY} {W : Int} {f : Nat → Int} (h : Nar y W f) (c : Nat) (z : Int) (hz : kd y c ≠ 3 → cutS W z = z) : Nar y W (upd f c z) := by
  intro i hi hk
  unfold upd
  by_cases e : i = c
  · subst e
    rw [if_pos rfl]
    exact hz hk
  · rw [if_neg e]
    exact h i hi hk
theorem cut_cut (W x : Int) : cutS W (cutS W x) = cutS W x := by
  unfold cutS
  split
  · omega
  · rfl
theorem cut_plus (W x n : Int) : cutS W (plusW W x n) = plusW W x n := by
  unfold cutS plusW
  split
  · omega
  · rfl
theorem Nar.stp {y : LY} {W : Int} {f : Nat → Int} (h : Nar y W f) (d : DoR) (l : List Acc) : Nar y W (Go.Proofs.YtkmfamidahlgiaaGreatDoor.stp y W d f l).f := by
  unfold Go.Proofs.YtkmfamidahlgiaaGreatDoor.stp
  by_cases k1 : d.k = 1
  · rw [if_pos k1]
    unfold lookS
    split
    · exact h
    · exact h
  rw [if_neg k1]
  by_cases k2 : d.k = 2
  · rw [if_pos k2]
    unfold putS
    split
    · exact nar_upd h _ _ (fun _ => cut_cut _ _)
    · exact h
  rw [if_neg k2]
  by_cases k3 : d.k = 3
  · rw [if_pos k3]
    unfold addS
    split
    · exact nar_upd h _ _ (fun _ => cut_plus _ _ _)
    · exact h
  rw [if_neg k3]
  by_cases k4 : d.k = 4
  · rw [if_pos k4]
    unfold swapS
    split
    · split
      · exact nar_upd h _ _ (fun _ => cut_cut _ _)
      · exact h
    · exact h
  rw [if_neg k4]
  by_cases k6 : d.k = 6
  · rw [if_pos k6]
    unfold lookS
    split
    · exact h
    · exact h
  rw [if_neg k6]
  by_cases k7 : d.k = 7
  · rw [if_pos k7]
    unfold putS
    split
    · exact nar_upd h _ _ (fun _ => cut_cut _ _)
    · exact h
  rw [if_neg k7]
  by_cases k8 : d.k = 8
  · rw [if_pos k8]
    unfold getS
    split
    · exact h
    · exact h
  rw [if_neg k8]
  by_cases k9 : d.k = 9
  · rw [if_pos k9]
    unfold setS
    split
    · rename_i hk
      refine nar_upd h _ _ (fun hn => absurd ?_ hn)
      have := kd_in (y := y) (c := plc y.Sl y.C d.c) (by rw [hk]; decide)
      rw [show (((plc y.Sl y.C d.c).toNat : Nat) : Int) = plc y.Sl y.C d.c by omega]
      exact hk
    · exact h
  rw [if_neg k9]
  exact h
theorem fst_rng32 {C S : Int} (hC : rightB C = true) (k i : Int) : 0 ≤ fst 32 C S k i ∧ fst 32 C S k i < 4294967296 := by
  unfold fst
  split
  · unfold cutS; rw [if_pos rfl]; omega
  · split
    · unfold aheadR
      rw [if_pos rfl]
      exact ahead_bound32 _ hC
    · split
      · unfold firstR
        rw [if_pos rfl]; omega
      · omega
theorem nar_first {V C S P : Int} {bo n m : Nat} (hC : rightB C = true) : Nar (yOf V 32 C P S bo n m) 32 (fsC V 32 C S n) := by
  intro c _ _
  have := fst_rng32 (S := S) hC (useN V n C c).1 (useN V n C c).2
  unfold cutS fsC
  rw [if_pos rfl]
  omega
/-- the program's board and the document's, beside each other -/
structure Two (w0 w : World) (bt b g : Nat) (y : LY) (f : Nat → Int) (lv : Value) (log : List Acc) (b' : Nat) (r : RY) (f' : Nat → Int) (lv' : Value) (log' : List Acc) : Prop where
  B : BD w bt b g y f lv log
  R : RB w b' r f' lv' log'
  ap : ∀ k, Own b g lv k → ¬ Own b' r.gh lv' k
  ex : Ext w0 w
  ob : ∀ k, Own b g lv k → w0.heap.size ≤ k
  od : ∀ k, Own b' r.gh lv' k → w0.heap.size ≤ k
theorem Two.gc {w0 w : World} {bt b g : Nat} {y : LY} {f : Nat → Int} {lv : Value} {log : List Acc} {b' : Nat} {r : RY} {f' : Nat → Int} {lv' : Value} {log' : List Acc} (h : Two w0 w bt b g y f lv log b' r f' lv' log') (hbt : bt ≠ 124) : ¬ Own b g lv r.gc := by
  rintro (e | e | e)
  · exact tag_ne h.R.tc h.B.tb (Ne.symm hbt) e
  · exact tag_ne h.R.tc h.B.tg (by decide) e
  · exact tag_ne h.R.tc (row_tagA h.B.row e) (by decide) rfl
theorem Two.stepB {w0 w w5 : World} {bt b g : Nat} {y : LY} {f f2 : Nat → Int} {lv lv5 : Value} {log log2 : List Acc} {b' : Nat} {r : RY} {f' : Nat → Int} {lv' : Value} {log' : List Acc} (h : Two w0 w bt b g y f lv log b' r f' lv' log') (hbt : bt ≠ 124)
    (B5 : BD w5 bt b g y f2 lv5 log2) (hb : But (Own b g lv) w w5) (hat : lv5.ownBlock = lv.ownBlock ∨ ∃ j, lv5.ownBlock = some j ∧ w.heap.size ≤ j) : Two w0 w5 bt b g y f2 lv5 log2 b' r f' lv' log' := by
  refine ⟨B5, h.R.but hb (fun k hk hk2 => h.ap k hk2 hk) (h.gc hbt), fun k hk hk2 => ?_, But.ext h.ex hb h.ob, fun k hk => ?_, h.od⟩
  · rcases hk with e | e | e
    · exact h.ap k (.inl e) hk2
    · exact h.ap k (.inr (.inl e)) hk2
    · rcases hat with e' | ⟨j, e', hj⟩
      · exact h.ap k (.inr (.inr (by rw [← e']; exact e))) hk2
      · rw [e'] at e
        cases e
        have := h.R.lt hk2
        omega
  · rcases hk with e | e | e
    · exact h.ob k (.inl e)
    · exact h.ob k (.inr (.inl e))
    · rcases hat with e' | ⟨j, e', hj⟩
      · exact h.ob k (.inr (.inr (by rw [← e']; exact e)))
      · rw [e'] at e
        cases e
        exact Nat.le_trans h.ex.size hj
theorem Two.stepR {w0 w w5 : World} {bt b g : Nat} {y : LY} {f : Nat → Int} {lv : Value} {log : List Acc} {b' : Nat} {r : RY} {f' f2 : Nat → Int} {lv' lv5 : Value} {log' log2 : List Acc} (h : Two w0 w bt b g y f lv log b' r f' lv' log')
    (R5 : RB w5 b' r f2 lv5 log2) (hb : But (Own b' r.gh lv') w w5) (hat : lv5.ownBlock = lv'.ownBlock ∨ ∃ j, lv5.ownBlock = some j ∧ w.heap.size ≤ j) : Two w0 w5 bt b g y f lv log b' r f2 lv5 log2 := by
  refine ⟨h.B.but hb (fun k hk => h.ap k hk), R5, fun k hk2 hk => ?_, But.ext h.ex hb h.od, h.ob, fun k hk => ?_⟩
  · rcases hk with e | e | e
    · exact h.ap k hk2 (.inl e)
    · exact h.ap k hk2 (.inr (.inl e))
    · rcases hat with e' | ⟨j, e', hj⟩
      · exact h.ap k hk2 (.inr (.inr (by rw [← e']; exact e)))
      · rw [e'] at e
        cases e
        have := h.B.lt hk2
        omega
  · rcases hk with e | e | e
    · exact h.od k (.inl e)
    · exact h.od k (.inr (.inl e))
    · rcases hat with e' | ⟨j, e', hj⟩
      · exact h.od k (.inr (.inr (by rw [← e']; exact e)))
      · rw [e'] at e
        cases e
        exact Nat.le_trans h.ex.size hj
theorem Two.ext {w0 w w5 : World} {bt b g : Nat} {y : LY} {f : Nat → Int} {lv : Value} {log : List Acc} {b' : Nat} {r : RY} {f' : Nat → Int} {lv' : Value} {log' : List Acc} (h : Two w0 w bt b g y f lv log b' r f' lv' log') (hx : Ext w w5) : Two w0 w5 bt b g y f lv log b' r f' lv' log' :=
  ⟨h.B.ext hx, h.R.ext hx, h.ap, h.ex.trans hx, h.ob, h.od⟩
/-- the first behind its New, the second behind its New -/
theorem two_new {w0 w3 w4 : World} {bt b g : Nat} {y : LY} {f : Nat → Int} {b' : Nat} {r : RY} (hB : BD w3 bt b g y f (.slice none 0 0) []) (X0 : Ext w0 w3) (hb : w0.heap.size ≤ b) (hg : w0.heap.size ≤ g) (hR : RB w4 b' r f (.slice none 0 0) []) (X3 : Ext w3 w4) (hb' : w3.heap.size ≤ b') (hg' : w3.heap.size ≤ r.gh) : Two w0 w4 bt b g y f (.slice none 0 0) [] b' r f (.slice none 0 0) [] := by
  refine ⟨hB.ext X3, hR, fun k hk hk2 => ?_, X0.trans X3, ownGe hb hg, fun k hk => Nat.le_trans X0.size (ownGe hb' hg' k hk)⟩
  have h1 := hB.lt hk
  have h2 := ownGe hb' hg' k hk2
  omega
end Go.Proofs.YtkmfamidahlgiaaGreatDoor
/- New of the other width, Len, Layout, the document's Same; lists kept beside the two boards. -/
namespace Go.Proofs.YtkmfamidahlgiaaGreatDoor
open Go.RowKit
set_option linter.unusedVariables false
set_option linter.unusedSimpArgs false
set_option maxHeartbeats 2000000
attribute [local go_sem] later_cell later_frozen later_const
theorem tag_cells {w : World} {b t : Nat} (h : Tag w b t) (h1 : t ≠ 35) (h2 : t ≠ 3) : ∃ cur e fz, w.heap[b]? = some (.cells cur e fz) ∧ e ≠ 35 ∧ e ≠ 3 := by
  obtain ⟨cur, hh⟩ := h
  exact ⟨cur, t, _, hh, h1, h2⟩
theorem BD.own {w : World} {bt b g : Nat} {y : LY} {f : Nat → Int} {lv : Value} {log : List Acc} (h : BD w bt b g y f lv log) (h1 : bt ≠ 35) (h2 : bt ≠ 3) : ∀ k, Own b g lv k → k < w.heap.size → ∃ cur e fz, w.heap[k]? = some (.cells cur e fz) ∧ e ≠ 35 ∧ e ≠ 3 := by
  intro k hk _
  rcases hk with rfl | rfl | hk
  · exact tag_cells h.tb h1 h2
  · exact tag_cells h.tg (by decide) (by decide)
  · exact tag_cells (row_tagA h.row hk) (by decide) (by decide)
theorem RB.own {w : World} {b : Nat} {y : RY} {f : Nat → Int} {lv : Value} {log : List Acc} (h : RB w b y f lv log) : ∀ k, Own b y.gh lv k → k < w.heap.size → ∃ cur e fz, w.heap[k]? = some (.cells cur e fz) ∧ e ≠ 35 ∧ e ≠ 3 := by
  intro k hk _
  rcases hk with rfl | rfl | hk
  · exact tag_cells h.tb (by decide) (by decide)
  · exact tag_cells h.th (by decide) (by decide)
  · exact tag_cells (row_tagA h.row hk) (by decide) (by decide)
set_option maxRecDepth 100000 in
theorem rSame12 (b1 b2 : Nat) (v v' : Value) (l : List Acc) (w : World) (h : w.ownsRow b1 173 5 v l.length (rowA l)) (h' : w.ownsRow b2 173 5 v' l.length (rowA l)) (hl : l.length ≤ 1000) :
    Calls Tryz.prog 60 #[v, v'] w fun e w' => e = .returned (.bool true) ∧ Ext w w' := by
  obtain ⟨a, cap, e, -⟩ := rowA_form h
  subst e
  obtain ⟨a', cap', e, -⟩ := rowA_form h'
  subst e
  have HR := Lib.hid h
  have HR' := Lib.hid h'
  obtain ⟨n, hn⟩ : ∃ n, n = l.length := ⟨_, rfl⟩
  have HN := Lib.hid hn
  rw [← hn] at hl ⊢
  clear h h' hn
  go_enter Tryz.func60, Tryz.ntmps60
  go_wp2
  go_loopw [5] (fun i wr => ∃ k : Nat, k ≤ n ∧ i = .int .i64 k ∧ Ext w wr) (fun i _ => n - (intOf i).toNat)
  case atStart => exact ⟨0, Nat.zero_le _, rfl, Ext.refl _⟩
  case round =>
    obtain ⟨k, hk, rfl, hx⟩ := hrel
    by_cases hlt : k < n
    · have hkn : (k : Int) < (n : Int) := by omega
      have hkl : k < l.length := by have := HN.out; omega
      obtain ⟨g, ea, r0, r1, r2, r3, r4⟩ := rowA_cell HR.out hkl
      obtain ⟨g', ea', s0, s1, s2, s3, s4⟩ := rowA_cell HR'.out hkl
      subst ea ea'
      generalize l[k] = q at *
      have HX := Lib.hid hx
      have c0 := hx.cell r0
      have c1 := hx.cell r1
      have c2 := hx.cell r2
      have c3 := hx.cell r3
      have c4 := hx.cell r4
      have d0 := hx.cell s0
      have d1 := hx.cell s1
      have d2 := hx.cell s2
      have d3 := hx.cell s3
      have d4 := hx.cell s4
      clear hkl r0 r1 r2 r3 r4 s0 s1 s2 s3 s4 hx
      go_upto_region 6 with (fail)
      refine wp_region_later (by kernel_rfl) (by kernel_rfl) ?_
      have l0 := fun (g : Later wr) => g.ok.cell c0
      have l1 := fun (g : Later wr) => g.ok.cell c1
      have l2 := fun (g : Later wr) => g.ok.cell c2
      have l3 := fun (g : Later wr) => g.ok.cell c3
      have l4 := fun (g : Later wr) => g.ok.cell c4
      have m0 := fun (g : Later wr) => g.ok.cell d0
      have m1 := fun (g : Later wr) => g.ok.cell d1
      have m2 := fun (g : Later wr) => g.ok.cell d2
      have m3 := fun (g : Later wr) => g.ok.cell d3
      have m4 := fun (g : Later wr) => g.ok.cell d4
      repeat (go_big_quiet_step ((fail)))
      refine wpQuiet_nil ?_
      intro w3 hl3
      have HX3 := Lib.hid (HX.out.trans (laters_ext hl3))
      clear hl3 l0 l1 l2 l3 l4 m0 m1 m2 m3 m4 c0 c1 c2 c3 c4 d0 d1 d2 d3 d4
      go_wp2
      exact ⟨⟨k + 1, by omega, by go_num, HX3.out⟩, by simp [intOf]; omega⟩
    · obtain rfl : k = n := by omega
      have HX := Lib.hid hx
      clear hx
      go_wp2
      go_ret
      exact ⟨rfl, HX.out⟩
set_option maxRecDepth 100000 in
theorem New32_other (V C P S : Int) (a : Option Addr) (cap : Nat) (ups : List (List Int)) (xu xl xt xs xn xm xo : Int) (m : Nat) (w : World) (hL : ListsV w (.slice a ups.length cap) ups) (hll : ∀ l ∈ ups, l.length ≤ 1000000) (hn : ups.length ≤ 1000000) (hg : ckC V 64 C P ups = 0) (hm : (m : Int) = nCe V ups.length C) :
    Calls Tryz.prog 18 #[(.agg #[.int .i64 V, .int .i64 64, .int .i64 C, .int .i64 P, .int .u64 S, .slice a ups.length cap, .int .i64 xu, .int .i64 xl, .int .i64 xt, .int .i64 xs, .int .i64 xn, .int .i64 xm, .int .i64 xo, .int .i64 m])] w fun e w' => e = .returned (.pointer none) ∧ Ext w w' := by
  obtain ⟨n, hn0⟩ : ∃ n, n = ups.length := ⟨_, rfl⟩
  have CO := fun w' (hx : Ext w w') => lOf_ok V 64 C P S _ ups w' (hL.ext hx) hll hn hg
  rw [← hn0] at CO hm ⊢
  obtain ⟨Cu, hCu⟩ : ∃ x, x = nCu V n := ⟨_, rfl⟩
  obtain ⟨Cl, hCl⟩ : ∃ x, x = nCl V n := ⟨_, rfl⟩
  obtain ⟨Ti, hTi⟩ : ∃ x, x = nTi V n := ⟨_, rfl⟩
  obtain ⟨Se, hSe⟩ : ∃ x, x = nSe V n := ⟨_, rfl⟩
  obtain ⟨Ne, hNe⟩ : ∃ x, x = nNe V n := ⟨_, rfl⟩
  obtain ⟨Ma, hMa⟩ : ∃ x, x = nMa V n := ⟨_, rfl⟩
  obtain ⟨Sl, hSl⟩ : ∃ x, x = nSl V n C := ⟨_, rfl⟩
  have hLay : ∀ u, layV V 64 C P S u n = (.agg #[.int .i64 V, .int .i64 64, .int .i64 C, .int .i64 P, .int .u64 S, u, .int .i64 Cu, .int .i64 Cl, .int .i64 Ti, .int .i64 Se, .int .i64 Ne, .int .i64 Ma, .int .i64 Sl, .int .i64 m]) := fun u => by unfold layV; rw [hCu, hCl, hTi, hSe, hNe, hMa, hSl, hm]
  have HLAY := Lib.hid hLay
  have HCO := Lib.hid CO
  have HN0 := Lib.hid hn0
  clear CO hL hll hg hn hLay hCu hCl hTi hSe hNe hMa hSl hm hn0
  go_enter Tryz.func18, Tryz.ntmps18
  go_wp2_with fail
  refine (HCO.out _ ((Ext.refl w).alloc _)).mono ?_
  rintro e wo ⟨uo, rfl, Oo, Xo⟩
  obtain ⟨bo, fo, cuo, eo, -⟩ := id Oo
  rw [← HN0.out] at eo ⊢
  subst eo
  rw [HLAY.out]
  have qa_0 : wo.cell? ⟨w.heap.size, 0, none⟩ = some (.int .i64 V) := Xo.cell (by simp [go_sem])
  have qa_1 : wo.cell? ⟨w.heap.size, 1, none⟩ = some (.int .i64 64) := Xo.cell (by simp [go_sem])
  have qa_2 : wo.cell? ⟨w.heap.size, 2, none⟩ = some (.int .i64 C) := Xo.cell (by simp [go_sem])
  have qa_3 : wo.cell? ⟨w.heap.size, 3, none⟩ = some (.int .i64 P) := Xo.cell (by simp [go_sem])
  have qa_4 : wo.cell? ⟨w.heap.size, 4, none⟩ = some (.int .u64 S) := Xo.cell (by simp [go_sem])
  have qa_5 : wo.cell? ⟨w.heap.size, 5, none⟩ = some (.slice a n cap) := Xo.cell (by simp [go_sem])
  have qa_6 : wo.cell? ⟨w.heap.size, 6, none⟩ = some (.int .i64 xu) := Xo.cell (by simp [go_sem])
  have qa_7 : wo.cell? ⟨w.heap.size, 7, none⟩ = some (.int .i64 xl) := Xo.cell (by simp [go_sem])
  have qa_8 : wo.cell? ⟨w.heap.size, 8, none⟩ = some (.int .i64 xt) := Xo.cell (by simp [go_sem])
  have qa_9 : wo.cell? ⟨w.heap.size, 9, none⟩ = some (.int .i64 xs) := Xo.cell (by simp [go_sem])
  have qa_10 : wo.cell? ⟨w.heap.size, 10, none⟩ = some (.int .i64 xn) := Xo.cell (by simp [go_sem])
  have qa_11 : wo.cell? ⟨w.heap.size, 11, none⟩ = some (.int .i64 xm) := Xo.cell (by simp [go_sem])
  have qa_12 : wo.cell? ⟨w.heap.size, 12, none⟩ = some (.int .i64 xo) := Xo.cell (by simp [go_sem])
  have qa_13 : wo.cell? ⟨w.heap.size, 13, none⟩ = some (.int .i64 m) := Xo.cell (by simp [go_sem])
  have xo : Ext w wo := Ext.trans ((Ext.refl w).alloc _) Xo
  have po := World.block_lt_of_cell? _ ⟨w.heap.size, 0, none⟩ qa_0
  have ro := Nat.lt_succ_of_lt po
  clear Xo Oo
  go_upto_region 2 with (fail)
  refine settle_wp ?_
  intro w2 hb2
  have ql_0 : w2.cell? ⟨wo.heap.size, 0, none⟩ = some (.int .i64 V) := hb2.cell (by simp [go_sem])
  have ql_1 : w2.cell? ⟨wo.heap.size, 1, none⟩ = some (.int .i64 64) := hb2.cell (by simp [go_sem])
  have ql_2 : w2.cell? ⟨wo.heap.size, 2, none⟩ = some (.int .i64 C) := hb2.cell (by simp [go_sem])
  have ql_3 : w2.cell? ⟨wo.heap.size, 3, none⟩ = some (.int .i64 P) := hb2.cell (by simp [go_sem])
  have ql_4 : w2.cell? ⟨wo.heap.size, 4, none⟩ = some (.int .u64 S) := hb2.cell (by simp [go_sem])
  have ql_5 : w2.cell? ⟨wo.heap.size, 5, none⟩ = some (.slice (some ⟨bo, 0, none⟩) n n) := hb2.cell (by simp [go_sem])
  have ql_6 : w2.cell? ⟨wo.heap.size, 6, none⟩ = some (.int .i64 Cu) := hb2.cell (by simp [go_sem])
  have ql_7 : w2.cell? ⟨wo.heap.size, 7, none⟩ = some (.int .i64 Cl) := hb2.cell (by simp [go_sem])
  have ql_8 : w2.cell? ⟨wo.heap.size, 8, none⟩ = some (.int .i64 Ti) := hb2.cell (by simp [go_sem])
  have ql_9 : w2.cell? ⟨wo.heap.size, 9, none⟩ = some (.int .i64 Se) := hb2.cell (by simp [go_sem])
  have ql_10 : w2.cell? ⟨wo.heap.size, 10, none⟩ = some (.int .i64 Ne) := hb2.cell (by simp [go_sem])
  have ql_11 : w2.cell? ⟨wo.heap.size, 11, none⟩ = some (.int .i64 Ma) := hb2.cell (by simp [go_sem])
  have ql_12 : w2.cell? ⟨wo.heap.size, 12, none⟩ = some (.int .i64 Sl) := hb2.cell (by simp [go_sem])
  have ql_13 : w2.cell? ⟨wo.heap.size, 13, none⟩ = some (.int .i64 m) := hb2.cell (by simp [go_sem])
  have x2 := Ext.trans ((Ext.refl wo).alloc _) hb2
  replace qa_0 := x2.cell qa_0
  replace qa_1 := x2.cell qa_1
  replace qa_2 := x2.cell qa_2
  replace qa_3 := x2.cell qa_3
  replace qa_4 := x2.cell qa_4
  replace qa_5 := x2.cell qa_5
  replace qa_6 := x2.cell qa_6
  replace qa_7 := x2.cell qa_7
  replace qa_8 := x2.cell qa_8
  replace qa_9 := x2.cell qa_9
  replace qa_10 := x2.cell qa_10
  replace qa_11 := x2.cell qa_11
  replace qa_12 := x2.cell qa_12
  replace qa_13 := x2.cell qa_13
  have HE2 := Lib.hid (xo.trans x2)
  clear hb2 x2 xo po ro
  refine wp_region_later (by kernel_rfl) (by kernel_rfl) ?_
  have l_0 := fun (g : Later w2) => g.ok.cell ql_0
  have l_1 := fun (g : Later w2) => g.ok.cell ql_1
  have l_2 := fun (g : Later w2) => g.ok.cell ql_2
  have l_3 := fun (g : Later w2) => g.ok.cell ql_3
  have l_4 := fun (g : Later w2) => g.ok.cell ql_4
  have l_5 := fun (g : Later w2) => g.ok.cell ql_5
  have l_6 := fun (g : Later w2) => g.ok.cell ql_6
  have l_7 := fun (g : Later w2) => g.ok.cell ql_7
  have l_8 := fun (g : Later w2) => g.ok.cell ql_8
  have l_9 := fun (g : Later w2) => g.ok.cell ql_9
  have l_10 := fun (g : Later w2) => g.ok.cell ql_10
  have l_11 := fun (g : Later w2) => g.ok.cell ql_11
  have l_12 := fun (g : Later w2) => g.ok.cell ql_12
  have l_13 := fun (g : Later w2) => g.ok.cell ql_13
  have a_0 := fun (g : Later w2) => g.ok.cell qa_0
  have a_1 := fun (g : Later w2) => g.ok.cell qa_1
  have a_2 := fun (g : Later w2) => g.ok.cell qa_2
  have a_3 := fun (g : Later w2) => g.ok.cell qa_3
  have a_4 := fun (g : Later w2) => g.ok.cell qa_4
  have a_5 := fun (g : Later w2) => g.ok.cell qa_5
  have a_6 := fun (g : Later w2) => g.ok.cell qa_6
  have a_7 := fun (g : Later w2) => g.ok.cell qa_7
  have a_8 := fun (g : Later w2) => g.ok.cell qa_8
  have a_9 := fun (g : Later w2) => g.ok.cell qa_9
  have a_10 := fun (g : Later w2) => g.ok.cell qa_10
  have a_11 := fun (g : Later w2) => g.ok.cell qa_11
  have a_12 := fun (g : Later w2) => g.ok.cell qa_12
  have a_13 := fun (g : Later w2) => g.ok.cell qa_13
  repeat (go_big_quiet_step ((fail)))
  go_big_quiet_step ((go_at_call 68; exact laterS (bitsU32 _)))
  repeat (go_big_quiet_step ((fail)))
  refine wpQuiet_nil ?_
  intro w3 hl3
  have HE3 := Lib.hid (HE2.out.trans (laters_ext hl3))
  clear hl3 l_0 a_0 ql_0 qa_0 l_1 a_1 ql_1 qa_1 l_2 a_2 ql_2 qa_2 l_3 a_3 ql_3 qa_3 l_4 a_4 ql_4 qa_4 l_5 a_5 ql_5 qa_5 l_6 a_6 ql_6 qa_6 l_7 a_7 ql_7 qa_7 l_8 a_8 ql_8 qa_8 l_9 a_9 ql_9 qa_9 l_10 a_10 ql_10 qa_10 l_11 a_11 ql_11 qa_11 l_12 a_12 ql_12 qa_12 l_13 a_13 ql_13 qa_13
  go_wp2
  go_ret
  exact ⟨rfl, HE3.out⟩
set_option maxRecDepth 100000 in
theorem New64_other (V C P S : Int) (a : Option Addr) (cap : Nat) (ups : List (List Int)) (xu xl xt xs xn xm xo : Int) (m : Nat) (w : World) (hL : ListsV w (.slice a ups.length cap) ups) (hll : ∀ l ∈ ups, l.length ≤ 1000000) (hn : ups.length ≤ 1000000) (hg : ckC V 32 C P ups = 0) (hm : (m : Int) = nCe V ups.length C) :
    Calls Tryz.prog 42 #[(.agg #[.int .i64 V, .int .i64 32, .int .i64 C, .int .i64 P, .int .u64 S, .slice a ups.length cap, .int .i64 xu, .int .i64 xl, .int .i64 xt, .int .i64 xs, .int .i64 xn, .int .i64 xm, .int .i64 xo, .int .i64 m])] w fun e w' => e = .returned (.pointer none) ∧ Ext w w' := by
  obtain ⟨n, hn0⟩ : ∃ n, n = ups.length := ⟨_, rfl⟩
  have CO := fun w' (hx : Ext w w') => lOf_ok V 32 C P S _ ups w' (hL.ext hx) hll hn hg
  rw [← hn0] at CO hm ⊢
  obtain ⟨Cu, hCu⟩ : ∃ x, x = nCu V n := ⟨_, rfl⟩
  obtain ⟨Cl, hCl⟩ : ∃ x, x = nCl V n := ⟨_, rfl⟩
  obtain ⟨Ti, hTi⟩ : ∃ x, x = nTi V n := ⟨_, rfl⟩
  obtain ⟨Se, hSe⟩ : ∃ x, x = nSe V n := ⟨_, rfl⟩
  obtain ⟨Ne, hNe⟩ : ∃ x, x = nNe V n := ⟨_, rfl⟩
  obtain ⟨Ma, hMa⟩ : ∃ x, x = nMa V n := ⟨_, rfl⟩
  obtain ⟨Sl, hSl⟩ : ∃ x, x = nSl V n C := ⟨_, rfl⟩
  have hLay : ∀ u, layV V 32 C P S u n = (.agg #[.int .i64 V, .int .i64 32, .int .i64 C, .int .i64 P, .int .u64 S, u, .int .i64 Cu, .int .i64 Cl, .int .i64 Ti, .int .i64 Se, .int .i64 Ne, .int .i64 Ma, .int .i64 Sl, .int .i64 m]) := fun u => by unfold layV; rw [hCu, hCl, hTi, hSe, hNe, hMa, hSl, hm]
  have HLAY := Lib.hid hLay
  have HCO := Lib.hid CO
  have HN0 := Lib.hid hn0
  clear CO hL hll hg hn hLay hCu hCl hTi hSe hNe hMa hSl hm hn0
  go_enter Tryz.func42, Tryz.ntmps42
  go_wp2_with fail
  refine (HCO.out _ ((Ext.refl w).alloc _)).mono ?_
  rintro e wo ⟨uo, rfl, Oo, Xo⟩
  obtain ⟨bo, fo, cuo, eo, -⟩ := id Oo
  rw [← HN0.out] at eo ⊢
  subst eo
  rw [HLAY.out]
  have qa_0 : wo.cell? ⟨w.heap.size, 0, none⟩ = some (.int .i64 V) := Xo.cell (by simp [go_sem])
  have qa_1 : wo.cell? ⟨w.heap.size, 1, none⟩ = some (.int .i64 32) := Xo.cell (by simp [go_sem])
  have qa_2 : wo.cell? ⟨w.heap.size, 2, none⟩ = some (.int .i64 C) := Xo.cell (by simp [go_sem])
  have qa_3 : wo.cell? ⟨w.heap.size, 3, none⟩ = some (.int .i64 P) := Xo.cell (by simp [go_sem])
  have qa_4 : wo.cell? ⟨w.heap.size, 4, none⟩ = some (.int .u64 S) := Xo.cell (by simp [go_sem])
  have qa_5 : wo.cell? ⟨w.heap.size, 5, none⟩ = some (.slice a n cap) := Xo.cell (by simp [go_sem])
  have qa_6 : wo.cell? ⟨w.heap.size, 6, none⟩ = some (.int .i64 xu) := Xo.cell (by simp [go_sem])
  have qa_7 : wo.cell? ⟨w.heap.size, 7, none⟩ = some (.int .i64 xl) := Xo.cell (by simp [go_sem])
  have qa_8 : wo.cell? ⟨w.heap.size, 8, none⟩ = some (.int .i64 xt) := Xo.cell (by simp [go_sem])
  have qa_9 : wo.cell? ⟨w.heap.size, 9, none⟩ = some (.int .i64 xs) := Xo.cell (by simp [go_sem])
  have qa_10 : wo.cell? ⟨w.heap.size, 10, none⟩ = some (.int .i64 xn) := Xo.cell (by simp [go_sem])
  have qa_11 : wo.cell? ⟨w.heap.size, 11, none⟩ = some (.int .i64 xm) := Xo.cell (by simp [go_sem])
  have qa_12 : wo.cell? ⟨w.heap.size, 12, none⟩ = some (.int .i64 xo) := Xo.cell (by simp [go_sem])
  have qa_13 : wo.cell? ⟨w.heap.size, 13, none⟩ = some (.int .i64 m) := Xo.cell (by simp [go_sem])
  have xo : Ext w wo := Ext.trans ((Ext.refl w).alloc _) Xo
  have po := World.block_lt_of_cell? _ ⟨w.heap.size, 0, none⟩ qa_0
  have ro := Nat.lt_succ_of_lt po
  clear Xo Oo
  go_upto_region 2 with (fail)
  refine settle_wp ?_
  intro w2 hb2
  have ql_0 : w2.cell? ⟨wo.heap.size, 0, none⟩ = some (.int .i64 V) := hb2.cell (by simp [go_sem])
  have ql_1 : w2.cell? ⟨wo.heap.size, 1, none⟩ = some (.int .i64 32) := hb2.cell (by simp [go_sem])
  have ql_2 : w2.cell? ⟨wo.heap.size, 2, none⟩ = some (.int .i64 C) := hb2.cell (by simp [go_sem])
  have ql_3 : w2.cell? ⟨wo.heap.size, 3, none⟩ = some (.int .i64 P) := hb2.cell (by simp [go_sem])
  have ql_4 : w2.cell? ⟨wo.heap.size, 4, none⟩ = some (.int .u64 S) := hb2.cell (by simp [go_sem])
  have ql_5 : w2.cell? ⟨wo.heap.size, 5, none⟩ = some (.slice (some ⟨bo, 0, none⟩) n n) := hb2.cell (by simp [go_sem])
  have ql_6 : w2.cell? ⟨wo.heap.size, 6, none⟩ = some (.int .i64 Cu) := hb2.cell (by simp [go_sem])
  have ql_7 : w2.cell? ⟨wo.heap.size, 7, none⟩ = some (.int .i64 Cl) := hb2.cell (by simp [go_sem])
  have ql_8 : w2.cell? ⟨wo.heap.size, 8, none⟩ = some (.int .i64 Ti) := hb2.cell (by simp [go_sem])
  have ql_9 : w2.cell? ⟨wo.heap.size, 9, none⟩ = some (.int .i64 Se) := hb2.cell (by simp [go_sem])
  have ql_10 : w2.cell? ⟨wo.heap.size, 10, none⟩ = some (.int .i64 Ne) := hb2.cell (by simp [go_sem])
  have ql_11 : w2.cell? ⟨wo.heap.size, 11, none⟩ = some (.int .i64 Ma) := hb2.cell (by simp [go_sem])
  have ql_12 : w2.cell? ⟨wo.heap.size, 12, none⟩ = some (.int .i64 Sl) := hb2.cell (by simp [go_sem])
  have ql_13 : w2.cell? ⟨wo.heap.size, 13, none⟩ = some (.int .i64 m) := hb2.cell (by simp [go_sem])
  have x2 := Ext.trans ((Ext.refl wo).alloc _) hb2
  replace qa_0 := x2.cell qa_0
  replace qa_1 := x2.cell qa_1
  replace qa_2 := x2.cell qa_2
  replace qa_3 := x2.cell qa_3
  replace qa_4 := x2.cell qa_4
  replace qa_5 := x2.cell qa_5
  replace qa_6 := x2.cell qa_6
  replace qa_7 := x2.cell qa_7
  replace qa_8 := x2.cell qa_8
  replace qa_9 := x2.cell qa_9
  replace qa_10 := x2.cell qa_10
  replace qa_11 := x2.cell qa_11
  replace qa_12 := x2.cell qa_12
  replace qa_13 := x2.cell qa_13
  have HE2 := Lib.hid (xo.trans x2)
  clear hb2 x2 xo po ro
  refine wp_region_later (by kernel_rfl) (by kernel_rfl) ?_
  have l_0 := fun (g : Later w2) => g.ok.cell ql_0
  have l_1 := fun (g : Later w2) => g.ok.cell ql_1
  have l_2 := fun (g : Later w2) => g.ok.cell ql_2
  have l_3 := fun (g : Later w2) => g.ok.cell ql_3
  have l_4 := fun (g : Later w2) => g.ok.cell ql_4
  have l_5 := fun (g : Later w2) => g.ok.cell ql_5
  have l_6 := fun (g : Later w2) => g.ok.cell ql_6
  have l_7 := fun (g : Later w2) => g.ok.cell ql_7
  have l_8 := fun (g : Later w2) => g.ok.cell ql_8
  have l_9 := fun (g : Later w2) => g.ok.cell ql_9
  have l_10 := fun (g : Later w2) => g.ok.cell ql_10
  have l_11 := fun (g : Later w2) => g.ok.cell ql_11
  have l_12 := fun (g : Later w2) => g.ok.cell ql_12
  have l_13 := fun (g : Later w2) => g.ok.cell ql_13
  have a_0 := fun (g : Later w2) => g.ok.cell qa_0
  have a_1 := fun (g : Later w2) => g.ok.cell qa_1
  have a_2 := fun (g : Later w2) => g.ok.cell qa_2
  have a_3 := fun (g : Later w2) => g.ok.cell qa_3
  have a_4 := fun (g : Later w2) => g.ok.cell qa_4
  have a_5 := fun (g : Later w2) => g.ok.cell qa_5
  have a_6 := fun (g : Later w2) => g.ok.cell qa_6
  have a_7 := fun (g : Later w2) => g.ok.cell qa_7
  have a_8 := fun (g : Later w2) => g.ok.cell qa_8
  have a_9 := fun (g : Later w2) => g.ok.cell qa_9
  have a_10 := fun (g : Later w2) => g.ok.cell qa_10
  have a_11 := fun (g : Later w2) => g.ok.cell qa_11
  have a_12 := fun (g : Later w2) => g.ok.cell qa_12
  have a_13 := fun (g : Later w2) => g.ok.cell qa_13
  repeat (go_big_quiet_step ((fail)))
  go_big_quiet_step ((go_at_call 92; exact laterS (bitsU64 _)))
  repeat (go_big_quiet_step ((fail)))
  refine wpQuiet_nil ?_
  intro w3 hl3
  have HE3 := Lib.hid (HE2.out.trans (laters_ext hl3))
  clear hl3 l_0 a_0 ql_0 qa_0 l_1 a_1 ql_1 qa_1 l_2 a_2 ql_2 qa_2 l_3 a_3 ql_3 qa_3 l_4 a_4 ql_4 qa_4 l_5 a_5 ql_5 qa_5 l_6 a_6 ql_6 qa_6 l_7 a_7 ql_7 qa_7 l_8 a_8 ql_8 qa_8 l_9 a_9 ql_9 qa_9 l_10 a_10 ql_10 qa_10 l_11 a_11 ql_11 qa_11 l_12 a_12 ql_12 qa_12 l_13 a_13 ql_13 qa_13
  go_wp2
  go_ret
  exact ⟨rfl, HE3.out⟩
/-- a layout told, its lists in memory of their own -/
def LayDoes (y : LY) (ups : List (List Int)) (w : World) (e : Ending) (w' : World) : Prop :=
  ∃ u : Value, e = .returned (.agg #[.int .i64 (y.V), .int .i64 (y.W), .int .i64 (y.C), .int .i64 (y.P), .int .u64 (y.S), u, .int .i64 (y.Cu), .int .i64 (y.Cl), .int .i64 (y.Ti), .int .i64 (y.Se), .int .i64 (y.Ne), .int .i64 (y.Ma), .int .i64 (y.Sl), .int .i64 (y.m)]) ∧ ListsV w' u ups ∧ Ext w w'
set_option maxRecDepth 100000 in
theorem Layout32 (b g : Nat) (y : LY) (f : Nat → Int) (lv : Value) (log : List Acc) (ups : List (List Int)) (w : World) (hB : BD w 121 b g y f lv log) (hL : ListsV w (.slice y.a y.n y.cap) ups) (hll : ∀ l ∈ ups, l.length ≤ 1000000) (hn : ups.length ≤ 1000000) (hg : ckC y.V y.W y.C y.P ups = 0)
    (hy : ∀ u, layV y.V y.W y.C y.P y.S u ups.length = (.agg #[.int .i64 (y.V), .int .i64 (y.W), .int .i64 (y.C), .int .i64 (y.P), .int .u64 (y.S), u, .int .i64 (y.Cu), .int .i64 (y.Cl), .int .i64 (y.Ti), .int .i64 (y.Se), .int .i64 (y.Ne), .int .i64 (y.Ma), .int .i64 (y.Sl), .int .i64 (y.m)])) :
    Calls Tryz.prog 72 #[.pointer (some ⟨b, 0, none⟩)] w (LayDoes y ups w) := by
  have CO := Lib.hid (fun w' (hx : Ext w w') => lOf_ok y.V y.W y.C y.P y.S _ ups w' (hL.ext hx) hll hn hg)
  have HY := Lib.hid hy
  have q0 := hB.q0
  have q1 := hB.q1
  have q2 := hB.q2
  have q3 := hB.q3
  have q4 := hB.q4
  have q5 := hB.q5
  have HG : Hid (∀ (b2 n : Nat) w', OwnL w' (.slice (some ⟨b2, 0, none⟩) n n) ups → Ext w w' → LayDoes y ups w (.returned (.agg #[.int .i64 (y.V), .int .i64 (y.W), .int .i64 (y.C), .int .i64 (y.P), .int .u64 (y.S), .slice (some ⟨b2, 0, none⟩) n n, .int .i64 (y.Cu), .int .i64 (y.Cl), .int .i64 (y.Ti), .int .i64 (y.Se), .int .i64 (y.Ne), .int .i64 (y.Ma), .int .i64 (y.Sl), .int .i64 (y.m)])) w') := Lib.hid (fun b2 n w' h1 h2 => ⟨_, rfl, h1.lists, h2⟩)
  generalize LayDoes y ups w = G at *
  have hbw := World.block_lt_of_cell? w ⟨b, 0, none⟩ q0
  obtain ⟨V, W, C, P, S, a, n, cap, Cu, Cl, Ti, Se, Ne, Ma, Sl, m⟩ := y
  dsimp only at CO HY HG q0 q1 q2 q3 q4 q5
  clear hB hL hll hg hy hn
  go_enter Tryz.func72, Tryz.ntmps72
  go_wp2_with fail
  refine (CO.out _ ((Ext.refl w).alloc _)).mono ?_
  rintro e wo ⟨uo, rfl, Oo, Xo⟩
  obtain ⟨bo, fo, cuo, eo, -⟩ := id Oo
  rw [HY.out]
  subst eo
  have qr_0 : wo.cell? ⟨w.heap.size, 0, none⟩ = some (.int .i64 0) := Xo.cell (by simp [go_sem])
  have zr_0 : wo.frozen? ⟨w.heap.size, 0, none⟩ = false := Xo.frozen (v := .int .i64 0) (by simp [go_sem]) (by simp [go_sem])
  have qr_1 : wo.cell? ⟨w.heap.size, 1, none⟩ = some (.int .i64 0) := Xo.cell (by simp [go_sem])
  have zr_1 : wo.frozen? ⟨w.heap.size, 1, none⟩ = false := Xo.frozen (v := .int .i64 0) (by simp [go_sem]) (by simp [go_sem])
  have qr_2 : wo.cell? ⟨w.heap.size, 2, none⟩ = some (.int .i64 0) := Xo.cell (by simp [go_sem])
  have zr_2 : wo.frozen? ⟨w.heap.size, 2, none⟩ = false := Xo.frozen (v := .int .i64 0) (by simp [go_sem]) (by simp [go_sem])
  have qr_3 : wo.cell? ⟨w.heap.size, 3, none⟩ = some (.int .i64 0) := Xo.cell (by simp [go_sem])
  have zr_3 : wo.frozen? ⟨w.heap.size, 3, none⟩ = false := Xo.frozen (v := .int .i64 0) (by simp [go_sem]) (by simp [go_sem])
  have qr_4 : wo.cell? ⟨w.heap.size, 4, none⟩ = some (.int .u64 0) := Xo.cell (by simp [go_sem])
  have zr_4 : wo.frozen? ⟨w.heap.size, 4, none⟩ = false := Xo.frozen (v := .int .u64 0) (by simp [go_sem]) (by simp [go_sem])
  have qr_5 : wo.cell? ⟨w.heap.size, 5, none⟩ = some (.slice none 0 0) := Xo.cell (by simp [go_sem])
  have zr_5 : wo.frozen? ⟨w.heap.size, 5, none⟩ = false := Xo.frozen (v := .slice none 0 0) (by simp [go_sem]) (by simp [go_sem])
  have qr_6 : wo.cell? ⟨w.heap.size, 6, none⟩ = some (.int .i64 0) := Xo.cell (by simp [go_sem])
  have zr_6 : wo.frozen? ⟨w.heap.size, 6, none⟩ = false := Xo.frozen (v := .int .i64 0) (by simp [go_sem]) (by simp [go_sem])
  have qr_7 : wo.cell? ⟨w.heap.size, 7, none⟩ = some (.int .i64 0) := Xo.cell (by simp [go_sem])
  have zr_7 : wo.frozen? ⟨w.heap.size, 7, none⟩ = false := Xo.frozen (v := .int .i64 0) (by simp [go_sem]) (by simp [go_sem])
  have qr_8 : wo.cell? ⟨w.heap.size, 8, none⟩ = some (.int .i64 0) := Xo.cell (by simp [go_sem])
  have zr_8 : wo.frozen? ⟨w.heap.size, 8, none⟩ = false := Xo.frozen (v := .int .i64 0) (by simp [go_sem]) (by simp [go_sem])
  have qr_9 : wo.cell? ⟨w.heap.size, 9, none⟩ = some (.int .i64 0) := Xo.cell (by simp [go_sem])
  have zr_9 : wo.frozen? ⟨w.heap.size, 9, none⟩ = false := Xo.frozen (v := .int .i64 0) (by simp [go_sem]) (by simp [go_sem])
  have qr_10 : wo.cell? ⟨w.heap.size, 10, none⟩ = some (.int .i64 0) := Xo.cell (by simp [go_sem])
  have zr_10 : wo.frozen? ⟨w.heap.size, 10, none⟩ = false := Xo.frozen (v := .int .i64 0) (by simp [go_sem]) (by simp [go_sem])
  have qr_11 : wo.cell? ⟨w.heap.size, 11, none⟩ = some (.int .i64 0) := Xo.cell (by simp [go_sem])
  have zr_11 : wo.frozen? ⟨w.heap.size, 11, none⟩ = false := Xo.frozen (v := .int .i64 0) (by simp [go_sem]) (by simp [go_sem])
  have qr_12 : wo.cell? ⟨w.heap.size, 12, none⟩ = some (.int .i64 0) := Xo.cell (by simp [go_sem])
  have zr_12 : wo.frozen? ⟨w.heap.size, 12, none⟩ = false := Xo.frozen (v := .int .i64 0) (by simp [go_sem]) (by simp [go_sem])
  have qr_13 : wo.cell? ⟨w.heap.size, 13, none⟩ = some (.int .i64 0) := Xo.cell (by simp [go_sem])
  have zr_13 : wo.frozen? ⟨w.heap.size, 13, none⟩ = false := Xo.frozen (v := .int .i64 0) (by simp [go_sem]) (by simp [go_sem])
  have TR : Tag wo w.heap.size 31 := (Tag.new w _ _).ext Xo
  have xo : Ext w wo := Ext.trans ((Ext.refl w).alloc _) Xo
  have po := World.block_lt_of_cell? _ ⟨w.heap.size, 0, none⟩ qr_0
  have ro := Nat.lt_succ_of_lt po
  have HOo := Lib.hid Oo
  generalize hN : ups.length = N at *
  clear Xo Oo q0 q1 q2 q3 q4 q5
  go_upto_region 4 with (fail)
  refine settle_wp ?_
  intro w3 hb3
  have l_0 : w3.cell? ⟨wo.heap.size, 0, none⟩ = some (.int .i64 V) := hb3.cell (by simp [go_sem])
  have l_1 : w3.cell? ⟨wo.heap.size, 1, none⟩ = some (.int .i64 W) := hb3.cell (by simp [go_sem])
  have l_2 : w3.cell? ⟨wo.heap.size, 2, none⟩ = some (.int .i64 C) := hb3.cell (by simp [go_sem])
  have l_3 : w3.cell? ⟨wo.heap.size, 3, none⟩ = some (.int .i64 P) := hb3.cell (by simp [go_sem])
  have l_4 : w3.cell? ⟨wo.heap.size, 4, none⟩ = some (.int .u64 S) := hb3.cell (by simp [go_sem])
  have l_5 : w3.cell? ⟨wo.heap.size, 5, none⟩ = some (.slice (some ⟨bo, 0, none⟩) N N) := hb3.cell (by simp [go_sem])
  have l_6 : w3.cell? ⟨wo.heap.size, 6, none⟩ = some (.int .i64 Cu) := hb3.cell (by simp [go_sem])
  have l_7 : w3.cell? ⟨wo.heap.size, 7, none⟩ = some (.int .i64 Cl) := hb3.cell (by simp [go_sem])
  have l_8 : w3.cell? ⟨wo.heap.size, 8, none⟩ = some (.int .i64 Ti) := hb3.cell (by simp [go_sem])
  have l_9 : w3.cell? ⟨wo.heap.size, 9, none⟩ = some (.int .i64 Se) := hb3.cell (by simp [go_sem])
  have l_10 : w3.cell? ⟨wo.heap.size, 10, none⟩ = some (.int .i64 Ne) := hb3.cell (by simp [go_sem])
  have l_11 : w3.cell? ⟨wo.heap.size, 11, none⟩ = some (.int .i64 Ma) := hb3.cell (by simp [go_sem])
  have l_12 : w3.cell? ⟨wo.heap.size, 12, none⟩ = some (.int .i64 Sl) := hb3.cell (by simp [go_sem])
  have l_13 : w3.cell? ⟨wo.heap.size, 13, none⟩ = some (.int .i64 m) := hb3.cell (by simp [go_sem])
  have x3 := Ext.trans ((Ext.refl wo).alloc _) hb3
  have y_0 := x3.frozen qr_0 zr_0
  have r_0 := x3.cell qr_0
  have y_1 := x3.frozen qr_1 zr_1
  have r_1 := x3.cell qr_1
  have y_2 := x3.frozen qr_2 zr_2
  have r_2 := x3.cell qr_2
  have y_3 := x3.frozen qr_3 zr_3
  have r_3 := x3.cell qr_3
  have y_4 := x3.frozen qr_4 zr_4
  have r_4 := x3.cell qr_4
  have y_5 := x3.frozen qr_5 zr_5
  have r_5 := x3.cell qr_5
  have y_6 := x3.frozen qr_6 zr_6
  have r_6 := x3.cell qr_6
  have y_7 := x3.frozen qr_7 zr_7
  have r_7 := x3.cell qr_7
  have y_8 := x3.frozen qr_8 zr_8
  have r_8 := x3.cell qr_8
  have y_9 := x3.frozen qr_9 zr_9
  have r_9 := x3.cell qr_9
  have y_10 := x3.frozen qr_10 zr_10
  have r_10 := x3.cell qr_10
  have y_11 := x3.frozen qr_11 zr_11
  have r_11 := x3.cell qr_11
  have y_12 := x3.frozen qr_12 zr_12
  have r_12 := x3.cell qr_12
  have y_13 := x3.frozen qr_13 zr_13
  have r_13 := x3.cell qr_13
  have HT3 := Lib.hid (TR.ext x3)
  have HE3 := Lib.hid (xo.trans x3)
  have HO3 := Lib.hid (HOo.out.ext x3)
  clear hb3 x3 xo TR po ro qr_0 zr_0 qr_1 zr_1 qr_2 zr_2 qr_3 zr_3 qr_4 zr_4 qr_5 zr_5 qr_6 zr_6 qr_7 zr_7 qr_8 zr_8 qr_9 zr_9 qr_10 zr_10 qr_11 zr_11 qr_12 zr_12 qr_13 zr_13
  go_wp2
  refine bodyPost_ret (v := (.agg #[.int .i64 V, .int .i64 W, .int .i64 C, .int .i64 P, .int .u64 S, .slice (some ⟨bo, 0, none⟩) N N, .int .i64 Cu, .int .i64 Cl, .int .i64 Ti, .int .i64 Se, .int .i64 Ne, .int .i64 Ma, .int .i64 Sl, .int .i64 m])) (by simp [results, Tryz.results72, go_sem, r_0, r_1, r_2, r_3, r_4, r_5, r_6, r_7, r_8, r_9, r_10, r_11, r_12, r_13]) rfl (HG.out bo N _ ?own ?ext)
  case own => repeat (any_goals (first | with_reducible exact HO3.out | with_reducible exact HT3.out | with_reducible refine Tag.set ?_ | with_reducible refine OwnL.set (t := 31) ?_ ?_ (by decide) (by decide)))
  case ext =>
    have E3 := HE3.out
    repeat (first | with_reducible exact Ext.refl _ | with_reducible assumption | with_reducible refine Ext.alloc ?_ _ | with_reducible refine Ext.drew ?_ | with_reducible refine Ext.drewN ?_ _ | with_reducible refine Ext.setCell ?_ (by simp <;> omega) _ | with_reducible refine Ext.trans ?_ (by assumption))
set_option maxRecDepth 100000 in
theorem Layout64 (b g : Nat) (y : LY) (f : Nat → Int) (lv : Value) (log : List Acc) (ups : List (List Int)) (w : World) (hB : BD w 152 b g y f lv log) (hL : ListsV w (.slice y.a y.n y.cap) ups) (hll : ∀ l ∈ ups, l.length ≤ 1000000) (hn : ups.length ≤ 1000000) (hg : ckC y.V y.W y.C y.P ups = 0)
    (hy : ∀ u, layV y.V y.W y.C y.P y.S u ups.length = (.agg #[.int .i64 (y.V), .int .i64 (y.W), .int .i64 (y.C), .int .i64 (y.P), .int .u64 (y.S), u, .int .i64 (y.Cu), .int .i64 (y.Cl), .int .i64 (y.Ti), .int .i64 (y.Se), .int .i64 (y.Ne), .int .i64 (y.Ma), .int .i64 (y.Sl), .int .i64 (y.m)])) :
    Calls Tryz.prog 93 #[.pointer (some ⟨b, 0, none⟩)] w (LayDoes y ups w) := by
  have CO := Lib.hid (fun w' (hx : Ext w w') => lOf_ok y.V y.W y.C y.P y.S _ ups w' (hL.ext hx) hll hn hg)
  have HY := Lib.hid hy
  have q0 := hB.q0
  have q1 := hB.q1
  have q2 := hB.q2
  have q3 := hB.q3
  have q4 := hB.q4
  have q5 := hB.q5
  have HG : Hid (∀ (b2 n : Nat) w', OwnL w' (.slice (some ⟨b2, 0, none⟩) n n) ups → Ext w w' → LayDoes y ups w (.returned (.agg #[.int .i64 (y.V), .int .i64 (y.W), .int .i64 (y.C), .int .i64 (y.P), .int .u64 (y.S), .slice (some ⟨b2, 0, none⟩) n n, .int .i64 (y.Cu), .int .i64 (y.Cl), .int .i64 (y.Ti), .int .i64 (y.Se), .int .i64 (y.Ne), .int .i64 (y.Ma), .int .i64 (y.Sl), .int .i64 (y.m)])) w') := Lib.hid (fun b2 n w' h1 h2 => ⟨_, rfl, h1.lists, h2⟩)
  generalize LayDoes y ups w = G at *
  have hbw := World.block_lt_of_cell? w ⟨b, 0, none⟩ q0
  obtain ⟨V, W, C, P, S, a, n, cap, Cu, Cl, Ti, Se, Ne, Ma, Sl, m⟩ := y
  dsimp only at CO HY HG q0 q1 q2 q3 q4 q5
  clear hB hL hll hg hy hn
  go_enter Tryz.func93, Tryz.ntmps93
  go_wp2_with fail
  refine (CO.out _ ((Ext.refl w).alloc _)).mono ?_
  rintro e wo ⟨uo, rfl, Oo, Xo⟩
  obtain ⟨bo, fo, cuo, eo, -⟩ := id Oo
  rw [HY.out]
  subst eo
  have qr_0 : wo.cell? ⟨w.heap.size, 0, none⟩ = some (.int .i64 0) := Xo.cell (by simp [go_sem])
  have zr_0 : wo.frozen? ⟨w.heap.size, 0, none⟩ = false := Xo.frozen (v := .int .i64 0) (by simp [go_sem]) (by simp [go_sem])
  have qr_1 : wo.cell? ⟨w.heap.size, 1, none⟩ = some (.int .i64 0) := Xo.cell (by simp [go_sem])
  have zr_1 : wo.frozen? ⟨w.heap.size, 1, none⟩ = false := Xo.frozen (v := .int .i64 0) (by simp [go_sem]) (by simp [go_sem])
  have qr_2 : wo.cell? ⟨w.heap.size, 2, none⟩ = some (.int .i64 0) := Xo.cell (by simp [go_sem])
  have zr_2 : wo.frozen? ⟨w.heap.size, 2, none⟩ = false := Xo.frozen (v := .int .i64 0) (by simp [go_sem]) (by simp [go_sem])
  have qr_3 : wo.cell? ⟨w.heap.size, 3, none⟩ = some (.int .i64 0) := Xo.cell (by simp [go_sem])
  have zr_3 : wo.frozen? ⟨w.heap.size, 3, none⟩ = false := Xo.frozen (v := .int .i64 0) (by simp [go_sem]) (by simp [go_sem])
  have qr_4 : wo.cell? ⟨w.heap.size, 4, none⟩ = some (.int .u64 0) := Xo.cell (by simp [go_sem])
  have zr_4 : wo.frozen? ⟨w.heap.size, 4, none⟩ = false := Xo.frozen (v := .int .u64 0) (by simp [go_sem]) (by simp [go_sem])
  have qr_5 : wo.cell? ⟨w.heap.size, 5, none⟩ = some (.slice none 0 0) := Xo.cell (by simp [go_sem])
  have zr_5 : wo.frozen? ⟨w.heap.size, 5, none⟩ = false := Xo.frozen (v := .slice none 0 0) (by simp [go_sem]) (by simp [go_sem])
  have qr_6 : wo.cell? ⟨w.heap.size, 6, none⟩ = some (.int .i64 0) := Xo.cell (by simp [go_sem])
  have zr_6 : wo.frozen? ⟨w.heap.size, 6, none⟩ = false := Xo.frozen (v := .int .i64 0) (by simp [go_sem]) (by simp [go_sem])
  have qr_7 : wo.cell? ⟨w.heap.size, 7, none⟩ = some (.int .i64 0) := Xo.cell (by simp [go_sem])
  have zr_7 : wo.frozen? ⟨w.heap.size, 7, none⟩ = false := Xo.frozen (v := .int .i64 0) (by simp [go_sem]) (by simp [go_sem])
  have qr_8 : wo.cell? ⟨w.heap.size, 8, none⟩ = some (.int .i64 0) := Xo.cell (by simp [go_sem])
  have zr_8 : wo.frozen? ⟨w.heap.size, 8, none⟩ = false := Xo.frozen (v := .int .i64 0) (by simp [go_sem]) (by simp [go_sem])
  have qr_9 : wo.cell? ⟨w.heap.size, 9, none⟩ = some (.int .i64 0) := Xo.cell (by simp [go_sem])
  have zr_9 : wo.frozen? ⟨w.heap.size, 9, none⟩ = false := Xo.frozen (v := .int .i64 0) (by simp [go_sem]) (by simp [go_sem])
  have qr_10 : wo.cell? ⟨w.heap.size, 10, none⟩ = some (.int .i64 0) := Xo.cell (by simp [go_sem])
  have zr_10 : wo.frozen? ⟨w.heap.size, 10, none⟩ = false := Xo.frozen (v := .int .i64 0) (by simp [go_sem]) (by simp [go_sem])
  have qr_11 : wo.cell? ⟨w.heap.size, 11, none⟩ = some (.int .i64 0) := Xo.cell (by simp [go_sem])
  have zr_11 : wo.frozen? ⟨w.heap.size, 11, none⟩ = false := Xo.frozen (v := .int .i64 0) (by simp [go_sem]) (by simp [go_sem])
  have qr_12 : wo.cell? ⟨w.heap.size, 12, none⟩ = some (.int .i64 0) := Xo.cell (by simp [go_sem])
  have zr_12 : wo.frozen? ⟨w.heap.size, 12, none⟩ = false := Xo.frozen (v := .int .i64 0) (by simp [go_sem]) (by simp [go_sem])
  have qr_13 : wo.cell? ⟨w.heap.size, 13, none⟩ = some (.int .i64 0) := Xo.cell (by simp [go_sem])
  have zr_13 : wo.frozen? ⟨w.heap.size, 13, none⟩ = false := Xo.frozen (v := .int .i64 0) (by simp [go_sem]) (by simp [go_sem])
  have TR : Tag wo w.heap.size 31 := (Tag.new w _ _).ext Xo
  have xo : Ext w wo := Ext.trans ((Ext.refl w).alloc _) Xo
  have po := World.block_lt_of_cell? _ ⟨w.heap.size, 0, none⟩ qr_0
  have ro := Nat.lt_succ_of_lt po
  have HOo := Lib.hid Oo
  generalize hN : ups.length = N at *
  clear Xo Oo q0 q1 q2 q3 q4 q5
  go_upto_region 4 with (fail)
  refine settle_wp ?_
  intro w3 hb3
  have l_0 : w3.cell? ⟨wo.heap.size, 0, none⟩ = some (.int .i64 V) := hb3.cell (by simp [go_sem])
  have l_1 : w3.cell? ⟨wo.heap.size, 1, none⟩ = some (.int .i64 W) := hb3.cell (by simp [go_sem])
  have l_2 : w3.cell? ⟨wo.heap.size, 2, none⟩ = some (.int .i64 C) := hb3.cell (by simp [go_sem])
  have l_3 : w3.cell? ⟨wo.heap.size, 3, none⟩ = some (.int .i64 P) := hb3.cell (by simp [go_sem])
  have l_4 : w3.cell? ⟨wo.heap.size, 4, none⟩ = some (.int .u64 S) := hb3.cell (by simp [go_sem])
  have l_5 : w3.cell? ⟨wo.heap.size, 5, none⟩ = some (.slice (some ⟨bo, 0, none⟩) N N) := hb3.cell (by simp [go_sem])
  have l_6 : w3.cell? ⟨wo.heap.size, 6, none⟩ = some (.int .i64 Cu) := hb3.cell (by simp [go_sem])
  have l_7 : w3.cell? ⟨wo.heap.size, 7, none⟩ = some (.int .i64 Cl) := hb3.cell (by simp [go_sem])
  have l_8 : w3.cell? ⟨wo.heap.size, 8, none⟩ = some (.int .i64 Ti) := hb3.cell (by simp [go_sem])
  have l_9 : w3.cell? ⟨wo.heap.size, 9, none⟩ = some (.int .i64 Se) := hb3.cell (by simp [go_sem])
  have l_10 : w3.cell? ⟨wo.heap.size, 10, none⟩ = some (.int .i64 Ne) := hb3.cell (by simp [go_sem])
  have l_11 : w3.cell? ⟨wo.heap.size, 11, none⟩ = some (.int .i64 Ma) := hb3.cell (by simp [go_sem])
  have l_12 : w3.cell? ⟨wo.heap.size, 12, none⟩ = some (.int .i64 Sl) := hb3.cell (by simp [go_sem])
  have l_13 : w3.cell? ⟨wo.heap.size, 13, none⟩ = some (.int .i64 m) := hb3.cell (by simp [go_sem])
  have x3 := Ext.trans ((Ext.refl wo).alloc _) hb3
  have y_0 := x3.frozen qr_0 zr_0
  have r_0 := x3.cell qr_0
  have y_1 := x3.frozen qr_1 zr_1
  have r_1 := x3.cell qr_1
  have y_2 := x3.frozen qr_2 zr_2
  have r_2 := x3.cell qr_2
  have y_3 := x3.frozen qr_3 zr_3
  have r_3 := x3.cell qr_3
  have y_4 := x3.frozen qr_4 zr_4
  have r_4 := x3.cell qr_4
  have y_5 := x3.frozen qr_5 zr_5
  have r_5 := x3.cell qr_5
  have y_6 := x3.frozen qr_6 zr_6
  have r_6 := x3.cell qr_6
  have y_7 := x3.frozen qr_7 zr_7
  have r_7 := x3.cell qr_7
  have y_8 := x3.frozen qr_8 zr_8
  have r_8 := x3.cell qr_8
  have y_9 := x3.frozen qr_9 zr_9
  have r_9 := x3.cell qr_9
  have y_10 := x3.frozen qr_10 zr_10
  have r_10 := x3.cell qr_10
  have y_11 := x3.frozen qr_11 zr_11
  have r_11 := x3.cell qr_11
  have y_12 := x3.frozen qr_12 zr_12
  have r_12 := x3.cell qr_12
  have y_13 := x3.frozen qr_13 zr_13
  have r_13 := x3.cell qr_13
  have HT3 := Lib.hid (TR.ext x3)
  have HE3 := Lib.hid (xo.trans x3)
  have HO3 := Lib.hid (HOo.out.ext x3)
  clear hb3 x3 xo TR po ro qr_0 zr_0 qr_1 zr_1 qr_2 zr_2 qr_3 zr_3 qr_4 zr_4 qr_5 zr_5 qr_6 zr_6 qr_7 zr_7 qr_8 zr_8 qr_9 zr_9 qr_10 zr_10 qr_11 zr_11 qr_12 zr_12 qr_13 zr_13
  go_wp2
  refine bodyPost_ret (v := (.agg #[.int .i64 V, .int .i64 W, .int .i64 C, .int .i64 P, .int .u64 S, .slice (some ⟨bo, 0, none⟩) N N, .int .i64 Cu, .int .i64 Cl, .int .i64 Ti, .int .i64 Se, .int .i64 Ne, .int .i64 Ma, .int .i64 Sl, .int .i64 m])) (by simp [results, Tryz.results93, go_sem, r_0, r_1, r_2, r_3, r_4, r_5, r_6, r_7, r_8, r_9, r_10, r_11, r_12, r_13]) rfl (HG.out bo N _ ?own ?ext)
  case own => repeat (any_goals (first | with_reducible exact HO3.out | with_reducible exact HT3.out | with_reducible refine Tag.set ?_ | with_reducible refine OwnL.set (t := 31) ?_ ?_ (by decide) (by decide)))
  case ext =>
    have E3 := HE3.out
    repeat (first | with_reducible exact Ext.refl _ | with_reducible assumption | with_reducible refine Ext.alloc ?_ _ | with_reducible refine Ext.drew ?_ | with_reducible refine Ext.drewN ?_ _ | with_reducible refine Ext.setCell ?_ (by simp <;> omega) _ | with_reducible refine Ext.trans ?_ (by assumption))
end Go.Proofs.YtkmfamidahlgiaaGreatDoor
/- A board that was made of a configuration that may be: what is known of its letters, and where its graph lies. -/
namespace Go.Proofs.YtkmfamidahlgiaaGreatDoor
open Go.RowKit
set_option linter.unusedVariables false
set_option linter.unusedSimpArgs false
set_option maxHeartbeats 2000000
/-- its letters -/
structure BK (y : LY) (ups : List (List Int)) : Prop where
  eq : ∃ bo, y = yOf y.V y.W y.C y.P y.S bo y.n y.m
  n : y.n = ups.length
  m : (y.m : Int) = nCe y.V y.n y.C
  ll : ∀ l ∈ ups, l.length ≤ 1000000
  ck : ckC y.V y.W y.C y.P ups = 0
theorem BK.ok {y : LY} {ups : List (List Int)} (K : BK y ups) : Ok y.V y.W y.C y.P ups := ok_iff.1 K.ck
theorem BK.num {y : LY} {ups : List (List Int)} (K : BK y ups) : NumOk y.V y.n y.C := by
  rw [K.n]
  exact numOk K.ok
theorem BK.yok {y : LY} {ups : List (List Int)} (K : BK y ups) : YOk y := by
  obtain ⟨bo, e⟩ := K.eq
  have h := yOf_ok (W := y.W) (P := y.P) (S := y.S) (bo := bo) K.num K.m
  rwa [← e] at h
theorem BK.kd_at {y : LY} {ups : List (List Int)} (K : BK y ups) (c : Int) : kd y c = pKind (useN y.V y.n y.C c).1.toNat := by
  obtain ⟨bo, e⟩ := K.eq
  have h := yOf_kd (W := y.W) (P := y.P) (S := y.S) (bo := bo) K.m c
  rwa [← e] at h
theorem BK.fields {y : LY} {ups : List (List Int)} (K : BK y ups) : y.Cu = nCu y.V y.n ∧ y.Cl = nCl y.V y.n ∧ y.Ti = nTi y.V y.n ∧ y.Se = nSe y.V y.n ∧ y.Ne = nNe y.V y.n ∧ y.Ma = nMa y.V y.n ∧ y.Sl = nSl y.V y.n y.C := by
  obtain ⟨bo, e⟩ := K.eq
  exact ⟨congrArg LY.Cu e, congrArg LY.Cl e, congrArg LY.Ti e, congrArg LY.Se e, congrArg LY.Ne e, congrArg LY.Ma e, congrArg LY.Sl e⟩
theorem BK.lay {y : LY} {ups : List (List Int)} (K : BK y ups) (u : Value) : layV y.V y.W y.C y.P y.S u ups.length = (.agg #[.int .i64 (y.V), .int .i64 (y.W), .int .i64 (y.C), .int .i64 (y.P), .int .u64 (y.S), u, .int .i64 (y.Cu), .int .i64 (y.Cl), .int .i64 (y.Ti), .int .i64 (y.Se), .int .i64 (y.Ne), .int .i64 (y.Ma), .int .i64 (y.Sl), .int .i64 (y.m)]) := by
  obtain ⟨h1, h2, h3, h4, h5, h6, h7⟩ := K.fields
  unfold layV
  rw [← K.n, ← h1, ← h2, ← h3, ← h4, ← h5, ← h6, ← h7, ← K.m]
theorem bk_of {V W C P S : Int} {bo m : Nat} {ups : List (List Int)} (hll : ∀ l ∈ ups, l.length ≤ 1000000) (hm : (m : Int) = nCe V ups.length C) (hg : ckC V W C P ups = 0) : BK (yOf V W C P S bo ups.length m) ups :=
  ⟨⟨bo, rfl⟩, rfl, hm, hll, hg⟩
theorem BK.hn {y : LY} {ups : List (List Int)} (K : BK y ups) : ups.length ≤ 1000000 := by
  have := K.num.n6
  have := K.n
  omega
/-- a board beside its graph -/
structure BW (w : World) (bt b g : Nat) (y : LY) (f : Nat → Int) (lv : Value) (log : List Acc) (ups : List (List Int)) : Prop where
  B : BD w bt b g y f lv log
  O : OwnL w (.slice y.a y.n y.cap) ups
theorem BW.ext {w w' : World} {bt b g : Nat} {y : LY} {f : Nat → Int} {lv : Value} {log : List Acc} {ups : List (List Int)} (h : BW w bt b g y f lv log ups) (hx : Ext w w') : BW w' bt b g y f lv log ups := ⟨h.B.ext hx, h.O.ext hx⟩
/-- a block of a type other than those that a graph is of -/
def Apart (w : World) (k : Nat) : Prop := ∃ t, Tag w k t ∧ t ≠ 35 ∧ t ≠ 3 ∧ t ≠ 121 ∧ t ≠ 152
theorem BW.but {S : Nat → Prop} {w w' : World} {bt b g : Nat} {y : LY} {f : Nat → Int} {lv : Value} {log : List Acc} {ups : List (List Int)} (h : BW w bt b g y f lv log ups) (hb : But S w w') (hs : ∀ k, Own b g lv k → ¬ S k) (ho : ∀ k, S k → k < w.heap.size → ∃ t, Tag w k t ∧ t ≠ 35 ∧ t ≠ 3) : BW w' bt b g y f lv log ups :=
  ⟨h.B.but hb hs, h.O.but hb (fun k hk hl => by
    obtain ⟨t, ⟨cur, ht⟩, h1, h2⟩ := ho k hk hl
    exact ⟨cur, t, _, ht, h1, h2⟩)⟩
theorem BWLayout32 (b g : Nat) (y : LY) (f : Nat → Int) (lv : Value) (log : List Acc) (ups : List (List Int)) (w : World) (K : BK y ups) (h : BW w 121 b g y f lv log ups) :
    Calls Tryz.prog 72 #[.pointer (some ⟨b, 0, none⟩)] w (LayDoes y ups w) :=
  Layout32 b g y f lv log ups w h.B h.O.lists K.ll K.hn K.ck K.lay
/-- a board's blocks are of no type that a graph is of -/
theorem own_tag32 {w : World} {b g : Nat} {y : LY} {f : Nat → Int} {lv : Value} {log : List Acc} (h : BD w 121 b g y f lv log) {k : Nat} (hk : Own b g lv k) : ∃ t, Tag w k t ∧ t ≠ 35 ∧ t ≠ 3 := by
  rcases hk with e | e | e
  · subst e; exact ⟨_, h.tb, by decide, by decide⟩
  · subst e; exact ⟨_, h.tg, by decide, by decide⟩
  · exact ⟨_, row_tagA h.row e, by decide, by decide⟩
theorem BWLayout64 (b g : Nat) (y : LY) (f : Nat → Int) (lv : Value) (log : List Acc) (ups : List (List Int)) (w : World) (K : BK y ups) (h : BW w 152 b g y f lv log ups) :
    Calls Tryz.prog 93 #[.pointer (some ⟨b, 0, none⟩)] w (LayDoes y ups w) :=
  Layout64 b g y f lv log ups w h.B h.O.lists K.ll K.hn K.ck K.lay
/-- a board's blocks are of no type that a graph is of -/
theorem own_tag64 {w : World} {b g : Nat} {y : LY} {f : Nat → Int} {lv : Value} {log : List Acc} (h : BD w 152 b g y f lv log) {k : Nat} (hk : Own b g lv k) : ∃ t, Tag w k t ∧ t ≠ 35 ∧ t ≠ 3 := by
  rcases hk with e | e | e
  · subst e; exact ⟨_, h.tb, by decide, by decide⟩
  · subst e; exact ⟨_, h.tg, by decide, by decide⟩
  · exact ⟨_, row_tagA h.row e, by decide, by decide⟩
/-- letters that are of a configuration -/
structure OfC (y : LY) (V W C P S : Int) (n : Nat) : Prop where
  v : y.V = V
  w : y.W = W
  c : y.C = C
  p : y.P = P
  s : y.S = S
  n : y.n = n
def OfBoard (V W C P S : Int) (ups : List (List Int)) (w : World) (e : Ending) (w' : World) : Prop :=
  ∃ y, BK y ups ∧ OfC y V W C P S ups.length ∧ e = .returned (.tuple #[(.agg #[.int .i64 (y.V), .int .i64 (y.W), .int .i64 (y.C), .int .i64 (y.P), .int .u64 (y.S), .slice y.a y.n y.cap, .int .i64 (y.Cu), .int .i64 (y.Cl), .int .i64 (y.Ti), .int .i64 (y.Se), .int .i64 (y.Ne), .int .i64 (y.Ma), .int .i64 (y.Sl), .int .i64 (y.m)]), .int .i64 0]) ∧ OwnL w' (.slice y.a y.n y.cap) ups ∧ Ext w w'
/-- the layout of a configuration that may be -/
theorem of_board (V W C P S : Int) (u : Value) (ups : List (List Int)) (w : World) (hL : ListsV w u ups) (hll : ∀ l ∈ ups, l.length ≤ 1000000) (hn : ups.length ≤ 1000000) (hg : ckC V W C P ups = 0) :
    Calls Tryz.prog 11 #[(.agg #[.int .i64 V, .int .i64 W, .int .i64 C, .int .i64 P, .int .u64 (S), u])] w (OfBoard V W C P S ups w) := by
  have ok := numOk (ok_iff.1 hg)
  have hbd := num_bounds ok
  refine (lOf_ok V W C P S u ups w hL hll hn hg).mono ?_
  rintro e w' ⟨u', rfl, O, X⟩
  obtain ⟨bo, fo, cuo, eo, -⟩ := id O
  obtain ⟨m, hm⟩ : ∃ m : Nat, (m : Int) = nCe V ups.length C := ⟨(nCe V ups.length C).toNat, by omega⟩
  subst eo
  have K := bk_of (W := W) (P := P) (S := S) (bo := bo) hll hm hg
  have hl := K.lay (.slice (some ⟨bo, 0, none⟩) ups.length ups.length)
  refine ⟨yOf V W C P S bo ups.length m, K, ⟨rfl, rfl, rfl, rfl, rfl, rfl⟩, ?_, O, X⟩
  exact congrArg (fun z => Ending.returned (.tuple #[z, .int .i64 0])) hl
def NewBoard (bt : Nat) (y0 : LY) (ups : List (List Int)) (w : World) (e : Ending) (w' : World) : Prop :=
  ∃ b g y, e = .returned (.pointer (some ⟨b, 0, none⟩)) ∧ BK y ups ∧ OfC y y0.V y0.W y0.C y0.P y0.S y0.n ∧ BW w' bt b g y (fsC y.V y.W y.C y.S y.n) (.slice none 0 0) [] ups ∧ Ext w w' ∧ w.heap.size ≤ b ∧ w.heap.size ≤ g
theorem new_board32 (y : LY) (ups : List (List Int)) (w : World) (K : BK y ups) (hw : y.W = 32) (hL : OwnL w (.slice y.a y.n y.cap) ups) (hS0 : 0 ≤ y.S) (hS1 : y.S < 18446744073709551616) :
    Calls Tryz.prog 18 #[(.agg #[.int .i64 (y.V), .int .i64 (y.W), .int .i64 (y.C), .int .i64 (y.P), .int .u64 (y.S), .slice y.a y.n y.cap, .int .i64 (y.Cu), .int .i64 (y.Cl), .int .i64 (y.Ti), .int .i64 (y.Se), .int .i64 (y.Ne), .int .i64 (y.Ma), .int .i64 (y.Sl), .int .i64 (y.m)])] w (NewBoard 121 y ups w) := by
  obtain ⟨V, W, C, P, S, a, n, cap, Cu, Cl, Ti, Se, Ne, Ma, Sl, m⟩ := y
  have hn := K.n
  have hm := K.m
  have hck := K.ck
  dsimp only at hw hn hm hck hL hS0 hS1 ⊢
  subst hw
  subst hn
  refine (New32 V C P S a cap ups Cu Cl Ti Se Ne Ma Sl m w hL.lists K.ll K.hn hck hS0 hS1 hm).mono ?_
  rintro e w' ⟨b, g, bo, rfl, B, O, X, hb, hg⟩
  exact ⟨b, g, yOf V 32 C P S bo ups.length m, rfl, bk_of K.ll hm hck, ⟨rfl, rfl, rfl, rfl, rfl, rfl⟩, ⟨B, O⟩, X, hb, hg⟩
theorem new_board64 (y : LY) (ups : List (List Int)) (w : World) (K : BK y ups) (hw : y.W = 64) (hL : OwnL w (.slice y.a y.n y.cap) ups) (hS0 : 0 ≤ y.S) (hS1 : y.S < 18446744073709551616) :
    Calls Tryz.prog 42 #[(.agg #[.int .i64 (y.V), .int .i64 (y.W), .int .i64 (y.C), .int .i64 (y.P), .int .u64 (y.S), .slice y.a y.n y.cap, .int .i64 (y.Cu), .int .i64 (y.Cl), .int .i64 (y.Ti), .int .i64 (y.Se), .int .i64 (y.Ne), .int .i64 (y.Ma), .int .i64 (y.Sl), .int .i64 (y.m)])] w (NewBoard 152 y ups w) := by
  obtain ⟨V, W, C, P, S, a, n, cap, Cu, Cl, Ti, Se, Ne, Ma, Sl, m⟩ := y
  have hn := K.n
  have hm := K.m
  have hck := K.ck
  dsimp only at hw hn hm hck hL hS0 hS1 ⊢
  subst hw
  subst hn
  refine (New64 V C P S a cap ups Cu Cl Ti Se Ne Ma Sl m w hL.lists K.ll K.hn hck hS0 hS1 hm).mono ?_
  rintro e w' ⟨b, g, bo, rfl, B, O, X, hb, hg⟩
  exact ⟨b, g, yOf V 64 C P S bo ups.length m, rfl, bk_of K.ll hm hck, ⟨rfl, rfl, rfl, rfl, rfl, rfl⟩, ⟨B, O⟩, X, hb, hg⟩
theorem BK.w2 {y : LY} {ups : List (List Int)} (K : BK y ups) : y.W = 32 ∨ y.W = 64 := K.ok.wd
theorem BK.first {y : LY} {ups : List (List Int)} (K : BK y ups) (hS0 : 0 ≤ y.S) (hS1 : y.S < 18446744073709551616) (i : Nat) : 0 ≤ fsC y.V y.W y.C y.S y.n i ∧ fsC y.V y.W y.C y.S y.n i < 18446744073709551616 :=
  fst_rng K.w2 K.ok.rc hS0 hS1 _ _
def RNewBoard (y : LY) (w : World) (e : Ending) (w' : World) : Prop :=
  ∃ b r, e = .returned (.pointer (some ⟨b, 0, none⟩)) ∧ RB w' b r (fsC y.V y.W y.C y.S y.n) (.slice none 0 0) [] ∧ Rel y r y.W ∧ r.V = y.V ∧ r.n = y.n ∧ r.P = y.P ∧ r.S = y.S ∧ Ext w w' ∧ w.heap.size ≤ b ∧ w.heap.size ≤ r.gh
/-- the document's board, beside letters that it is of -/
theorem rnew_board (V W C P S : Int) (a : Option Addr) (cap : Nat) (y : LY) (ups : List (List Int)) (w : World) (K : BK y ups) (hy : OfC y V W C P S ups.length) (hS0 : 0 ≤ S) :
    Calls Tryz.prog 19 #[(.agg #[.int .i64 V, .int .i64 W, .int .i64 C, .int .i64 P, .int .u64 (S), .slice a ups.length cap])] w (RNewBoard y w) := by
  have hok := K.num
  have hm := K.m
  have hc := K.ok.rc
  have hW := K.w2
  have he := K.eq
  obtain ⟨rfl, rfl, rfl, rfl, rfl, hn⟩ := hy
  rw [← hn]
  refine (rNew12b y.V y.W y.C y.P y.S a y.n cap y.m w hok hW hc hS0 hm).mono ?_
  rintro e w' ⟨b, r, rfl, R, rm, rW, rC, rk, X, hb, hg, rV, rn, rP, rS⟩
  obtain ⟨bo, e⟩ := he
  have hr := rel_of (P := y.P) (S := y.S) (bo := bo) hok hm rm rW rC rk
  rw [← e] at hr
  exact ⟨b, r, rfl, R, hr, rV, rn, rP, rS, X, hb, hg⟩
end Go.Proofs.YtkmfamidahlgiaaGreatDoor

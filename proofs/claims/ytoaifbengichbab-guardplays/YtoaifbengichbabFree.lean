/- Regions that draw their order, where new variables are laid and filled among reads and calls that make memory: 'x, y := f(..), g(..)'. No program in sight. -/
import Derived.Test.YtoaifbengichbabSeq
namespace Go.Proofs.Ytoaifbengichbab
open Go.RowKit
set_option linter.unusedVariables false
/-- what an operation of such a region does: it reads, or calls what makes memory; it lays a new variable; it fills the variable that number src has laid -/
inductive Role where
  | quiet
  | new (o : Obj)
  | set (src : Nat) (o : Obj)
def Role.isQuiet : Role → Bool | .quiet => true | _ => false
section
variable {P : Program} {ops : Array Oper} {md : Region.Mode} {C : World → Prop}
def dstOf (ops : Array Oper) (i : Nat) : Option Tmp := (ops[i]?).bind (·.dst)
/-- the listed operations' values stand in their slots, all else as in a0 -/
structure FR (ops : Array Oper) (a0 : Act) (val : Nat → Value) (L : Nat → Bool) (a : Act) : Prop where
  defers : a.defers = a0.defers
  size : a.tmps.size = a0.tmps.size
  on : ∀ t i, t < a0.tmps.size → dstOf ops i = some t → L i = true → a.tmps.getD t undef = val i
  off : ∀ t, t < a0.tmps.size → (∀ i, dstOf ops i = some t → L i = false) → a.tmps.getD t undef = a0.tmps.getD t undef
def distinctD (ops : Array Oper) : Prop := ∀ i j t, dstOf ops i = some t → dstOf ops j = some t → i = j
theorem getD_put {a : Act} {d t : Nat} {v : Value} (ht : t < a.tmps.size) : (a.put (some d) v).tmps.getD t undef = if d = t then v else a.tmps.getD t undef := by
  by_cases e : d = t
  · subst e; simp [Act.put, ht]
  · rw [if_neg e]; simp only [Act.put, Array.getD_eq_getD_getElem?, Array.getElem?_setIfInBounds_ne e]
theorem FR.put {a0 a : Act} {val : Nat → Value} {L : Nat → Bool} (h : FR ops a0 val L a) (hd : distinctD ops) (i : Nat) (v : Value) (hv : val i = v) : FR ops a0 val (fun j => if j = i then true else L j) (a.put (dstOf ops i) v) := by
  cases hi : dstOf ops i with
  | none =>
    refine ⟨h.defers, h.size, fun t j ht hj hl => ?_, fun t ht ho => h.off t ht fun j hj => ?_⟩
    · by_cases e : j = i
      · subst e; rw [hi] at hj; cases hj
      · simp only [e, if_false] at hl; exact h.on t j ht hj hl
    · have := ho j hj
      by_cases e : j = i
      · subst e; simp at this
      · simpa [e] using this
  | some d =>
    refine ⟨h.defers, by simpa [Act.put] using h.size, fun t j ht hj hl => ?_, fun t ht ho => ?_⟩
    · rw [getD_put (by rw [h.size]; exact ht)]
      by_cases e : d = t
      · subst e
        rw [if_pos rfl, hd j i d hj hi, hv]
      · rw [if_neg e]
        have hji : j ≠ i := fun c => by subst c; rw [hi] at hj; cases hj; exact e rfl
        simp only [hji, if_false] at hl
        exact h.on t j ht hj hl
    · rw [getD_put (by rw [h.size]; exact ht)]
      have hdt : d ≠ t := fun c => by subst c; have := ho i hi; simp at this
      rw [if_neg hdt]
      refine h.off t ht fun j hj => ?_
      have := ho j hj
      by_cases e : j = i
      · subst e; simp at this
      · simpa [e] using this
theorem FR.refl (ops : Array Oper) (a0 : Act) (val : Nat → Value) : FR ops a0 val (fun _ => false) a0 := ⟨rfl, rfl, fun _ _ _ _ h => (by cases h), fun _ _ _ => rfl⟩
/-- two frames agree on what an operation looks at, if all that makes it is listed in both -/
theorem FR.agree {a0 a b : Act} {val val' : Nat → Value} {L M : Nat → Bool} (h : FR ops a0 val L a) (k : FR ops a0 val' M b) {t : Nat} (hL : ∀ i, dstOf ops i = some t → L i = true ∧ M i = true ∧ val i = val' i) :
    a.tmps.getD t undef = b.tmps.getD t undef := by
  by_cases ht : t < a0.tmps.size
  · by_cases hex : ∃ i, dstOf ops i = some t
    · obtain ⟨i, hi⟩ := hex
      obtain ⟨h1, h2, h3⟩ := hL i hi
      rw [h.on t i ht hi h1, k.on t i ht hi h2, h3]
    · rw [h.off t ht fun i hi => absurd ⟨i, hi⟩ hex, k.off t ht fun i hi => absurd ⟨i, hi⟩ hex]
  · have e1 : a.tmps[t]? = none := Array.getElem?_eq_none (by rw [h.size]; omega)
    have e2 : b.tmps[t]? = none := Array.getElem?_eq_none (by rw [k.size]; omega)
    simp [Array.getD_eq_getD_getElem?, e1, e2]
theorem FR.exec {a0 a b : Act} {val val' : Nat → Value} {L M : Nat → Bool} (h : FR ops a0 val L a) (k : FR ops a0 val' M b) (o : Oper) (hs : ∀ cs b, o.op ≠ .select cs b)
    (hL : ∀ t ∈ o.looksAt ops, ∀ i, dstOf ops i = some t → L i = true ∧ M i = true ∧ val i = val' i) : execOp a.eval o = execOp b.eval o :=
  execOp_congr o hs fun x hx => by
    cases x with
    | tmp t => exact h.agree k (hL t (List.mem_append_left _ (List.mem_filterMap.2 ⟨.tmp t, by simpa using hx, rfl⟩)))
    | _ => rfl
theorem FR.wanted {a0 a b : Act} {val val' : Nat → Value} {L M : Nat → Bool} (h : FR ops a0 val L a) (k : FR ops a0 val' M b) (o : Oper)
    (hL : ∀ t ∈ o.looksAt ops, ∀ i, dstOf ops i = some t → L i = true ∧ M i = true ∧ val i = val' i) : Region.wanted o (yielded ops a.tmps) = Region.wanted o (yielded ops b.tmps) := by
  unfold Region.wanted
  cases hg : o.guard with
  | none => rfl
  | some p =>
    obtain ⟨g, want⟩ := p
    have e : yielded ops a.tmps g = yielded ops b.tmps g := by
      unfold yielded
      cases hd : (ops[g]?).bind (·.dst) with
      | none => rfl
      | some t =>
        have ha := h.agree k (hL t (List.mem_append_right _ (by simp [hg, hd])))
        have hsz : a.tmps.size = b.tmps.size := h.size.trans k.size.symm
        have : a.tmps[t]? = b.tmps[t]? := by
          by_cases ht : t < a.tmps.size
          · have ht' : t < b.tmps.size := hsz ▸ ht
            simp [Array.getD_eq_getD_getElem?, ht, ht'] at ha
            simp [ht, ht', ha]
          · have h1 : a.tmps.size ≤ t := Nat.not_lt.1 ht
            rw [Array.getElem?_eq_none h1, Array.getElem?_eq_none (hsz ▸ h1)]
        simp [this]
    simp only [e]
theorem FR.eq {a0 a b : Act} {val : Nat → Value} {L : Nat → Bool} (h : FR ops a0 val L a) (k : FR ops a0 val L b) (hL : ∀ i t, dstOf ops i = some t → L i = true) : a = b := by
  have hd : a.defers = b.defers := h.defers.trans k.defers.symm
  have ht : a.tmps = b.tmps := by
    apply Array.ext (h.size.trans k.size.symm)
    intro t h1 h2
    have := h.agree k (t := t) fun i hi => ⟨hL i t hi, hL i t hi, rfl⟩
    simpa [Array.getD_eq_getD_getElem?, h1, h2] using this
  cases a; cases b; simp_all
/-- the quiet operations, put in the order of the text -/
def puts (ops : Array Oper) (V : Nat → Value) (is : List Nat) (a : Act) : Act := is.foldl (fun a i => a.put (dstOf ops i) (V i)) a
theorem puts_congr {V V' : Nat → Value} : ∀ (is : List Nat) (a : Act), (∀ i ∈ is, V i = V' i) → puts ops V is a = puts ops V' is a
  | [], _, _ => rfl
  | i :: is, a, h => by
    show puts ops V is (a.put (dstOf ops i) (V i)) = puts ops V' is (a.put (dstOf ops i) (V' i))
    rw [h i (by simp)]
    exact puts_congr is _ fun j hj => h j (by simp [hj])
/-- the lexical walk of the quiet ones names their values -/
theorem lex_vals {Q : Act → Prop} : ∀ (is : List Nat) (os : List Oper) (a : Act), is.Nodup → os.length = is.length → (∀ k : Nat, os[k]? = (is[k]?).bind fun i => ops[i]?) → (∀ i ∈ is, i < ops.size) → wpQuiet P ops C Q os a →
    ∃ V : Nat → Value, Q (puts ops V is a) ∧ ∀ (k i : Nat) (o : Oper), is[k]? = some i → ops[i]? = some o → YieldsIn P ops C o (V i) (puts ops V (is.take k) a)
  | [], [], a, _, _, _, _, h => ⟨fun _ => undef, h, fun k i o hk => by simp at hk⟩
  | [], _ :: _, a, _, hlen, _, _, _ => by simp at hlen
  | _ :: _, [], a, _, hlen, _, _, _ => by simp at hlen
  | i :: is, o :: os, a, hnd, hlen, hos, hlt, h => by
    have ho : ops[i]? = some o := by have := hos 0; simpa using this.symm
    have hq : qOp P ops C i (wpQuiet P ops C Q os) a := by unfold qOp; simp only [ho]; exact h
    obtain ⟨v, hy, hK⟩ := yieldsIn_of_qOp ho hq
    have hd : dstOf ops i = o.dst := by simp [dstOf, ho]
    rw [← hd] at hK
    obtain ⟨V, hQ, hV⟩ := lex_vals is os _ (List.nodup_cons.1 hnd).2 (by simpa using hlen) (fun k => by have := hos (k + 1); simpa using this) (fun j hj => hlt j (by simp [hj])) hK
    have hni : i ∉ is := (List.nodup_cons.1 hnd).1
    have ne : ∀ j ∈ is, (if j = i then v else V j) = V j := fun j hj => by
      rw [if_neg]; rintro rfl; exact hni hj
    refine ⟨fun j => if j = i then v else V j, ?_, fun k j oj hk hoj => ?_⟩
    · show Q (puts ops _ is (a.put (dstOf ops i) (if i = i then v else V i)))
      rw [if_pos rfl, puts_congr is _ ne]
      exact hQ
    · cases k with
      | zero =>
        simp at hk
        subst hk
        have : oj = o := Option.some.inj (hoj.symm.trans ho)
        subst this
        simpa [puts] using hy
      | succ k =>
        simp at hk
        have hj : j ∈ is := List.mem_of_getElem? hk
        have := hV k j oj hk hoj
        show YieldsIn P ops C oj (if j = i then v else V j) (puts ops _ (is.take k) (a.put (dstOf ops i) (if i = i then v else V i)))
        rw [ne j hj, if_pos rfl, puts_congr (is.take k) _ fun m hm => ne m (List.mem_of_mem_take hm)]
        exact this
theorem puts_FR {V : Nat → Value} {a0 : Act} (hd : distinctD ops) : ∀ (is : List Nat), ∀ (a : Act) (L : Nat → Bool), FR ops a0 V L a → FR ops a0 V (fun j => L j || decide (j ∈ is)) (puts ops V is a)
  | [], a, L, h => by simpa [puts] using h
  | i :: is, a, L, h => by
    have := puts_FR hd is (a.put (dstOf ops i) (V i)) _ (h.put hd i (V i) rfl)
    have e : (fun j => (if j = i then true else L j) || decide (j ∈ is)) = fun j => L j || decide (j ∈ i :: is) := by
      funext j
      by_cases hj : j = i <;> simp [hj]
    rw [e] at this
    exact this
/-- where an operation looks, what has made it stands ahead and is waited for -/
def looksB (md : Region.Mode) (ops : Array Oper) (i : Nat) (ok : Nat → Bool) : Bool :=
  match ops[i]? with
  | none => true
  | some o => (o.looksAt ops).all fun t => (List.range ops.size).all fun k => (dstOf ops k != some t) || (decide (k < i) && Region.waitsFor md ops i k && ok k)
def distinctB (ops : Array Oper) : Bool := (List.range ops.size).all fun i => (List.range ops.size).all fun j => decide (i = j) || (dstOf ops i).isNone || (dstOf ops i != dstOf ops j)
def roleAt (rs : List Role) (i : Nat) : Role := rs.getD i .quiet
def edgesB (md : Region.Mode) (ops : Array Oper) : Bool := (List.range ops.size).all fun i => match ops[i]? with | none => true | some o => o.after.all fun e => !Region.binds md e || decide (e.on < i)
def quietIdx (rs : List Role) (n : Nat) : List Nat := (List.range n).filter fun i => (roleAt rs i).isQuiet
/-- each one by its role -/
def roleB (md : Region.Mode) (ops : Array Oper) (rs : List Role) (i : Nat) : Bool :=
  match roleAt rs i with
  | .quiet => looksB md ops i fun k => (roleAt rs k).isQuiet
  | .new _ => ((ops[i]?).map fun o => o.guard.isNone).getD false && (dstOf ops i).isSome
  | .set src _ => looksB md ops i (fun _ => true) && ((ops[i]?).map fun o => o.guard.isNone && o.dst.isNone).getD false && Region.waitsFor md ops i src && (match roleAt rs src with | .new _ => true | _ => false) &&
      (List.range ops.size).all fun j => decide (j = i) || (match roleAt rs j with | .set s _ => decide (s ≠ src) | _ => true)
def freeB (md : Region.Mode) (ops : Array Oper) (rs : List Role) : Bool := Region.noSelect ops && distinctB ops && edgesB md ops && decide (rs.length = ops.size) && (List.range ops.size).all fun i => roleB md ops rs i
theorem dst_lt {i t : Nat} (h : dstOf ops i = some t) : i < ops.size := by
  unfold dstOf at h
  rcases Nat.lt_or_ge i ops.size with h' | h'
  · exact h'
  · rw [Array.getElem?_eq_none h'] at h; cases h
theorem distinct_of (h : distinctB ops = true) : distinctD ops := by
  intro i j t hi hj
  have h1 := List.all_eq_true.1 (List.all_eq_true.1 h i (List.mem_range.2 (dst_lt hi))) j (List.mem_range.2 (dst_lt hj))
  simp only [Bool.or_eq_true, decide_eq_true_eq] at h1
  rcases h1 with (h1 | h1) | h1
  · exact h1
  · rw [hi] at h1; cases h1
  · rw [hi, hj] at h1; simp at h1
theorem looks_of {i : Nat} {o : Oper} {ok : Nat → Bool} (ho : ops[i]? = some o) (h : looksB md ops i ok = true) {t : Nat} (ht : t ∈ o.looksAt ops) {k : Nat} (hk : dstOf ops k = some t) : k < i ∧ Region.waitsFor md ops i k = true ∧ ok k = true := by
  unfold looksB at h
  simp only [ho] at h
  have h1 := List.all_eq_true.1 (List.all_eq_true.1 h t ht) k (List.mem_range.2 (dst_lt hk))
  simp only [Bool.or_eq_true, Bool.and_eq_true, decide_eq_true_eq, hk] at h1
  rcases h1 with h1 | h1
  · simp at h1
  · exact ⟨h1.1.1, h1.1.2, h1.2⟩
theorem waits_listed {listed : Array Bool} {i k : Nat} (hr : i ∈ Region.ready md ops listed) (h : Region.waitsFor md ops i k = true) : listed.getD k false = true := by
  obtain ⟨o, ho, e, he, hb, hon⟩ := Region.waitsFor_spec h
  obtain ⟨_, o', ho', hall⟩ := mem_ready.1 hr
  have : o = o' := Option.some.inj (ho.symm.trans ho')
  subst this
  rw [← hon]
  exact hall e he hb
/-- how many have not come up -/
def left (listed : Array Bool) : Nat := listed.toList.count false
theorem left_set {listed : Array Bool} {i : Nat} (h : listed.getD i true = false) : left (listed.setIfInBounds i true) + 1 = left listed := by
  have hi : i < listed.size := by
    rcases Nat.lt_or_ge i listed.size with h' | h'
    · exact h'
    · simp [Array.getElem?_eq_none h'] at h
  have hv : listed.toList[i]'(by simpa using hi) = false := by simpa [hi] using h
  have hpos : 0 < listed.toList.count false := List.count_pos_iff.2 (by rw [← hv]; exact List.getElem_mem _)
  have e : (listed.toList.set i true).count false = listed.toList.count false - 1 := by
    rw [List.count_set (by simpa using hi), hv]
    rfl
  unfold left
  rw [Array.toList_setIfInBounds, e]
  omega
theorem ready_nil_of_left {listed : Array Bool} (hs : listed.size = ops.size) (h : left listed = 0) : ∀ i, i < ops.size → listed.getD i false = true := by
  intro i hi
  have h0 := List.count_eq_zero.1 h
  have hi' : i < listed.size := by omega
  cases hb : listed[i] with
  | true => simp [hi', hb]
  | false => exact absurd (by rw [← hb, ← Array.getElem_toList]; exact List.getElem_mem _) h0
theorem all_of_ready_nil {listed : Array Bool} (hs : listed.size = ops.size) (he : edgesB md ops = true) (h : Region.ready md ops listed = []) : ∀ i, i < ops.size → listed.getD i false = true := by
  intro i
  induction i using Nat.strongRecOn with
  | _ i ih =>
    intro hi
    cases hl : listed.getD i false with
    | true => rfl
    | false =>
      have ho : ops[i]? = some ops[i] := Array.getElem?_eq_getElem hi
      have hm : i ∈ Region.ready md ops listed := by
        refine mem_ready.2 ⟨getD_in (by omega) hl, _, ho, fun e hee hb => ?_⟩
        have h1 := List.all_eq_true.1 he i (List.mem_range.2 hi)
        simp only [ho] at h1
        have h2 := Array.all_eq_true_iff_forall_mem.1 h1 e hee
        simp [hb] at h2
        exact ih e.on h2 (by omega)
      rw [h] at hm
      cases hm
/-- what a new variable holds: what was stored, or what it had at first -/
def objAt (rs : List Role) (n : Nat) (L : Nat → Bool) (i : Nat) (o : Obj) : Obj :=
  match (List.range n).find? fun k => L k && (match roleAt rs k with | .set s _ => decide (s = i) | _ => false) with
  | some k => (match roleAt rs k with | .set _ o' => o' | _ => o)
  | none => o
def valAt (rs : List Role) (V : Nat → Value) (B : Nat → Nat) (i : Nat) : Value :=
  match roleAt rs i with
  | .quiet => V i
  | .new _ => .pointer (some ⟨B i, 0, none⟩)
  | .set _ _ => undef
/-- the blocks of the new variables that are there: beyond w0, unlike each other, with what they hold -/
structure News (rs : List Role) (n : Nat) (w0 : World) (B : Nat → Nat) (L : Nat → Bool) (w : World) : Prop where
  beyond : ∀ i o, roleAt rs i = .new o → L i = true → w0.heap.size ≤ B i
  holds : ∀ i o, roleAt rs i = .new o → L i = true → w.heap[B i]? = some (objAt rs n L i o)
  apart : ∀ i j o o', roleAt rs i = .new o → roleAt rs j = .new o' → L i = true → L j = true → i ≠ j → B i ≠ B j
  src : ∀ k s o', roleAt rs k = .set s o' → L k = true → L s = true
theorem objAt_same {rs : List Role} {n : Nat} {L M : Nat → Bool} {i : Nat} {o : Obj} (h : ∀ k s o', roleAt rs k = .set s o' → s = i → L k = M k) : objAt rs n L i o = objAt rs n M i o := by
  unfold objAt
  have : (fun k => L k && (match roleAt rs k with | .set s _ => decide (s = i) | _ => false)) = fun k => M k && (match roleAt rs k with | .set s _ => decide (s = i) | _ => false) := by
    funext k
    cases hk : roleAt rs k with
    | set s o' =>
      by_cases e : s = i
      · rw [h k s o' hk e]
      · simp [e]
    | _ => simp
  rw [this]
theorem objAt_set {rs : List Role} {n : Nat} {L : Nat → Bool} {i k : Nat} {o o' : Obj} (hk : k < n) (hr : roleAt rs k = .set i o') (hL : L k = true) (hu : ∀ j o2, j < n → roleAt rs j = .set i o2 → j = k) : objAt rs n L i o = o' := by
  unfold objAt
  cases hf : (List.range n).find? fun k => L k && (match roleAt rs k with | .set s _ => decide (s = i) | _ => false) with
  | none =>
    have := List.find?_eq_none.1 hf k (List.mem_range.2 hk)
    simp [hL, hr] at this
  | some j =>
    have h1 := List.find?_some hf
    have h2 := List.mem_range.1 (List.mem_of_find?_eq_some hf)
    simp only [Bool.and_eq_true] at h1
    cases hj : roleAt rs j with
    | set s o2 =>
      rw [hj] at h1
      simp at h1
      obtain ⟨_, rfl⟩ := h1
      have := hu j o2 h2 hj
      subst this
      simp [hr]
    | _ => rw [hj] at h1; simp at h1
theorem objAt_none {rs : List Role} {n : Nat} {L : Nat → Bool} {i : Nat} {o : Obj} (h : ∀ k s o', roleAt rs k = .set s o' → s = i → L k = false) : objAt rs n L i o = o := by
  unfold objAt
  cases hf : (List.range n).find? fun k => L k && (match roleAt rs k with | .set s _ => decide (s = i) | _ => false) with
  | none => rfl
  | some j =>
    have h1 := List.find?_some hf
    simp only [Bool.and_eq_true] at h1
    cases hj : roleAt rs j with
    | set s o2 =>
      rw [hj] at h1
      simp at h1
      have := h j s o2 hj h1.2
      rw [this] at h1
      cases h1.1
    | _ => rw [hj] at h1; simp at h1
/-- a world that came out of w0 and keeps F -/
structure LaterF (w0 : World) (F : World → Prop) where
  world : World
  ok : Ext w0 world
  keep : F world
def Closed (F : World → Prop) : Prop := ∀ W W', F W → Ext W W' → F W'
theorem laterF_cell (w0 : World) (F : World → Prop) : ∀ (g : LaterF w0 F) (b o : Nat), b < w0.heap.size → g.world.cell? ⟨b, o, none⟩ = w0.cell? ⟨b, o, none⟩ := fun g b o h => g.ok.cells.1 b o h
theorem laterFC {f : FuncId} {args : Array Value} {w0 : World} {F : World → Prop} (hF : Closed F) {g : LaterF w0 F} {v : Value}
    (h : Calls P f args g.world fun e w' => e = .returned v ∧ Ext g.world w') : Calls P f args g.world fun e w'' => e = .returned v ∧ ∃ g' : LaterF w0 F, w'' = g'.world :=
  h.mono fun _ w'' ⟨he, hm⟩ => ⟨he, ⟨w'', g.ok.trans hm, hF _ _ g.keep hm⟩, rfl⟩
theorem laterFS {f : FuncId} {args : Array Value} {w0 : World} {F : World → Prop} {g : LaterF w0 F} {v : Value}
    (h : Calls P f args g.world fun e w' => e = .returned v ∧ g.world = w') : Calls P f args g.world fun e w'' => e = .returned v ∧ ∃ g' : LaterF w0 F, w'' = g'.world :=
  h.mono fun _ w'' ⟨he, hm⟩ => ⟨he, g, hm.symm⟩
theorem FR.congr {a0 a : Act} {val val' : Nat → Value} {L M : Nat → Bool} (h : FR ops a0 val L a) (hL : ∀ i t, dstOf ops i = some t → L i = M i) (hv : ∀ i t, dstOf ops i = some t → L i = true → val i = val' i) : FR ops a0 val' M a :=
  ⟨h.defers, h.size, fun t i ht hi hm => (h.on t i ht hi (by rw [hL i t hi]; exact hm)).trans (hv i t hi (by rw [hL i t hi]; exact hm)), fun t ht ho => h.off t ht fun i hi => by rw [hL i t hi]; exact ho i hi⟩
theorem News.ext {rs : List Role} {n : Nat} {w0 : World} {B : Nat → Nat} {L : Nat → Bool} {w w' : World} (h : News rs n w0 B L w) (hx : Ext w w') : News rs n w0 B L w' :=
  ⟨h.beyond, fun i o hr hl => (hx.but (fun _ => False)).heap (h.holds i o hr hl) id, h.apart, h.src⟩
theorem News.congr {rs : List Role} {n : Nat} {w0 : World} {B : Nat → Nat} {L M : Nat → Bool} {w : World} (h : News rs n w0 B L w) (hL : ∀ i, roleAt rs i ≠ .quiet → L i = M i) (hS : ∀ k s o', roleAt rs k = .set s o' → M k = true → M s = true) : News rs n w0 B M w := by
  have key : ∀ i o, roleAt rs i = .new o → L i = M i := fun i o hr => hL i (by rw [hr]; intro e; cases e)
  refine ⟨fun i o hr hm => h.beyond i o hr (by rw [key i o hr]; exact hm), fun i o hr hm => ?_, fun i j o o' hi hj h1 h2 => h.apart i j o o' hi hj (by rw [key i o hi]; exact h1) (by rw [key j o' hj]; exact h2), hS⟩
  rw [h.holds i o hr (by rw [key i o hr]; exact hm)]
  exact congrArg some (objAt_same fun k s o' hk _ => hL k (by rw [hk]; intro e; cases e))
theorem role_lt {rs : List Role} {n i : Nat} (hl : rs.length = n) (h : roleAt rs i ≠ .quiet) : i < n := by
  rcases Nat.lt_or_ge i n with h' | h'
  · exact h'
  · exfalso; apply h; unfold roleAt; simp [List.getD_eq_getElem?_getD, List.getElem?_eq_none (by omega : rs.length ≤ i)]
/-- whatever order -/
theorem free_any {rs : List Role} {a0 : Act} {w0 : World} {V : Nat → Value} {aF : (Nat → Nat) → Act} {Q : Exit → Act → World → Prop} (hfree : freeB md ops rs = true)
    (hq : ∀ i o, ops[i]? = some o → roleAt rs i = .quiet → ∀ w, Ext w0 w → ∃ a' L', FR ops a0 V L' a' ∧ (∀ t ∈ o.looksAt ops, ∀ k, dstOf ops k = some t → L' k = true) ∧ YieldsIn P ops (fun W => Ext w0 W ∧ Ext w W) o (V i) a')
    (hnew : ∀ i o op, roleAt rs i = .new o → ops[i]? = some op → ∀ (ρ : Operand → Value) w, (execOp ρ op).run P w = .ok (.value (.pointer (some ⟨w.heap.size, 0, none⟩))) (w.alloc o))
    (hfr : ∀ B, FR ops a0 (valAt rs V B) (fun _ => true) (aF B))
    (hset : ∀ B i s o' op, roleAt rs i = .set s o' → ops[i]? = some op → ∀ o, roleAt rs s = .new o → ∀ w, w.heap[B s]? = some o → ∃ r w', (execOp (aF B).eval op).run P w = .ok r w' ∧ (r = .skip ∨ ∃ u, r = .value u) ∧ w'.heap[B s]? = some o' ∧ But (· = B s) w w')
    (hQ : ∀ B W, Ext w0 W → News rs ops.size w0 B (fun _ => true) W → Q .normal (aF B) W) :
    ∀ (f : Nat) (listed : Array Bool) (B : Nat → Nat) (a : Act) (w : World), listed.size = ops.size → left listed ≤ f → FR ops a0 (valAt rs V B) (fun i => listed.getD i false) a → Ext w0 w →
      News rs ops.size w0 B (fun i => listed.getD i false) w → wpAny P md ops Q f listed a w := by
  simp only [freeB, Bool.and_eq_true, decide_eq_true_eq] at hfree
  obtain ⟨⟨⟨⟨hsel, hdis⟩, hedge⟩, hlen⟩, hroles⟩ := hfree
  have hd := distinct_of hdis
  have hs := Region.noSelect_spec hsel
  have fin : ∀ (listed : Array Bool) (B : Nat → Nat) (a : Act) (w : World), (∀ i, i < ops.size → listed.getD i false = true) → FR ops a0 (valAt rs V B) (fun i => listed.getD i false) a → Ext w0 w →
      News rs ops.size w0 B (fun i => listed.getD i false) w → Q .normal a w := by
    intro listed B a w hall hF hx hN
    have e : a = aF B := (hF.congr (M := fun _ => true) (fun i t hi => hall i (dst_lt hi)) (fun _ _ _ _ => rfl)).eq (hfr B) (fun _ _ _ => rfl)
    rw [e]
    exact hQ B w hx (hN.congr (fun i hi => hall i (role_lt hlen hi)) (fun _ _ _ _ _ => rfl))
  intro f
  induction f with
  | zero =>
    intro listed B a w hsz hle hF hx hN
    have hall := ready_nil_of_left hsz (by omega)
    refine ⟨?_, fin listed B a w hall hF hx hN⟩
    rw [List.eq_nil_iff_forall_not_mem]
    intro i hi
    obtain ⟨h1, o, ho, _⟩ := mem_ready.1 hi
    have := hall i (Array.getElem?_eq_some_iff.1 ho).1
    rw [getD_both h1] at this
    cases this
  | succ f ih =>
    intro listed B a w hsz hle hF hx hN
    refine ⟨fun h0 => fin listed B a w (all_of_ready_nil hsz hedge h0) hF hx hN, fun i hi => ?_⟩
    obtain ⟨hun, o, ho, _⟩ := mem_ready.1 hi
    have hilt := (Array.getElem?_eq_some_iff.1 ho).1
    have hunf := getD_both hun
    have hleft := left_set hun
    have hdst : dstOf ops i = o.dst := by simp [dstOf, ho]
    have hrole := List.all_eq_true.1 hroles i (List.mem_range.2 hilt)
    have hLi : ∀ j, (listed.setIfInBounds i true).getD j false = if j = i then true else listed.getD j false := by
      intro j
      by_cases e : j = i
      · subst e; have : j < listed.size := by omega
        simp [this]
      · rw [if_neg e, getD_set_ne false (Ne.symm e)]
    have hLfun : (fun j => (listed.setIfInBounds i true).getD j false) = fun j => if j = i then true else listed.getD j false := funext hLi
    unfold roleB at hrole
    cases hr : roleAt rs i with
    | quiet =>
      rw [hr] at hrole
      obtain ⟨a', L', hF', hl', hy⟩ := hq i o ho hr w hx
      have look : ∀ t ∈ o.looksAt ops, ∀ k, dstOf ops k = some t → listed.getD k false = true ∧ L' k = true ∧ valAt rs V B k = V k := fun t ht k hk => by
        obtain ⟨_, h2, h3⟩ := looks_of ho hrole ht hk
        refine ⟨waits_listed hi h2, hl' t ht k hk, ?_⟩
        unfold valAt
        cases hk' : roleAt rs k with
        | quiet => rfl
        | _ => rw [hk'] at h3; simp [Role.isQuiet] at h3
      have hya : YieldsIn P ops (fun W => Ext w0 W ∧ Ext w W) o (V i) a := hy.of_same (hF.exec hF' o (fun cs b => hs i o cs b ho) look) (hF.wanted hF' o look)
      refine wpOp_of_qOp (C := fun W => Ext w0 W ∧ Ext w W) (K := fun a'' => a'' = a.put o.dst (V i)) ⟨hx, Ext.refl w⟩ (fun a'' w' hC' e => ?_) (hya.qOp ho rfl)
      subst e
      refine ih _ B _ w' (by simp [hsz]) (by omega) ?_ hC'.1 ?_
      · rw [hLfun, ← hdst]
        exact hF.put hd i (V i) (by unfold valAt; rw [hr])
      · rw [hLfun]
        refine (hN.ext hC'.2).congr (fun j hj => ?_) (fun k s o' hk hl => ?_)
        · have : j ≠ i := fun e => by subst e; exact hj hr
          simp [this]
        · have hki : k ≠ i := fun e => by subst e; rw [hr] at hk; cases hk
          rw [if_neg hki] at hl
          by_cases e : s = i
          · rw [if_pos e]
          · rw [if_neg e]; exact hN.src k s o' hk hl
    | new ob =>
      rw [hr] at hrole
      simp only [Bool.and_eq_true] at hrole
      have hg : o.guard = none := by have := hrole.1; simp [ho] at this; exact this
      have hrun := hnew i ob o hr ho a.eval w
      have hwant : Region.wanted o (yielded ops a.tmps) = true := by simp [Region.wanted, hg]
      unfold wpOp
      simp only [ho, hwant, if_true]
      refine .inl ?_
      unfold Oper.wp
      rw [hrun]
      simp only [Oper.upon]
      have hBne : ∀ j o', roleAt rs j = .new o' → listed.getD j false = true → B j < w.heap.size := fun j o' hj hl => (Array.getElem?_eq_some_iff.1 (hN.holds j o' hj hl)).1
      refine ih _ (fun j => if j = i then w.heap.size else B j) _ _ (by simp [hsz]) (by omega) ?_ (hx.alloc _) ?_
      · rw [hLfun, ← hdst]
        refine FR.put (hF.congr (fun _ _ _ => rfl) fun j t hj hl => ?_) hd i _ (by unfold valAt; rw [hr]; simp)
        have hji : j ≠ i := fun e => by subst e; rw [hunf] at hl; cases hl
        unfold valAt
        cases hrj : roleAt rs j <;> simp [hji]
      · rw [hLfun]
        have XA : Ext w (w.alloc ob) := (Ext.refl w).alloc _
        refine ⟨fun j o' hj hl => ?_, fun j o' hj hl => ?_, fun j k o1 o2 hj hk h1 h2 hne => ?_, fun k s o' hk hl => ?_⟩
        · by_cases e : j = i
          · rw [if_pos e]; exact hx.size
          · rw [if_neg e] at hl ⊢; exact hN.beyond j o' hj hl
        · by_cases e : j = i
          · subst e
            have : o' = ob := by rw [hr] at hj; cases hj; rfl
            subst this
            simp only [if_true]
            rw [World.alloc_heap_new]
            refine congrArg some (objAt_none fun k s o2 hk hs2 => ?_).symm
            have hkn : k ≠ j := fun e => by subst e; rw [hr] at hk; cases hk
            rw [if_neg hkn]
            cases hlk : listed.getD k false with
            | false => rfl
            | true =>
              have := hN.src k s o2 hk hlk
              rw [hs2] at this
              rw [hunf] at this
              cases this
          · simp only [e, if_false] at hl ⊢
            have h1 := (XA.but (fun _ => False)).heap (hN.holds j o' hj hl) id
            rw [h1]
            refine congrArg some (objAt_same fun k s o2 hk _ => ?_)
            have hkn : k ≠ i := fun e => by subst e; rw [hr] at hk; cases hk
            simp [hkn]
        · by_cases e1 : j = i
          · have e2 : k ≠ i := fun e => hne (e1.trans e.symm)
            rw [if_neg e2] at h2
            rw [if_pos e1, if_neg e2]
            have := hBne k o2 hk h2
            omega
          · rw [if_neg e1] at h1
            rw [if_neg e1]
            by_cases e2 : k = i
            · rw [if_pos e2]
              have := hBne j o1 hj h1
              omega
            · rw [if_neg e2] at h2 ⊢
              exact hN.apart j k o1 o2 hj hk h1 h2 hne
        · have hki : k ≠ i := fun e => by subst e; rw [hr] at hk; cases hk
          rw [if_neg hki] at hl
          by_cases e : s = i
          · rw [if_pos e]
          · rw [if_neg e]; exact hN.src k s o' hk hl
    | set src ob =>
      rw [hr] at hrole
      simp only [Bool.and_eq_true] at hrole
      obtain ⟨⟨⟨⟨hlook, hgd⟩, hw⟩, hsrc⟩, huniq⟩ := hrole
      have hg : o.guard = none ∧ o.dst = none := by simpa [ho] using hgd
      obtain ⟨o1, ho1⟩ : ∃ o1, roleAt rs src = .new o1 := by
        cases h : roleAt rs src with
        | new o1 => exact ⟨o1, rfl⟩
        | _ => rw [h] at hsrc; cases hsrc
      have hls := waits_listed hi hw
      have uniq : ∀ j o2, j < ops.size → roleAt rs j = .set src o2 → j = i := fun j o2 hj hjr => by
        have := List.all_eq_true.1 huniq j (List.mem_range.2 hj)
        simp only [Bool.or_eq_true, decide_eq_true_eq] at this
        rcases this with h | h
        · exact h
        · rw [hjr] at h; simp at h
      have hheap : w.heap[B src]? = some o1 := by
        rw [hN.holds src o1 ho1 hls]
        refine congrArg some (objAt_none fun k s o2 hk hs2 => ?_)
        subst hs2
        rw [uniq k o2 (role_lt hlen (by rw [hk]; intro e; cases e)) hk]
        exact hunf
      obtain ⟨r, w', hrun, hkind, hnow, hbut⟩ := hset B i src ob o hr ho o1 ho1 w hheap
      have hex : execOp a.eval o = execOp (aF B).eval o := hF.exec (hfr B) o (fun cs b => hs i o cs b ho) fun t ht k hk => ⟨waits_listed hi (looks_of ho hlook ht hk).2.1, rfl, rfl⟩
      have hwant : Region.wanted o (yielded ops a.tmps) = true := by simp [Region.wanted, hg.1]
      have hbey := hN.beyond src o1 ho1 hls
      have step : wpAny P md ops Q f (listed.setIfInBounds i true) a w' := by
        refine ih _ B _ w' (by simp [hsz]) (by omega) ?_ (hbut.ext hx (fun j e => by subst e; exact hbey)) ?_
        · rw [hLfun]
          have h := hF.put hd i undef (by unfold valAt; rw [hr])
          rw [hdst, hg.2] at h
          exact h
        · rw [hLfun]
          refine ⟨fun j o' hj hl => ?_, fun j o' hj hl => ?_, fun j k o3 o4 hj hk h1 h2 hne => ?_, fun k s o' hk hl => ?_⟩
          · have hji : j ≠ i := fun e => by subst e; rw [hr] at hj; cases hj
            rw [if_neg hji] at hl
            exact hN.beyond j o' hj hl
          · have hji : j ≠ i := fun e => by subst e; rw [hr] at hj; cases hj
            rw [if_neg hji] at hl
            by_cases e : j = src
            · subst e
              rw [hnow]
              exact congrArg some (objAt_set (L := fun j => if j = i then true else listed.getD j false) hilt hr (by simp) uniq).symm
            · have hne : ¬ B j = B src := hN.apart j src o' o1 hj ho1 hl hls e
              rw [hbut.heap (hN.holds j o' hj hl) hne]
              refine congrArg some (objAt_same fun k s o2 hk hs2 => ?_)
              have hkn : k ≠ i := fun e' => by
                subst e'
                rw [hr] at hk
                cases hk
                exact e hs2.symm
              rw [if_neg hkn]
          · have hji : j ≠ i := fun e => by subst e; rw [hr] at hj; cases hj
            have hki : k ≠ i := fun e => by subst e; rw [hr] at hk; cases hk
            rw [if_neg hji] at h1
            rw [if_neg hki] at h2
            exact hN.apart j k o3 o4 hj hk h1 h2 hne
          · by_cases e : k = i
            · have hss : s = src := by rw [e, hr] at hk; cases hk; rfl
              rw [hss]
              by_cases e2 : src = i
              · rw [if_pos e2]
              · rw [if_neg e2]; exact hls
            · rw [if_neg e] at hl
              by_cases e2 : s = i
              · rw [if_pos e2]
              · rw [if_neg e2]; exact hN.src k s o' hk hl
      unfold wpOp
      simp only [ho, hwant, if_true]
      refine .inl ?_
      unfold Oper.wp
      rw [hex, hrun]
      rcases hkind with rfl | ⟨u, rfl⟩
      · simp only [Oper.upon, hg.2, Act.put]
        exact step
      · simp only [Oper.upon, hg.2, Act.put]
        exact step
/-- the quiet operations of a list -/
def keepQ : List Role → List Oper → List Oper
  | .quiet :: rs, o :: l => o :: keepQ rs l
  | _ :: rs, _ :: l => keepQ rs l
  | _, _ => []
def qIdx : Nat → List Role → List Nat
  | n, .quiet :: rs => n :: qIdx (n + 1) rs
  | n, _ :: rs => qIdx (n + 1) rs
  | _, [] => []
theorem qIdx_ge : ∀ (rs : List Role) (n i : Nat), i ∈ qIdx n rs → n ≤ i
  | [], _, _, h => by simp [qIdx] at h
  | r :: rs, n, i, h => by
    cases r <;> simp only [qIdx, List.mem_cons] at h
    case quiet =>
      rcases h with rfl | h
      · exact Nat.le_refl _
      · have := qIdx_ge rs (n + 1) i h; omega
    all_goals (have := qIdx_ge rs (n + 1) i h; omega)
theorem qIdx_sorted : ∀ (rs : List Role) (n : Nat), (qIdx n rs).Pairwise (· < ·)
  | [], _ => by simp [qIdx]
  | r :: rs, n => by
    cases r <;> simp only [qIdx]
    case quiet =>
      refine List.pairwise_cons.2 ⟨fun i hi => ?_, qIdx_sorted rs (n + 1)⟩
      have := qIdx_ge rs (n + 1) i hi; omega
    all_goals exact qIdx_sorted rs (n + 1)
theorem qIdx_mem : ∀ (rs : List Role) (n i : Nat), i ∈ qIdx n rs ↔ n ≤ i ∧ i < n + rs.length ∧ roleAt rs (i - n) = .quiet
  | [], n, i => by simp [qIdx]; omega
  | r :: rs, n, i => by
    have ih := qIdx_mem rs (n + 1) i
    have shift : ∀ h : n + 1 ≤ i, roleAt (r :: rs) (i - n) = roleAt rs (i - (n + 1)) := fun h => by
      unfold roleAt
      rw [show i - n = (i - (n + 1)) + 1 by omega]
      simp
    have zero : roleAt (r :: rs) 0 = r := rfl
    cases r <;> simp only [qIdx, List.mem_cons, List.length_cons]
    case quiet =>
      rw [ih]
      constructor
      · rintro (rfl | ⟨h1, h2, h3⟩)
        · exact ⟨Nat.le_refl _, by omega, by simpa using zero⟩
        · exact ⟨by omega, by omega, by rw [shift h1]; exact h3⟩
      · rintro ⟨h1, h2, h3⟩
        by_cases e : i = n
        · exact .inl e
        · exact .inr ⟨by omega, by omega, by rw [← shift (by omega)]; exact h3⟩
    all_goals
      rw [ih]
      constructor
      · rintro ⟨h1, h2, h3⟩
        exact ⟨by omega, by omega, by rw [shift h1]; exact h3⟩
      · rintro ⟨h1, h2, h3⟩
        by_cases e : i = n
        · subst e
          rw [Nat.sub_self] at h3
          rw [zero] at h3
          cases h3
        · exact ⟨by omega, by omega, by rw [← shift (by omega)]; exact h3⟩
theorem keepQ_get : ∀ (rs : List Role) (l pre : List Oper) (k : Nat), rs.length = l.length → (keepQ rs l)[k]? = ((qIdx pre.length rs)[k]?).bind fun i => (pre ++ l)[i]?
  | [], [], pre, k, _ => by simp [keepQ, qIdx]
  | [], _ :: _, _, _, h => by simp at h
  | _ :: _, [], _, _, h => by simp at h
  | r :: rs, o :: l, pre, k, h => by
    have ih := fun k => keepQ_get rs l (pre ++ [o]) k (by simpa using h)
    simp only [List.length_append, List.length_cons, List.length_nil, Nat.zero_add, List.append_assoc, List.cons_append, List.nil_append] at ih
    cases r <;> simp only [keepQ, qIdx]
    case quiet =>
      cases k with
      | zero => simp
      | succ k => simpa using ih k
    all_goals exact ih k
theorem keepQ_len : ∀ (rs : List Role) (l : List Oper) (n : Nat), rs.length = l.length → (keepQ rs l).length = (qIdx n rs).length
  | [], [], _, _ => rfl
  | [], _ :: _, _, h => by simp at h
  | _ :: _, [], _, h => by simp at h
  | r :: rs, o :: l, n, h => by
    have ih := keepQ_len rs l (n + 1) (by simpa using h)
    cases r <;> simp [keepQ, qIdx, ih]
theorem sorted_take {l : List Nat} (h : l.Pairwise (· < ·)) {k i j : Nat} (hk : l[k]? = some i) (hj : j ∈ l) (hlt : j < i) : j ∈ l.take k := by
  obtain ⟨m, hm, rfl⟩ := List.getElem_of_mem hj
  have hkl : k < l.length := (List.getElem?_eq_some_iff.1 hk).1
  have hki : l[k] = i := (List.getElem?_eq_some_iff.1 hk).2
  have hmk : m < k := by
    rcases Nat.lt_or_ge m k with h' | h'
    · exact h'
    · exfalso
      rcases Nat.eq_or_lt_of_le h' with h' | h'
      · subst h'; omega
      · have := List.pairwise_iff_getElem.1 h k m hkl hm h'
        omega
  exact List.mem_take_iff_getElem.2 ⟨m, by omega, rfl⟩
/-- slots that are there; what is quiet has one; the new ones' slots -/
def slotsB (ops : Array Oper) (rs : List Role) (news : List (Nat × Nat)) (N : Nat) : Bool :=
  ((List.range ops.size).all fun i => match dstOf ops i with | some d => decide (d < N) | none => !(roleAt rs i).isQuiet) &&
  (news.all fun p => (dstOf ops p.1 == some p.2) && (match roleAt rs p.1 with | .new _ => true | _ => false)) &&
  ((List.range ops.size).all fun i => match roleAt rs i with | .new _ => (news.map (·.1)).contains i | .set _ _ => (dstOf ops i).isNone | _ => true) && decide ((news.map (·.1)).Nodup)
/-- the new ones' slots filled -/
def withNews (news : List (Nat × Nat)) (B : Nat → Nat) (a : Act) : Act := news.foldl (fun a p => a.put (some p.2) (.pointer (some ⟨B p.1, 0, none⟩))) a
theorem withNews_FR {rs : List Role} {a0 : Act} {V : Nat → Value} {B : Nat → Nat} (hd : distinctD ops) : ∀ (news : List (Nat × Nat)) (a : Act) (L : Nat → Bool), (∀ p ∈ news, dstOf ops p.1 = some p.2 ∧ ∃ o, roleAt rs p.1 = .new o) →
    FR ops a0 (valAt rs V B) L a → FR ops a0 (valAt rs V B) (fun j => L j || decide (j ∈ news.map (·.1))) (withNews news B a)
  | [], a, L, _, h => by simpa [withNews] using h
  | p :: news, a, L, hn, h => by
    obtain ⟨hp, o, ho⟩ := hn p (by simp)
    have h1 := h.put hd p.1 (.pointer (some ⟨B p.1, 0, none⟩)) (by unfold valAt; rw [ho])
    rw [hp] at h1
    have h2 := withNews_FR hd news _ _ (fun q hq => hn q (by simp [hq])) h1
    have e : (fun j => (if j = p.1 then true else L j) || decide (j ∈ news.map (·.1))) = fun j => L j || decide (j ∈ (p :: news).map (·.1)) := by
      funext j
      by_cases hj : j = p.1
      · simp [hj]
      · simp only [List.map_cons, List.mem_cons, hj, if_false, false_or]
    rw [e] at h2
    exact h2
theorem wp_free {id : Nat} {l : List Oper} {a0 : Act} {w0 : World} {Q : Exit → Act → World → Prop} (rs : List Role) (news : List (Nat × Nat)) (N : Nat) (hm : P.follows .mixedOrders = true) (hfree : freeB .any l.toArray rs = true)
    (hslots : slotsB l.toArray rs news N = true) (hN : a0.tmps.size = N) (aQ : Act)
    (hwalk : ∀ F, Closed F → LaterF w0 F → wpQuiet P l.toArray (fun W => ∃ g : LaterF w0 F, W = g.world) (fun a => a = aQ) (keepQ rs l) a0)
    (hnew : ∀ i o op, roleAt rs i = .new o → l.toArray[i]? = some op → ∀ (ρ : Operand → Value) w, (execOp ρ op).run P w = .ok (.value (.pointer (some ⟨w.heap.size, 0, none⟩))) (w.alloc o))
    (hset : ∀ B i s o' op, roleAt rs i = .set s o' → l.toArray[i]? = some op → ∀ o, roleAt rs s = .new o → ∀ w, w.heap[B s]? = some o → ∃ r w', (execOp (withNews news B aQ).eval op).run P w = .ok r w' ∧ (r = .skip ∨ ∃ u, r = .value u) ∧ w'.heap[B s]? = some o' ∧ But (· = B s) w w')
    (hQ : ∀ B W, Ext w0 W → News rs l.toArray.size w0 B (fun _ => true) W → Q .normal (withNews news B aQ) W) : (Code.region id l.toArray true).wp P Q a0 w0 := by
  have hfree' := hfree
  simp only [freeB, Bool.and_eq_true, decide_eq_true_eq] at hfree'
  obtain ⟨⟨⟨⟨hsel, hdis⟩, hedge⟩, hlen⟩, hroles⟩ := hfree'
  have hd := distinct_of hdis
  have hlen' : rs.length = l.length := by simpa using hlen
  simp only [slotsB, Bool.and_eq_true, decide_eq_true_eq] at hslots
  obtain ⟨⟨⟨hsl, hnw⟩, hcov⟩, hnd⟩ := hslots
  have isq : ∀ i, i ∈ qIdx 0 rs ↔ i < rs.length ∧ roleAt rs i = .quiet := fun i => by
    have := qIdx_mem rs 0 i
    simpa using this
  have hnodup : (qIdx 0 rs).Nodup := (qIdx_sorted rs 0).imp fun h => Nat.ne_of_lt h
  have qdst : ∀ i, i ∈ qIdx 0 rs → ∃ d, dstOf l.toArray i = some d ∧ d < N := fun i hi => by
    obtain ⟨h1, h2⟩ := (isq i).1 hi
    have := List.all_eq_true.1 hsl i (List.mem_range.2 (by simp; omega))
    cases hdi : dstOf l.toArray i with
    | none => rw [hdi] at this; simp [h2, Role.isQuiet] at this
    | some d => rw [hdi] at this; exact ⟨d, rfl, by simpa using this⟩
  let V : Nat → Value := fun i => match dstOf l.toArray i with | some d => aQ.tmps.getD d undef | none => undef
  have lex : ∀ F, Closed F → LaterF w0 F → aQ = puts l.toArray V (qIdx 0 rs) a0 ∧ ∀ (k i : Nat) (o : Oper), (qIdx 0 rs)[k]? = some i → l.toArray[i]? = some o → YieldsIn P l.toArray (fun W => ∃ g : LaterF w0 F, W = g.world) o (V i) (puts l.toArray V ((qIdx 0 rs).take k) a0) := by
    intro F hF g0
    obtain ⟨VF, hQF, hYF⟩ := lex_vals (qIdx 0 rs) (keepQ rs l) a0 hnodup (keepQ_len rs l 0 hlen') (fun k => by have := keepQ_get rs l [] k hlen'; simpa using this) (fun i hi => by have := ((isq i).1 hi).1; simp; omega) (hwalk F hF g0)
    have hFR := puts_FR (V := VF) hd (qIdx 0 rs) a0 _ (FR.refl l.toArray a0 VF)
    rw [hQF] at hFR
    have same : ∀ i ∈ qIdx 0 rs, VF i = V i := fun i hi => by
      obtain ⟨d, hdi, hdN⟩ := qdst i hi
      have := hFR.on d i (by rw [hN]; exact hdN) hdi (by simp [hi])
      show VF i = match dstOf l.toArray i with | some d => aQ.tmps.getD d undef | none => undef
      rw [hdi]
      exact this.symm
    refine ⟨by rw [← hQF]; exact puts_congr _ _ same, fun k i o hk ho => ?_⟩
    have hi : i ∈ qIdx 0 rs := List.mem_of_getElem? hk
    rw [← same i hi, ← puts_congr ((qIdx 0 rs).take k) a0 fun j hj => same j (List.mem_of_mem_take hj)]
    exact hYF k i o hk ho
  have triv : aQ = puts l.toArray V (qIdx 0 rs) a0 := (lex (fun _ => True) (fun _ _ _ _ => trivial) ⟨w0, Ext.refl w0, trivial⟩).1
  have hFRQ : FR l.toArray a0 V (fun j => decide (j ∈ qIdx 0 rs)) aQ := by
    have := puts_FR (V := V) hd (qIdx 0 rs) a0 _ (FR.refl l.toArray a0 V)
    rw [← triv] at this
    simpa using this
  have hnews : ∀ p ∈ news, dstOf l.toArray p.1 = some p.2 ∧ ∃ o, roleAt rs p.1 = .new o := fun p hp => by
    have := List.all_eq_true.1 hnw p hp
    simp only [Bool.and_eq_true, beq_iff_eq] at this
    refine ⟨this.1, ?_⟩
    cases h : roleAt rs p.1 with
    | new o => exact ⟨o, rfl⟩
    | _ => rw [h] at this; simp at this
  refine wp_region_any hm ?_
  refine free_any (P := P) (rs := rs) (a0 := a0) (w0 := w0) (V := V) (aF := fun B => withNews news B aQ) hfree ?_ hnew ?_ hset hQ _ _ (fun _ => 0) a0 w0.drew (by simp) ?_ ?_ (Ext.refl w0).drew ?_
  · intro i o ho hr w hx
    have hi : i ∈ qIdx 0 rs := (isq i).2 ⟨by have := (Array.getElem?_eq_some_iff.1 ho).1; simp at this; omega, hr⟩
    obtain ⟨k, hk⟩ := List.getElem?_of_mem hi
    obtain ⟨_, hY⟩ := lex (Ext w) (fun _ _ h1 h2 => h1.trans h2) ⟨w, hx, Ext.refl w⟩
    have hFRk := puts_FR (V := V) hd ((qIdx 0 rs).take k) a0 _ (FR.refl l.toArray a0 V)
    refine ⟨_, _, hFRk, fun t ht j hj => ?_, ?_⟩
    · have hrole := List.all_eq_true.1 hroles i (List.mem_range.2 (Array.getElem?_eq_some_iff.1 ho).1)
      unfold roleB at hrole
      rw [hr] at hrole
      obtain ⟨h1, h2, h3⟩ := looks_of ho hrole ht hj
      have hjq : j ∈ qIdx 0 rs := (isq j).2 ⟨by have := dst_lt hj; simp at this; omega, by
        cases h : roleAt rs j with
        | quiet => rfl
        | _ => rw [h] at h3; simp [Role.isQuiet] at h3⟩
      simp [sorted_take (qIdx_sorted rs 0) hk hjq h1]
    · have hy := hY k i o hk ho
      have ec : (fun W => ∃ g : LaterF w0 (Ext w), W = g.world) = fun W => Ext w0 W ∧ Ext w W := by
        funext W
        apply propext
        constructor
        · rintro ⟨g, rfl⟩; exact ⟨g.ok, g.keep⟩
        · rintro ⟨h1, h2⟩; exact ⟨⟨W, h1, h2⟩, rfl⟩
      rw [ec] at hy
      exact hy
  · intro B
    have h1 : FR l.toArray a0 (valAt rs V B) (fun j => decide (j ∈ qIdx 0 rs)) aQ := hFRQ.congr (fun _ _ _ => rfl) fun i t hi hl => by
      have := ((isq i).1 (by simpa using hl)).2
      unfold valAt
      rw [this]
    refine (withNews_FR hd news aQ _ hnews h1).congr (fun i t hi => ?_) (fun _ _ _ _ => rfl)
    have hilt := dst_lt hi
    cases hr : roleAt rs i with
    | quiet => simp [(isq i).2 ⟨by simp at hilt; omega, hr⟩]
    | new o =>
      have := List.all_eq_true.1 hcov i (List.mem_range.2 hilt)
      rw [hr] at this
      have hm' : i ∈ news.map (·.1) := by simpa using this
      simp only [Bool.or_eq_true, decide_eq_true_eq]
      exact .inr hm'
    | set s o =>
      have := List.all_eq_true.1 hcov i (List.mem_range.2 hilt)
      rw [hr, hi] at this
      simp at this
  · unfold left
    simp
  · exact (FR.refl l.toArray a0 V).congr (fun i t hi => by rw [getD_replicate_false]) (fun i t hi h => by cases h)
  · refine ⟨fun i o hr hl => ?_, fun i o hr hl => ?_, fun i j o o' hi hj h1 h2 hne => ?_, fun k s o' hk hl => ?_⟩
    · rw [getD_replicate_false] at hl; cases hl
    · rw [getD_replicate_false] at hl; cases hl
    · rw [getD_replicate_false] at h1; cases h1
    · rw [getD_replicate_false] at hl; cases hl
theorem wp_freeE {id : Nat} {l : List Oper} {a0 : Act} {w0 : World} {Q : Exit → Act → World → Prop} (rs : List Role) (news : List (Nat × Nat)) (N : Nat) (hm : P.follows .mixedOrders = true) (hfree : freeB .any l.toArray rs = true)
    (hslots : slotsB l.toArray rs news N = true) (hN : a0.tmps.size = N)
    (hnew : ∀ i o op, roleAt rs i = .new o → l.toArray[i]? = some op → ∀ (ρ : Operand → Value) w, (execOp ρ op).run P w = .ok (.value (.pointer (some ⟨w.heap.size, 0, none⟩))) (w.alloc o))
    (h : ∃ aQ : Act, (∀ F, Closed F → LaterF w0 F → wpQuiet P l.toArray (fun W => ∃ g : LaterF w0 F, W = g.world) (fun a => a = aQ) (keepQ rs l) a0) ∧
      (∀ B i s o' op, roleAt rs i = .set s o' → l.toArray[i]? = some op → ∀ o, roleAt rs s = .new o → ∀ w, w.heap[B s]? = some o → ∃ r w', (execOp (withNews news B aQ).eval op).run P w = .ok r w' ∧ (r = .skip ∨ ∃ u, r = .value u) ∧ w'.heap[B s]? = some o' ∧ But (· = B s) w w') ∧
      (∀ B W, Ext w0 W → News rs l.toArray.size w0 B (fun _ => true) W → Q .normal (withNews news B aQ) W)) : (Code.region id l.toArray true).wp P Q a0 w0 := by
  obtain ⟨aQ, h1, h2, h3⟩ := h
  exact wp_free rs news N hm hfree hslots hN aQ h1 hnew h2 h3
/-- a new struct of two cells, filled -/
theorem store2 {w : World} {b T : Nat} {z0 z1 : Value} (v0 v1 : Value) (h : w.heap[b]? = some (.cells #[z0, z1] T)) :
    (w.cell? ⟨b, 0, none⟩ = some z0 ∧ w.cell? ⟨b, 1, none⟩ = some z1) ∧ (w.frozen? ⟨b, 0, none⟩ = false ∧ w.frozen? ⟨b, 1, none⟩ = false) ∧
    ((w.setCell ⟨b, 0, none⟩ v0).setCell ⟨b, 1, none⟩ v1).heap[b]? = some (.cells #[v0, v1] T) ∧ But (· = b) w ((w.setCell ⟨b, 0, none⟩ v0).setCell ⟨b, 1, none⟩ v1) := by
  refine ⟨⟨by simp [World.cell?, h], by simp [World.cell?, h]⟩, ⟨by simp [World.frozen?, h], by simp [World.frozen?, h]⟩, ?_, (but_setCell w ⟨b, 0, none⟩ v0).trans (but_setCell _ ⟨b, 1, none⟩ v1)⟩
  simp [World.setCell, Array.getElem?_modify, h]
theorem store3 {w : World} {b T : Nat} {z0 z1 z2 : Value} (v0 v1 v2 : Value) (h : w.heap[b]? = some (.cells #[z0, z1, z2] T)) :
    (w.cell? ⟨b, 0, none⟩ = some z0 ∧ w.cell? ⟨b, 1, none⟩ = some z1 ∧ w.cell? ⟨b, 2, none⟩ = some z2) ∧ (w.frozen? ⟨b, 0, none⟩ = false ∧ w.frozen? ⟨b, 1, none⟩ = false ∧ w.frozen? ⟨b, 2, none⟩ = false) ∧
    (((w.setCell ⟨b, 0, none⟩ v0).setCell ⟨b, 1, none⟩ v1).setCell ⟨b, 2, none⟩ v2).heap[b]? = some (.cells #[v0, v1, v2] T) ∧ But (· = b) w (((w.setCell ⟨b, 0, none⟩ v0).setCell ⟨b, 1, none⟩ v1).setCell ⟨b, 2, none⟩ v2) := by
  refine ⟨⟨by simp [World.cell?, h], by simp [World.cell?, h], by simp [World.cell?, h]⟩, ⟨by simp [World.frozen?, h], by simp [World.frozen?, h], by simp [World.frozen?, h]⟩, ?_, ((but_setCell w ⟨b, 0, none⟩ v0).trans (but_setCell _ ⟨b, 1, none⟩ v1)).trans (but_setCell _ ⟨b, 2, none⟩ v2)⟩
  simp [World.setCell, Array.getElem?_modify, h]
theorem cell_of_heap {w : World} {b T : Nat} {cs : Array Value} {j : Nat} {v : Value} (h : w.heap[b]? = some (.cells cs T)) (hv : cs[j]? = some v) : w.cell? ⟨b, j, none⟩ = some v ∧ w.frozen? ⟨b, j, none⟩ = false := by
  constructor
  · simp [World.cell?, h, hv]
  · simp [World.frozen?, h]
end
end Go.Proofs.Ytoaifbengichbab

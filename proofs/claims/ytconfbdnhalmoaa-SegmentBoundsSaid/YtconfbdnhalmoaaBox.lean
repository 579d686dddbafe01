/- Regions that draw their order and hold allocations among operations that leave old memory alone (v := f(x); a, b := f(x), g(y), the results structs): one walk in the order of the text serves every order; where the new blocks lie is left open. No program is imported. -/
import Derived.Test.YtconfbdnhalmoaaReg
set_option linter.unusedVariables false
namespace Go.Proofs.Ytconfbdnhalmoaa
open Go.RowKit

section
variable {P : Program}

/-- Frames alike but for the slots in D. -/
structure Agree (D : Nat → Prop) (a b : Act) : Prop where
  defers : a.defers = b.defers
  size : a.tmps.size = b.tmps.size
  slot : ∀ d, ¬ D d → a.tmps[d]? = b.tmps[d]?

theorem Agree.refl (D : Nat → Prop) (a : Act) : Agree D a a := ⟨rfl, rfl, fun _ _ => rfl⟩
theorem Agree.weaken {D E : Nat → Prop} {a b : Act} (h : Agree D a b) (hi : ∀ d, D d → E d) : Agree E a b := ⟨h.defers, h.size, fun d hd => h.slot d fun k => hd (hi d k)⟩
theorem Agree.exec {D : Nat → Prop} {a b : Act} {ops : Array Oper} (h : Agree D a b) (o : Oper) (hs : ∀ cs b, o.op ≠ .select cs b) (hl : ∀ d ∈ o.looksAt ops, ¬ D d) : execOp a.eval o = execOp b.eval o :=
  execOp_congr o hs fun x hx => by
    cases x with
    | tmp t =>
      have : ¬ D t := hl t (List.mem_append_left _ (List.mem_filterMap.2 ⟨.tmp t, by simpa using hx, rfl⟩))
      simp [Act.eval, Array.getD_eq_getD_getElem?, h.slot t this]
    | _ => rfl
theorem Agree.wanted {D : Nat → Prop} {a b : Act} {ops : Array Oper} (h : Agree D a b) (o : Oper) (hl : ∀ d ∈ o.looksAt ops, ¬ D d) : Region.wanted o (yielded ops a.tmps) = Region.wanted o (yielded ops b.tmps) := by
  unfold Region.wanted
  cases hg : o.guard with
  | none => rfl
  | some gw =>
    obtain ⟨g, want⟩ := gw
    have hy : yielded ops a.tmps g = yielded ops b.tmps g := by
      unfold yielded
      cases ht : (ops[g]?).bind (·.dst) with
      | none => rfl
      | some t =>
        have := h.slot t (hl t (by simp [Oper.looksAt, hg, ht]))
        simp [this]
    simp only [hy]

theorem put_size (a : Act) (x : Option Tmp) (v : Value) : (a.put x v).tmps.size = a.tmps.size := by cases x <;> simp [Act.put]
theorem put_def (a : Act) (x : Option Tmp) (v : Value) : (a.put x v).defers = a.defers := by cases x <;> rfl
theorem put_other (a : Act) (x : Option Tmp) (v : Value) (d : Nat) (h : x ≠ some d) : (a.put x v).tmps[d]? = a.tmps[d]? := by
  cases x with
  | none => rfl
  | some e => simp only [Act.put]; rw [Array.getElem?_setIfInBounds_ne (by intro k; exact h (by rw [k]))]
theorem put_own (a : Act) (d : Nat) (v : Value) (h : d < a.tmps.size) : (a.put (some d) v).tmps[d]? = some v := by simp [Act.put, h]
theorem put_same {a b : Act} {x : Option Tmp} {v : Value} (hz : a.tmps.size = b.tmps.size) (h : ∀ d, x = some d → (b.put x v).tmps[d]? = a.tmps[d]?) : a.put x v = a := by
  cases x with
  | none => rfl
  | some d =>
    cases a with
    | mk ts ds =>
      simp only [Act.put, Act.mk.injEq, and_true]
      apply Array.ext_getElem?
      intro k
      by_cases hk : d = k
      · subst hk
        have h1 := h d rfl
        simp only [Act.put] at h1
        simp only [Array.getElem?_setIfInBounds, if_true] at h1 ⊢
        rw [← h1]
        simp only at hz
        rw [hz]
      · rw [Array.getElem?_setIfInBounds_ne hk]

/-- What the walk in the text's order shows of one operation, said of the frame at its end. -/
def Told (P : Program) (ops : Array Oper) (C : World → Prop) (aF : Act) (o : Oper) : Prop := ∃ v, YieldsIn P ops C o v aF ∧ aF.put o.dst v = aF

/-- Nobody looks at a slot that is written by itself or later, no slot is written twice, nothing selects. -/
def ssaB (ops : Array Oper) : List Oper → Bool
  | [] => true
  | o :: r => ((o :: r).all fun o' => match o'.dst with | some d => !(o.looksAt ops).contains d | none => true) && (r.all fun o' => match o.dst with | some d => o'.dst != some d | none => true) &&
      (match o.op with | .select .. => false | _ => true) && ssaB ops r

theorem told {ops : Array Oper} {C : World → Prop} {aF : Act} : ∀ (r : List Oper) (a : Act), ssaB ops r = true → wpQuiet P ops C (fun a' => a' = aF) r a → Agree (fun d => ∃ o ∈ r, o.dst = some d) a aF ∧ ∀ o ∈ r, Told P ops C aF o
  | [], a, _, h => by
    have h' : a = aF := h
    subst h'
    exact ⟨Agree.refl _ _, fun o ho => by cases ho⟩
  | o :: r, a, hs, h => by
    simp only [ssaB, Bool.and_eq_true] at hs
    obtain ⟨⟨⟨hlook, hdst⟩, hsel⟩, hr⟩ := hs
    have hlook' : ∀ d ∈ o.looksAt ops, ¬ ∃ o' ∈ o :: r, o'.dst = some d := fun d hd ⟨o', ho', he⟩ => by
      have := List.all_eq_true.1 hlook o' ho'
      simp [he, hd] at this
    have hdst' : ∀ o' ∈ r, ∀ d, o.dst = some d → o'.dst ≠ some d := fun o' ho' d hd he => by
      have := List.all_eq_true.1 hdst o' ho'
      simp [hd, he] at this
    have hsel' : ∀ cs b, o.op ≠ .select cs b := fun cs b he => by simp [he] at hsel
    -- the step, for whichever value
    have step : ∀ v, wpQuiet P ops C (fun a' => a' = aF) r (a.put o.dst v) → Agree (fun d => ∃ o' ∈ o :: r, o'.dst = some d) a aF ∧ (∀ o' ∈ r, Told P ops C aF o') ∧ aF.put o.dst v = aF := by
      intro v hv
      obtain ⟨A, T⟩ := told r _ hr hv
      refine ⟨⟨by rw [← A.defers, put_def], by rw [← A.size, put_size], fun d hd => ?_⟩, T, ?_⟩
      · have h1 : o.dst ≠ some d := fun e => hd ⟨o, List.mem_cons_self .., e⟩
        rw [← A.slot d fun ⟨o', ho', e⟩ => hd ⟨o', List.mem_cons_of_mem _ ho', e⟩, put_other _ _ _ _ h1]
      · refine put_same (b := a) (by rw [← A.size, put_size]) fun d hd => ?_
        exact A.slot d fun ⟨o', ho', e⟩ => hdst' o' ho' d hd e
    unfold wpQuiet at h
    by_cases hw : Region.wanted o (yielded ops a.tmps) = true
    · rw [if_pos hw] at h
      obtain ⟨v, h1, h2⟩ := h
      obtain ⟨A, T, E⟩ := step v h2
      refine ⟨A, fun o' ho' => ?_⟩
      rcases List.mem_cons.1 ho' with rfl | ho'
      · refine ⟨v, .inl ⟨by rw [← A.wanted _ hlook']; exact hw, fun w hCw => ?_⟩, E⟩
        have := h1 w hCw
        unfold Oper.quietAt at this ⊢
        rw [← A.exec _ hsel' hlook']; exact this
      · exact T o' ho'
    · rw [if_neg hw] at h
      obtain ⟨A, T, E⟩ := step undef h
      refine ⟨A, fun o' ho' => ?_⟩
      rcases List.mem_cons.1 ho' with rfl | ho'
      · exact ⟨undef, .inr ⟨by rw [← A.wanted _ hlook']; simpa using hw, rfl⟩, E⟩
      · exact T o' ho'

/-- An allocation: its number, its slot, the new block's cells and type. -/
structure Alc where
  i : Nat
  d : Nat
  c : Array Value
  t : TypeId

def ghost (o : Oper) : Oper := match o.op with | .alloc _ => { o with op := .move (.const undef) } | _ => o
def isAlc (o : Oper) : Bool := match o.op with | .alloc _ => true | _ => false
theorem ghost_dst (o : Oper) : (ghost o).dst = o.dst := by unfold ghost; split <;> rfl
theorem ghost_guard (o : Oper) : (ghost o).guard = o.guard := by unfold ghost; split <;> rfl
theorem ghost_after (o : Oper) : (ghost o).after = o.after := by unfold ghost; split <;> rfl
theorem ghost_not {o : Oper} (h : isAlc o = false) : ghost o = o := by
  unfold ghost isAlc at *; split
  · rename_i e; rw [e] at h; simp at h
  · rfl

/-- The head as it is walked. -/
def heads (l : List Oper) (n : Nat) : List Oper := (l.take n).map ghost

/-- Each of the head's operations waits for those whose slots it looks at, and looks at no allocation's slot. -/
def dataB (l : List Oper) (n : Nat) : Bool :=
  (List.range n).all fun i => match l[i]? with
    | some o => (List.range n).all fun j => match l[j]? with
      | some o' => (match o'.dst with
        | some d => !((ghost o).looksAt (heads l n).toArray).contains d || (!isAlc o' && o.after.any fun e => Region.binds .any e && e.on == j)
        | none => true)
      | none => true
    | none => true
/-- The allocations that are named are those that are there, each with a slot of its own in the frame, none guarded. -/
def alcB (l : List Oper) (n : Nat) (m : Nat) (A : List Alc) : Bool :=
  (A.all fun x => decide (x.i < n) && decide (x.d < m) && match l[x.i]? with | some o => isAlc o && (o.dst == some x.d) && o.guard.isNone | none => false) &&
  ((List.range n).all fun i => match l[i]? with | some o => !isAlc o || A.any (fun x => x.i == i) | none => true) && decide (A.map (·.d)).Nodup && decide (A.map (·.i)).Nodup
def boxB (l : List Oper) (n : Nat) (m : Nat) (A : List Alc) : Bool :=
  decide (n < l.length) && backB .any l && guardB l n && Region.sinkB .any l.toArray n && Region.chainB .any l.toArray n && ssaB (heads l n).toArray (heads l n) && dataB l n && alcB l n m A &&
  Region.seqB .any l.toArray (l.length - n) n (headDone n l.length)

def ptr (b : Nat) : Value := .pointer (some ⟨b, 0, none⟩)
def putAll (β : Nat → Nat) : List Alc → Act → Act
  | [], a => a
  | x :: A, a => putAll β A (a.put (some x.d) (ptr (β x.i)))

theorem putAll_eq {β : Nat → Nat} {a : Act} : ∀ (A : List Alc) (aF : Act), (A.map (·.d)).Nodup → Agree (fun d => ∃ x ∈ A, x.d = d) a aF → (∀ x ∈ A, a.tmps[x.d]? = some (ptr (β x.i))) → a = putAll β A aF
  | [], aF, _, hA, _ => by
    cases a; cases aF
    obtain ⟨h1, h2, h3⟩ := hA
    simp only at h1 h2 h3
    subst h1
    simp only [putAll]
    congr 1
    apply Array.ext_getElem?
    intro k
    exact h3 k fun ⟨x, hx, _⟩ => by cases hx
  | x :: A, aF, hn, hA, hv => by
    simp only [List.map_cons, List.nodup_cons, List.mem_map, not_exists, not_and] at hn
    refine putAll_eq A _ hn.2 ⟨by rw [put_def]; exact hA.defers, by rw [put_size]; exact hA.size, fun d hd => ?_⟩ (fun y hy => hv y (List.mem_cons_of_mem _ hy))
    by_cases hx : x.d = d
    · subst hx
      have := hv x (List.mem_cons_self ..)
      have hlt : x.d < a.tmps.size := (Array.getElem?_eq_some_iff.1 this).1
      rw [this, put_own _ _ _ (by rw [← hA.size]; exact hlt)]
    · rw [put_other _ _ _ _ (by simpa using hx)]
      exact hA.slot d fun ⟨y, hy, e⟩ => by
        rcases List.mem_cons.1 hy with rfl | hy
        · exact hx e
        · exact hd ⟨y, hy, e⟩

/-- Where the walk stands: which slots are as at the end, how the world has grown, where the new blocks lie. -/
structure Stand (l : List Oper) (n : Nat) (A : List Alc) (aF : Act) (w0 : World) (β : Nat → Nat) (listed : Array Bool) (a : Act) (w : World) : Prop where
  size : listed.size = l.length
  inv : HeadInv .any l.toArray n listed
  agree : Agree (fun d => ∃ i o, i < n ∧ l[i]? = some o ∧ o.dst = some d ∧ (listed.getD i true = false ∨ isAlc o = true)) a aF
  grown : ∃ p, w = gw w0 p
  place : ∀ x ∈ A, listed.getD x.i true = true → a.tmps[x.d]? = some (ptr (β x.i)) ∧ ¬ β x.i < w0.heap.size ∧ blk w (β x.i) x.c x.t
  apart : ∀ x ∈ A, ∀ y ∈ A, listed.getD x.i true = true → listed.getD y.i true = true → x.i ≠ y.i → β x.i ≠ β y.i

theorem gw_gw (w : World) (p q : Gw) : ∃ r, gw (gw w p) q = gw w r := gw_of_below ((below_gw w p).trans ((below_gw (gw w p) q).mono (by simp)))
theorem gw_alloc (w : World) (p : Gw) (o : Obj) : ∃ r, (gw w p).alloc o = gw w r := gw_of_below (Below.alloc (below_gw w p) (by simp) o)

theorem box_any {l : List Oper} {n : Nat} {A : List Alc} {aF : Act} {w0 : World} {Q : Exit → Act → World → Prop} {m : Nat} (hm : aF.tmps.size = m) (hB : boxB l n m A = true)
    (hrun : ∀ x ∈ A, ∀ o, l[x.i]? = some o → ∀ (a : Act) (w : World), (execOp a.eval o).run P w = .ok (.value (ptr w.heap.size)) (w.alloc (.cells x.c x.t)))
    (ht : ∀ p, ∀ o ∈ heads l n, Told P (heads l n).toArray (fun w' => ∃ q, w' = gw (gw w0 p) q) aF o)
    (hT : ∀ (β : Nat → Nat) (p : Gw), (∀ x ∈ A, newer (β x.i) w0 p = true ∧ blk (gw w0 p) (β x.i) x.c x.t) → (∀ x ∈ A, ∀ y ∈ A, x.i ≠ y.i → β x.i ≠ β y.i) → wpList P l.toArray Q (l.drop n) (putAll β A aF) (gw w0 p)) :
    ∀ (f : Nat) (listed : Array Bool) (a : Act) (w : World) (β : Nat → Nat), Stand l n A aF w0 β listed a w → ((List.range n).filter fun i => !listed.getD i true).length = f → wpAny P .any l.toArray Q (f + (l.length - n)) listed a w := by
  unfold boxB at hB
  simp only [Bool.and_eq_true, decide_eq_true_eq] at hB
  obtain ⟨⟨⟨⟨⟨⟨⟨⟨hn, hback⟩, hgB⟩, hs⟩, hc⟩, hssa⟩, hdata⟩, halc⟩, hseq⟩ := hB
  unfold alcB at halc
  simp only [Bool.and_eq_true, decide_eq_true_eq] at halc
  obtain ⟨⟨⟨halc1, halc2⟩, hnd⟩, hni⟩ := halc
  have alc : ∀ x ∈ A, x.i < n ∧ x.d < m ∧ ∃ o, l[x.i]? = some o ∧ isAlc o = true ∧ o.dst = some x.d ∧ o.guard = none := fun x hx => by
    have h := List.all_eq_true.1 halc1 x hx
    simp only [Bool.and_eq_true, decide_eq_true_eq] at h
    obtain ⟨⟨h1, h2⟩, h3⟩ := h
    cases ho : l[x.i]? with
    | none => simp [ho] at h3
    | some o =>
      simp only [ho, Bool.and_eq_true, beq_iff_eq, Option.isNone_iff_eq_none] at h3
      exact ⟨h1, h2, o, rfl, h3.1.1, h3.1.2, h3.2⟩
  have alc' : ∀ i o, i < n → l[i]? = some o → isAlc o = true → ∃ x ∈ A, x.i = i := fun i o hi ho ha => by
    have h := List.all_eq_true.1 halc2 i (List.mem_range.2 hi)
    simp only [ho, ha, Bool.not_true, Bool.false_or] at h
    obtain ⟨x, hx, he⟩ := List.any_eq_true.1 h
    exact ⟨x, hx, by simpa using he⟩
  have sameIx : ∀ x ∈ A, ∀ y ∈ A, x.i = y.i → x = y := by
    clear hT hrun halc1 halc2 alc alc' hnd
    induction A with
    | nil => intro x hx; cases hx
    | cons z A ih =>
      simp only [List.map_cons, List.nodup_cons, List.mem_map, not_exists, not_and] at hni
      intro x hx y hy e
      rcases List.mem_cons.1 hx with h1 | h1 <;> rcases List.mem_cons.1 hy with h2 | h2
      · rw [h1, h2]
      · exact absurd (by rw [← e, h1]) (hni.1 y h2)
      · exact absurd (by rw [e, h2]) (hni.1 x h1)
      · exact ih hni.2 x h1 y h2 e
  have inHeads : ∀ i o, i < n → l[i]? = some o → ghost o ∈ heads l n := fun i o hi ho => by
    refine List.mem_map.2 ⟨o, List.mem_of_getElem? (i := i) (by simp [hi, ho]), rfl⟩
  have hlen : (heads l n).length = n := by simp [heads]; omega
  -- guards, read in the walked head
  have wantG : ∀ i o, i < n → l[i]? = some o → ∀ ts, Region.wanted o (yielded l.toArray ts) = Region.wanted (ghost o) (yielded (heads l n).toArray ts) := fun i o hi ho ts => by
    unfold Region.wanted
    rw [ghost_guard]
    cases hg : o.guard with
    | none => rfl
    | some x =>
      obtain ⟨j, b⟩ := x
      have h := List.all_eq_true.1 hgB o (List.mem_of_getElem? (i := i) (by simp [hi, ho]))
      rw [hg] at h
      have hj : j < n := by simpa using h
      simp only
      unfold yielded
      have e : ((heads l n).toArray[j]?).bind (·.dst) = (l.toArray[j]?).bind (·.dst) := by
        simp [heads, hj]
        cases l[j]? with
        | none => rfl
        | some o' => simp [ghost_dst]
      rw [e]
  -- who writes a slot, among the head
  have once : ∀ i j oi oj d, i < n → j < n → l[i]? = some oi → l[j]? = some oj → oi.dst = some d → oj.dst = some d → i = j := by
    have gen : ∀ (r : List Oper), ssaB (heads l n).toArray r = true → ∀ (i j : Nat) oi oj d, r[i]? = some oi → r[j]? = some oj → oi.dst = some d → oj.dst = some d → i = j := by
      intro r
      induction r with
      | nil => intro _ i j oi oj d h; simp at h
      | cons o r ih =>
        intro hss i j oi oj d hi hj hdi hdj
        simp only [ssaB, Bool.and_eq_true] at hss
        obtain ⟨⟨⟨_, hdst⟩, _⟩, hr⟩ := hss
        cases i with
        | zero =>
          cases j with
          | zero => rfl
          | succ j =>
            simp at hi hj; subst hi
            have := List.all_eq_true.1 hdst oj (List.mem_of_getElem? hj)
            simp [hdi, hdj] at this
        | succ i =>
          cases j with
          | zero =>
            simp at hi hj; subst hj
            have := List.all_eq_true.1 hdst oi (List.mem_of_getElem? hi)
            simp [hdi, hdj] at this
          | succ j => simp at hi hj; rw [ih hr i j oi oj d hi hj hdi hdj]
    intro i j oi oj d hi hj hoi hoj hdi hdj
    exact gen _ hssa i j (ghost oi) (ghost oj) d (by simp [heads, hi, hoi]) (by simp [heads, hj, hoj]) (by rw [ghost_dst]; exact hdi) (by rw [ghost_dst]; exact hdj)
  have noSel : ∀ i o, i < n → l[i]? = some o → ∀ cs b, (ghost o).op ≠ .select cs b := by
    have gen : ∀ (r : List Oper), ssaB (heads l n).toArray r = true → ∀ o ∈ r, ∀ cs b, o.op ≠ .select cs b := by
      intro r
      induction r with
      | nil => intro _ o ho; cases ho
      | cons o r ih =>
        intro hss o' ho' cs b he
        simp only [ssaB, Bool.and_eq_true] at hss
        rcases List.mem_cons.1 ho' with rfl | ho'
        · simp [he] at hss
        · exact ih hss.2 o' ho' cs b he
    intro i o hi ho
    exact gen _ hssa _ (inHeads i o hi ho)
  -- what an operation that may come up looks at is as at the end
  have looks : ∀ (listed : Array Bool) i o, i < n → l[i]? = some o → i ∈ Region.ready .any l.toArray listed → ∀ d ∈ (ghost o).looksAt (heads l n).toArray,
      ¬ ∃ j oj, j < n ∧ l[j]? = some oj ∧ oj.dst = some d ∧ (listed.getD j true = false ∨ isAlc oj = true) := by
    intro listed i o hi ho hr d hd ⟨j, oj, hj, hoj, hdj, hor⟩
    have h := List.all_eq_true.1 hdata i (List.mem_range.2 hi)
    simp only [ho] at h
    have h2 := List.all_eq_true.1 h j (List.mem_range.2 hj)
    simp only [hoj, hdj] at h2
    rw [show ((ghost o).looksAt (heads l n).toArray).contains d = true from by simpa using hd] at h2
    simp only [Bool.not_true, Bool.false_or, Bool.and_eq_true] at h2
    obtain ⟨hna, h2⟩ := h2
    obtain ⟨e, he, h2⟩ := Array.any_eq_true'.1 h2
    simp only [Bool.and_eq_true, beq_iff_eq] at h2
    obtain ⟨hb, hon⟩ := h2
    obtain ⟨_, o', ho', hall⟩ := mem_ready.1 hr
    have : o' = o := by have h3 : l[i]? = some o' := by simpa using ho'
                        rw [ho] at h3; exact (Option.some.inj h3).symm
    subst this
    have h4 := hall e he hb
    rw [hon] at h4
    rcases hor with h5 | h5
    · rw [getD_both h5] at h4; cases h4
    · simp [h5] at hna
  intro f
  induction f with
  | zero =>
    intro listed a w β S hf
    have all : ∀ i, i < n → listed.getD i true = true := fun i hi => by
      false_or_by_contra
      rename_i hne
      have : i ∈ (List.range n).filter fun i => !listed.getD i true := List.mem_filter.2 ⟨List.mem_range.2 hi, by simpa using hne⟩
      rw [List.length_eq_zero_iff.1 hf] at this; cases this
    have allF : ∀ i, i < n → listed.getD i false = true := fun i hi => by
      have h1 := all i hi
      have h2 : i < listed.size := by rw [S.size]; omega
      simp [h2] at h1 ⊢; exact h1
    obtain ⟨p, rfl⟩ := S.grown
    have e : a = putAll β A aF := by
      refine putAll_eq A aF hnd (S.agree.weaken ?_) fun x hx => (S.place x hx (all _ (alc x hx).1)).1
      rintro d ⟨i, o, hi, ho, hd, h | h⟩
      · rw [all i hi] at h; cases h
      · obtain ⟨x, hx, rfl⟩ := alc' i o hi ho h
        refine ⟨x, hx, ?_⟩
        obtain ⟨_, _, o', ho', _, hd', _⟩ := alc x hx
        rw [ho] at ho'; obtain rfl := Option.some.inj ho'
        rw [hd] at hd'; exact (Option.some.inj hd').symm
    have eL : listed = headDone n l.length := by
      apply Array.ext_getElem?
      intro k
      by_cases hk : k < l.length
      · have hk' : k < listed.size := by rw [S.size]; exact hk
        have e1 : (headDone n l.length)[k]? = some (decide (k < n)) := by simp [headDone, hk]
        rw [e1, Array.getElem?_eq_getElem hk']
        by_cases hkn : k < n
        · have := allF k hkn
          simp [hk'] at this
          simp [this, hkn]
        · have := S.inv.tail k (by omega) (by simpa using hk)
          simp [hk'] at this
          simp [this, hkn]
      · rw [Array.getElem?_eq_none (by rw [S.size]; omega), Array.getElem?_eq_none (by simp [headDone]; omega)]
    have H := hT β p (fun x hx => by
      obtain ⟨_, h2, h3⟩ := S.place x hx (all _ (alc x hx).1)
      refine ⟨?_, h3⟩
      have h4 := blk_older h3
      rw [older_gw] at h4
      have h5 : older (β x.i) w0 = false := by
        cases h : older (β x.i) w0 with
        | false => rfl
        | true => exact absurd (older_iff.1 h) h2
      simpa [h5] using h4) (fun x hx y hy hne => S.apart x hx y hy (all _ (alc x hx).1) (all _ (alc y hy).1) hne)
    rw [Nat.zero_add, e]
    have := wpAny_of_seq (P := P) (md := .any) (Q' := Q) (l.drop n) n listed (putAll β A aF) (gw w0 p) (fun j => by simp [List.getElem?_drop]) (by rw [eL]; simpa using hseq) H
    simpa using this
  | succ f ih =>
    intro listed a w β S hf
    obtain ⟨i0, hi0⟩ := List.exists_mem_of_ne_nil _ (show ((List.range n).filter fun i => !listed.getD i true) ≠ [] from fun h => by rw [h] at hf; simp at hf)
    have hi0' := List.mem_filter.1 hi0
    have hin0 : i0 < n := List.mem_range.1 hi0'.1
    have hun0 : listed.getD i0 true = false := by simpa using hi0'.2
    have headOnly : ∀ j, j ∈ Region.ready .any l.toArray listed → j < n := fun j hj => by
      false_or_by_contra
      exact tail_waits hs hc (by simpa using hn) S.inv _ i0 rfl hin0 hun0 j (by omega) hj
    -- something may come up
    have some_ready : Region.ready .any l.toArray listed ≠ [] := by
      have ex : ∀ k, k < n → listed.getD k true = false → ∃ j, j ∈ Region.ready .any l.toArray listed := by
        intro k
        induction k using Nat.strongRecOn with
        | _ k ihk =>
          intro hk hunk
          have hkl : k < l.length := by omega
          have hok : l[k]? = some l[k] := List.getElem?_eq_getElem hkl
          by_cases hall : ∀ e ∈ (l[k]).after, Region.binds .any e = true → listed.getD e.on false = true
          · exact ⟨k, mem_ready.2 ⟨hunk, l[k], by simp [hkl], hall⟩⟩
          · obtain ⟨e, he⟩ := Classical.not_forall.1 hall
            obtain ⟨he1, he2⟩ := Classical.not_imp.1 he
            obtain ⟨hb, hf'⟩ := Classical.not_imp.1 he2
            have hlt := backB_spec hback hok he1 hb
            exact ihk e.on hlt (by omega) (getD_in (by rw [S.size]; omega) (by simpa using hf'))
      obtain ⟨j, hj⟩ := ex i0 hin0 hun0
      intro h; rw [h] at hj; cases hj
    rw [show f + 1 + (l.length - n) = (f + (l.length - n)) + 1 from by omega]
    refine ⟨fun h0 => absurd h0 some_ready, fun i hi => ?_⟩
    have hin := headOnly i hi
    obtain ⟨hun, o, ho, hall⟩ := mem_ready.1 hi
    have hol : l[i]? = some o := by simpa using ho
    have hisz : i < listed.size := by rw [S.size]; omega
    have setT : ∀ k, (listed.setIfInBounds i true).getD k true = true → k ≠ i → listed.getD k true = true := fun k hk hne => by
      rw [getD_set_ne true (Ne.symm hne)] at hk; exact hk
    have hf' : ((List.range n).filter fun k => !(listed.setIfInBounds i true).getD k true).length = f := by
      have e1 : ((List.range n).filter fun k => !(listed.setIfInBounds i true).getD k true) = ((List.range n).filter fun k => !listed.getD k true).erase i := by
        rw [List.Nodup.erase_eq_filter (List.Pairwise.filter _ List.nodup_range), List.filter_filter]
        apply List.filter_congr
        intro k hk
        by_cases hki : k = i
        · subst hki; simp [hisz]
        · rw [getD_set_ne true (Ne.symm hki)]; simp [hki]
      rw [e1, List.length_erase_of_mem (List.mem_filter.2 ⟨List.mem_range.2 hin, by simp [hun]⟩), hf]; omega
    have lk := looks listed i o hin hol hi
    -- the new standing, where the slot holds what it holds at the end (no allocation)
    have next : ∀ v (w' : World), isAlc o = false → aF.put o.dst v = aF → (∃ q, w' = gw w q) → Stand l n A aF w0 β (listed.setIfInBounds i true) (a.put o.dst v) w' := by
      intro v w' hna hv ⟨q, hq⟩
      subst hq
      obtain ⟨p, hp⟩ := S.grown
      have ndst : ∀ x ∈ A, listed.getD x.i true = true → o.dst ≠ some x.d := fun x hx hd he => by
        obtain ⟨h1, _, o', ho', ha', hd', _⟩ := alc x hx
        have := once i x.i o o' x.d hin h1 hol ho' he hd'
        subst this
        rw [hol] at ho'; obtain rfl := Option.some.inj ho'
        rw [hna] at ha'; cases ha'
      refine ⟨by simp [S.size], S.inv.set hi hin, ⟨by rw [put_def]; exact S.agree.defers, by rw [put_size]; exact S.agree.size, fun d hd => ?_⟩, by rw [hp]; exact gw_gw w0 p q, ?_, ?_⟩
      · by_cases hdo : o.dst = some d
        · have e1 : (aF.put o.dst v).tmps[d]? = (a.put o.dst v).tmps[d]? := by
            rw [hdo]; simp only [Act.put, Array.getElem?_setIfInBounds, if_true, S.agree.size]
          rw [hv] at e1; exact e1.symm
        · rw [put_other _ _ _ _ hdo]
          refine S.agree.slot d fun ⟨j, oj, hj, hoj, hdj, h⟩ => hd ⟨j, oj, hj, hoj, hdj, ?_⟩
          rcases h with h | h
          · refine .inl ?_
            rw [getD_set_ne true (fun e => ?_)]
            · exact h
            · subst e; rw [hol] at hoj; obtain rfl := Option.some.inj hoj; exact hdo hdj
          · exact .inr h
      · intro x hx hd
        have hne : x.i ≠ i := fun e => by
          obtain ⟨_, _, o', ho', ha', _⟩ := alc x hx
          rw [e, hol] at ho'; obtain rfl := Option.some.inj ho'
          rw [hna] at ha'; cases ha'
        have hd' := setT _ hd hne
        obtain ⟨h1, h2, h3⟩ := S.place x hx hd'
        exact ⟨by rw [put_other _ _ _ _ (ndst x hx hd')]; exact h1, h2, blk_gw h3⟩
      · intro x hx y hy hdx hdy hne
        have nex : ∀ z ∈ A, z.i ≠ i := fun z hz e => by
          obtain ⟨_, _, o', ho', ha', _⟩ := alc z hz
          rw [e, hol] at ho'; obtain rfl := Option.some.inj ho'
          rw [hna] at ha'; cases ha'
        exact S.apart x hx y hy (setT _ hdx (nex x hx)) (setT _ hdy (nex y hy)) hne
    unfold wpOp
    rw [ho]
    simp only
    rw [wantG i o hin hol, S.agree.wanted _ lk]
    by_cases ha : isAlc o = true
    · -- an allocation
      obtain ⟨x, hx, hxi⟩ := alc' i o hin hol ha
      obtain ⟨_, hxm, o', ho', _, hxd, hxg⟩ := alc x hx
      have ho'' : l[x.i]? = some o := by rw [hxi]; exact hol
      rw [ho''] at ho'; obtain rfl := Option.some.inj ho'
      have hw : Region.wanted (ghost o) (yielded (heads l n).toArray aF.tmps) = true := by unfold Region.wanted; rw [ghost_guard, hxg]
      rw [if_pos hw]
      refine .inl ?_
      unfold Oper.wp
      rw [hrun x hx o ho'' a w]
      simp only [Oper.upon]
      obtain ⟨p, hp⟩ := S.grown
      have hold : ∀ y ∈ A, listed.getD y.i true = true → y.i ≠ i ∧ β y.i < w.heap.size := fun y hy hd =>
        ⟨fun e => (by rw [e, hun] at hd; cases hd), blk_lt (S.place y hy hd).2.2⟩
      have bs : (fun k => if k = i then w.heap.size else β k) x.i = w.heap.size := by simp [hxi]
      refine ih _ _ _ (fun k => if k = i then w.heap.size else β k) ⟨by simp [S.size], S.inv.set hi hin, ⟨by rw [put_def]; exact S.agree.defers, by rw [put_size]; exact S.agree.size, fun d hd => ?_⟩, by rw [hp]; exact gw_alloc w0 p _, ?_, ?_⟩ hf'
      · have hdo : o.dst ≠ some d := fun e => hd ⟨i, o, hin, hol, e, .inr ha⟩
        rw [put_other _ _ _ _ hdo]
        refine S.agree.slot d fun ⟨j, oj, hj, hoj, hdj, h⟩ => hd ⟨j, oj, hj, hoj, hdj, ?_⟩
        rcases h with h | h
        · by_cases e : i = j
          · subst e; rw [hol] at hoj; obtain rfl := Option.some.inj hoj; exact .inr ha
          · exact .inl (by rw [getD_set_ne true e]; exact h)
        · exact .inr h
      · intro y hy hd
        by_cases hyi : y.i = i
        · have : y = x := sameIx y hy x hx (hyi.trans hxi.symm)
          subst this
          simp only [hyi, if_true]
          refine ⟨by rw [hxd]; exact put_own _ _ _ (by rw [S.agree.size, hm]; exact hxm), by rw [hp]; simp, blk_new _ _ _⟩
        · have hd' := setT _ hd hyi
          obtain ⟨h1, h2, h3⟩ := S.place y hy hd'
          simp only [hyi, if_false]
          refine ⟨?_, h2, blk_alloc h3⟩
          rw [put_other _ _ _ _ (fun e => ?_)]
          · exact h1
          · obtain ⟨hy1, _, oy, hoy, _, hdy, _⟩ := alc y hy
            exact hyi (once i y.i o oy y.d hin hy1 hol hoy e hdy).symm
      · intro y hy z hz hdy hdz hne
        by_cases hyi : y.i = i
        · have hzi : z.i ≠ i := fun e => hne (hyi.trans e.symm)
          simp only [hyi, hzi, if_true, if_false]
          have := (hold z hz (setT _ hdz hzi)).2
          omega
        · by_cases hzi : z.i = i
          · simp only [hyi, hzi, if_true, if_false]
            have := (hold y hy (setT _ hdy hyi)).2
            omega
          · simp only [hyi, hzi, if_false]
            exact S.apart y hy z hz (setT _ hdy hyi) (setT _ hdz hzi) hne
    · have hna : isAlc o = false := by simpa using ha
      obtain ⟨p, hp⟩ := S.grown
      obtain ⟨v, hy, hv⟩ := ht p (ghost o) (inHeads i o hin hol)
      rw [ghost_dst] at hv
      rcases hy with ⟨hw, hq⟩ | ⟨hw, rfl⟩
      · rw [if_pos hw]
        refine .inl ?_
        have h1 := hq w ⟨⟨w.drawn, #[]⟩, by rw [← hp]; unfold gw; simp⟩
        unfold Oper.quietAt at h1
        rw [← S.agree.exec _ (noSel i o hin hol) lk, ghost_not hna, ← hp] at h1
        unfold Oper.wp
        generalize (execOp a.eval o).run P w = r at h1 ⊢
        cases r with
        | ok nx w' =>
          cases nx <;> simp only [Oper.quietUpon] at h1 <;> simp only [Oper.upon]
          case value u =>
            obtain ⟨rfl, rfl⟩ := h1
            exact ih _ _ _ β (next _ _ hna hv ⟨⟨w'.drawn, #[]⟩, by unfold gw; simp⟩) hf'
          case skip =>
            obtain ⟨rfl, rfl⟩ := h1
            exact ih _ _ _ β (next _ _ hna hv ⟨⟨w'.drawn, #[]⟩, by unfold gw; simp⟩) hf'
          case enter g args =>
            obtain ⟨rfl, hcall⟩ := h1
            refine hcall.mono fun e w'' ⟨he, hq'⟩ => ?_
            subst he
            exact ih _ _ _ β (next _ _ hna hv hq') hf'
        | halt x w' => simp only [Oper.quietUpon] at h1
      · rw [if_neg (by rw [hw]; exact Bool.false_ne_true)]
        exact ih _ _ _ β (next _ _ hna hv ⟨⟨w.drawn, #[]⟩, by unfold gw; simp⟩) hf'

/-- One walk of the head in the order of the text, the allocations passed over; then the tail, wherever the new blocks lie. -/
theorem wp_region_box {l : List Oper} {aF a : Act} {w : World} {id : Nat} {Q : Exit → Act → World → Prop} (n m : Nat) (A : List Alc) (hmix : P.follows .mixedOrders = true) (hm : a.tmps.size = m) (hB : boxB l n m A = true)
    (hrun : ∀ x ∈ A, ∀ o, l[x.i]? = some o → ∀ (a : Act) (w : World), (execOp a.eval o).run P w = .ok (.value (ptr w.heap.size)) (w.alloc (.cells x.c x.t)))
    (h1 : ∀ p, wpQuiet P (heads l n).toArray (fun w' => ∃ q, w' = gw (gw w p) q) (fun a' => a' = aF) (heads l n) a)
    (hT : ∀ (β : Nat → Nat) (p : Gw), (∀ x ∈ A, newer (β x.i) w p = true ∧ blk (gw w p) (β x.i) x.c x.t) → (∀ x ∈ A, ∀ y ∈ A, x.i ≠ y.i → β x.i ≠ β y.i) → wpList P l.toArray Q (l.drop n) (putAll β A aF) (gw w p)) :
    (Code.region id l.toArray true).wp P Q a w := by
  have hB' := hB
  unfold boxB at hB'
  simp only [Bool.and_eq_true, decide_eq_true_eq] at hB'
  obtain ⟨⟨⟨⟨⟨⟨⟨⟨hn, hback⟩, hgB⟩, hs⟩, hc⟩, hssa⟩, hdata⟩, halc⟩, hseq⟩ := hB'
  obtain ⟨A0, _⟩ := told _ _ hssa (h1 ⟨w.drawn, #[]⟩)
  refine wp_region_any hmix ?_
  have S0 : Stand l n A aF w (fun _ => 0) (Array.replicate l.toArray.size false) a { w with drawn := w.drawn + 1 } := by
    refine ⟨by simp, ⟨by simp, fun j oj _ hl => (by rw [getD_replicate_false] at hl; cases hl), fun t _ ht => getD_in (by simpa using ht) (getD_replicate_false _ _)⟩, A0.weaken ?_, ⟨⟨w.drawn + 1, #[]⟩, by unfold gw; simp⟩, ?_, ?_⟩
    · rintro d ⟨o, ho, hd⟩
      obtain ⟨o', ho', rfl⟩ := List.mem_map.1 ho
      obtain ⟨i, hi⟩ := List.getElem?_of_mem ho'
      have hin : i < n := by have := (List.getElem?_eq_some_iff.1 hi).1; simp at this; omega
      have hol : l[i]? = some o' := by simpa [hin] using hi
      exact ⟨i, o', hin, hol, by rw [← ghost_dst]; exact hd, .inl (getD_in (by simp; exact (List.getElem?_eq_some_iff.1 hol).1) (getD_replicate_false _ _))⟩
    · intro x hx hd
      have hx' : x.i < n := by
        unfold alcB at halc
        simp only [Bool.and_eq_true] at halc
        have h := List.all_eq_true.1 halc.1.1.1 x hx
        simp only [Bool.and_eq_true, decide_eq_true_eq] at h
        exact h.1.1
      rw [getD_in (by simp; omega) (getD_replicate_false _ _)] at hd; cases hd
    · intro x hx y hy hd
      have hx' : x.i < n := by
        unfold alcB at halc
        simp only [Bool.and_eq_true] at halc
        have h := List.all_eq_true.1 halc.1.1.1 x hx
        simp only [Bool.and_eq_true, decide_eq_true_eq] at h
        exact h.1.1
      rw [getD_in (by simp; omega) (getD_replicate_false _ _)] at hd; cases hd
  have H := box_any (P := P) (Q := Q) (m := m) (A0.size ▸ hm) hB hrun (fun p o ho => (told _ _ hssa (h1 p)).2 o ho) hT n _ _ _ _ S0 (by
    have e : ((List.range n).filter fun i => !(Array.replicate l.toArray.size false).getD i true) = List.range n := by
      apply List.filter_eq_self.2
      intro i hi
      have := List.mem_range.1 hi
      rw [getD_in (by simp; omega) (getD_replicate_false _ _)]; rfl
    rw [e]; simp)
  rw [show n + (l.length - n) = l.toArray.size from by simp; omega] at H
  exact H

theorem newer_of {b : Nat} {w : World} {p : Gw} {c : Array Value} {t : TypeId} (h0 : ¬ b < w.heap.size) (hb : blk (gw w p) b c t) : newer b w p = true := by
  have h4 := blk_older hb
  rw [older_gw] at h4
  have h5 : older b w = false := by
    cases h : older b w with
    | false => rfl
    | true => exact absurd (older_iff.1 h) h0
  simpa [h5] using h4
theorem newer_ge {b : Nat} {w : World} {p : Gw} (h : newer b w p = true) : ¬ b < w.heap.size := by
  unfold newer at h
  simp at h; omega

/-- The forms for one, two, three new blocks: behind the tail the world has grown again, and the new blocks hold what is told. -/
theorem wp_box1 {l : List Oper} {aF a : Act} {w : World} {id : Nat} {Q : Exit → Act → World → Prop} {aT : Nat → Act} {c' : Array Value} (n m i d : Nat) (c : Array Value) (t : TypeId) (hmix : P.follows .mixedOrders = true) (hm : a.tmps.size = m) (hB : boxB l n m [⟨i, d, c, t⟩] = true)
    (hrun : ∀ o, l[i]? = some o → ∀ (a : Act) (w : World), (execOp a.eval o).run P w = .ok (.value (ptr w.heap.size)) (w.alloc (.cells c t)))
    (h1 : ∀ p, wpQuiet P (heads l n).toArray (fun w' => ∃ q, w' = gw (gw w p) q) (fun a' => a' = aF) (heads l n) a)
    (h2 : ∀ (R : Exit → Act → World → Prop) b p, newer b w p = true → ¬ b < w.heap.size → blk (gw w p) b c t → (∀ p', newer b w p' = true → blk (gw w p') b c' t → R .normal (aT b) (gw w p')) → wpList P l.toArray R (l.drop n) (aF.put (some d) (ptr b)) (gw w p))
    (h3 : ∀ b p, newer b w p = true → blk (gw w p) b c' t → Q .normal (aT b) (gw w p)) : (Code.region id l.toArray true).wp P Q a w :=
  wp_region_box n m [⟨i, d, c, t⟩] hmix hm hB (fun x hx => by simp at hx; subst hx; exact hrun) h1 fun β p hb _ =>
    have h := hb _ (List.mem_singleton.2 rfl)
    h2 Q (β i) p h.1 (newer_ge h.1) h.2 fun p' h4 h5 => h3 _ _ h4 h5
theorem wp_box2 {l : List Oper} {aF a : Act} {w : World} {id : Nat} {Q : Exit → Act → World → Prop} {aT : Nat → Nat → Act} {c1' c2' : Array Value} (n m i1 d1 i2 d2 : Nat) (c1 c2 : Array Value) (t1 t2 : TypeId) (hmix : P.follows .mixedOrders = true) (hm : a.tmps.size = m) (hB : boxB l n m [⟨i1, d1, c1, t1⟩, ⟨i2, d2, c2, t2⟩] = true)
    (hne : (i1 != i2) = true)
    (hr1 : ∀ o, l[i1]? = some o → ∀ (a : Act) (w : World), (execOp a.eval o).run P w = .ok (.value (ptr w.heap.size)) (w.alloc (.cells c1 t1)))
    (hr2 : ∀ o, l[i2]? = some o → ∀ (a : Act) (w : World), (execOp a.eval o).run P w = .ok (.value (ptr w.heap.size)) (w.alloc (.cells c2 t2)))
    (h1 : ∀ p, wpQuiet P (heads l n).toArray (fun w' => ∃ q, w' = gw (gw w p) q) (fun a' => a' = aF) (heads l n) a)
    (h2 : ∀ (R : Exit → Act → World → Prop) b1 b2 p, newer b1 w p = true → newer b2 w p = true → ¬ b1 < w.heap.size → ¬ b2 < w.heap.size → ¬ b1 = b2 → ¬ b2 = b1 → blk (gw w p) b1 c1 t1 → blk (gw w p) b2 c2 t2 →
      (∀ p', newer b1 w p' = true → newer b2 w p' = true → blk (gw w p') b1 c1' t1 → blk (gw w p') b2 c2' t2 → R .normal (aT b1 b2) (gw w p')) → wpList P l.toArray R (l.drop n) ((aF.put (some d1) (ptr b1)).put (some d2) (ptr b2)) (gw w p))
    (h3 : ∀ b1 b2 p, newer b1 w p = true → newer b2 w p = true → ¬ b1 = b2 → ¬ b2 = b1 → blk (gw w p) b1 c1' t1 → blk (gw w p) b2 c2' t2 → Q .normal (aT b1 b2) (gw w p)) : (Code.region id l.toArray true).wp P Q a w :=
  wp_region_box n m [⟨i1, d1, c1, t1⟩, ⟨i2, d2, c2, t2⟩] hmix hm hB (fun x hx => by simp at hx; rcases hx with rfl | rfl <;> first | exact hr1 | exact hr2) h1 fun β p hb hd =>
    have e1 := hb ⟨i1, d1, c1, t1⟩ (by simp)
    have e2 := hb ⟨i2, d2, c2, t2⟩ (by simp)
    have ne := hd ⟨i1, d1, c1, t1⟩ (by simp) ⟨i2, d2, c2, t2⟩ (by simp) (by simpa using hne)
    h2 Q (β i1) (β i2) p e1.1 e2.1 (newer_ge e1.1) (newer_ge e2.1) ne (fun e => ne e.symm) e1.2 e2.2 fun p' k1 k2 k3 k4 => h3 _ _ _ k1 k2 ne (fun e => ne e.symm) k3 k4
theorem wp_box3 {l : List Oper} {aF a : Act} {w : World} {id : Nat} {Q : Exit → Act → World → Prop} {aT : Nat → Nat → Nat → Act} {c1' c2' c3' : Array Value} (n m i1 d1 i2 d2 i3 d3 : Nat) (c1 c2 c3 : Array Value) (t1 t2 t3 : TypeId) (hmix : P.follows .mixedOrders = true) (hm : a.tmps.size = m)
    (hB : boxB l n m [⟨i1, d1, c1, t1⟩, ⟨i2, d2, c2, t2⟩, ⟨i3, d3, c3, t3⟩] = true) (hne : (i1 != i2 && i1 != i3 && i2 != i3) = true)
    (hr1 : ∀ o, l[i1]? = some o → ∀ (a : Act) (w : World), (execOp a.eval o).run P w = .ok (.value (ptr w.heap.size)) (w.alloc (.cells c1 t1)))
    (hr2 : ∀ o, l[i2]? = some o → ∀ (a : Act) (w : World), (execOp a.eval o).run P w = .ok (.value (ptr w.heap.size)) (w.alloc (.cells c2 t2)))
    (hr3 : ∀ o, l[i3]? = some o → ∀ (a : Act) (w : World), (execOp a.eval o).run P w = .ok (.value (ptr w.heap.size)) (w.alloc (.cells c3 t3)))
    (h1 : ∀ p, wpQuiet P (heads l n).toArray (fun w' => ∃ q, w' = gw (gw w p) q) (fun a' => a' = aF) (heads l n) a)
    (h2 : ∀ (R : Exit → Act → World → Prop) b1 b2 b3 p, newer b1 w p = true → newer b2 w p = true → newer b3 w p = true → ¬ b1 < w.heap.size → ¬ b2 < w.heap.size → ¬ b3 < w.heap.size → ¬ b1 = b2 → ¬ b2 = b1 → ¬ b1 = b3 → ¬ b3 = b1 → ¬ b2 = b3 → ¬ b3 = b2 →
      blk (gw w p) b1 c1 t1 → blk (gw w p) b2 c2 t2 → blk (gw w p) b3 c3 t3 →
      (∀ p', newer b1 w p' = true → newer b2 w p' = true → newer b3 w p' = true → blk (gw w p') b1 c1' t1 → blk (gw w p') b2 c2' t2 → blk (gw w p') b3 c3' t3 → R .normal (aT b1 b2 b3) (gw w p')) →
      wpList P l.toArray R (l.drop n) (((aF.put (some d1) (ptr b1)).put (some d2) (ptr b2)).put (some d3) (ptr b3)) (gw w p))
    (h3 : ∀ b1 b2 b3 p, newer b1 w p = true → newer b2 w p = true → newer b3 w p = true → ¬ b1 = b2 → ¬ b2 = b1 → ¬ b1 = b3 → ¬ b3 = b1 → ¬ b2 = b3 → ¬ b3 = b2 → blk (gw w p) b1 c1' t1 → blk (gw w p) b2 c2' t2 → blk (gw w p) b3 c3' t3 → Q .normal (aT b1 b2 b3) (gw w p)) :
    (Code.region id l.toArray true).wp P Q a w := by
  simp only [Bool.and_eq_true, bne_iff_ne, ne_eq] at hne
  refine wp_region_box n m [⟨i1, d1, c1, t1⟩, ⟨i2, d2, c2, t2⟩, ⟨i3, d3, c3, t3⟩] hmix hm hB (fun x hx => by simp at hx; rcases hx with rfl | rfl | rfl <;> first | exact hr1 | exact hr2 | exact hr3) h1 fun β p hb hd => ?_
  have e1 := hb ⟨i1, d1, c1, t1⟩ (by simp)
  have e2 := hb ⟨i2, d2, c2, t2⟩ (by simp)
  have e3 := hb ⟨i3, d3, c3, t3⟩ (by simp)
  have n12 := hd ⟨i1, d1, c1, t1⟩ (by simp) ⟨i2, d2, c2, t2⟩ (by simp) hne.1.1
  have n13 := hd ⟨i1, d1, c1, t1⟩ (by simp) ⟨i3, d3, c3, t3⟩ (by simp) hne.1.2
  have n23 := hd ⟨i2, d2, c2, t2⟩ (by simp) ⟨i3, d3, c3, t3⟩ (by simp) hne.2
  exact h2 Q (β i1) (β i2) (β i3) p e1.1 e2.1 e3.1 (newer_ge e1.1) (newer_ge e2.1) (newer_ge e3.1) n12 (fun e => n12 e.symm) n13 (fun e => n13 e.symm) n23 (fun e => n23 e.symm) e1.2 e2.2 e3.2
    fun p' k1 k2 k3 k4 k5 k6 => h3 _ _ _ _ k1 k2 k3 n12 (fun e => n12 e.symm) n13 (fun e => n13 e.symm) n23 (fun e => n23 e.symm) k4 k5 k6

/-- The tail's end. -/
theorem box_end1 {R : Exit → Act → World → Prop} {a : Act} {w W : World} {b : Nat} {c : Array Value} {t : TypeId} (h0 : ¬ b < w.heap.size) (hK : ∀ p', newer b w p' = true → blk (gw w p') b c t → R .normal a (gw w p')) (hb : Below w.heap.size w W) (hc : blk W b c t) : R .normal a W := by
  obtain ⟨p, rfl⟩ := gw_of_below hb
  exact hK p (newer_of h0 hc) hc
theorem box_end2 {R : Exit → Act → World → Prop} {a : Act} {w W : World} {b1 b2 : Nat} {c1 c2 : Array Value} {t1 t2 : TypeId} (h1 : ¬ b1 < w.heap.size) (h2 : ¬ b2 < w.heap.size)
    (hK : ∀ p', newer b1 w p' = true → newer b2 w p' = true → blk (gw w p') b1 c1 t1 → blk (gw w p') b2 c2 t2 → R .normal a (gw w p')) (hb : Below w.heap.size w W) (hc1 : blk W b1 c1 t1) (hc2 : blk W b2 c2 t2) : R .normal a W := by
  obtain ⟨p, rfl⟩ := gw_of_below hb
  exact hK p (newer_of h1 hc1) (newer_of h2 hc2) hc1 hc2
theorem box_end3 {R : Exit → Act → World → Prop} {a : Act} {w W : World} {b1 b2 b3 : Nat} {c1 c2 c3 : Array Value} {t1 t2 t3 : TypeId} (h1 : ¬ b1 < w.heap.size) (h2 : ¬ b2 < w.heap.size) (h3 : ¬ b3 < w.heap.size)
    (hK : ∀ p', newer b1 w p' = true → newer b2 w p' = true → newer b3 w p' = true → blk (gw w p') b1 c1 t1 → blk (gw w p') b2 c2 t2 → blk (gw w p') b3 c3 t3 → R .normal a (gw w p')) (hb : Below w.heap.size w W) (hc1 : blk W b1 c1 t1) (hc2 : blk W b2 c2 t2) (hc3 : blk W b3 c3 t3) : R .normal a W := by
  obtain ⟨p, rfl⟩ := gw_of_below hb
  exact hK p (newer_of h1 hc1) (newer_of h2 hc2) (newer_of h3 hc3) hc1 hc2 hc3
end

end Go.Proofs.Ytconfbdnhalmoaa

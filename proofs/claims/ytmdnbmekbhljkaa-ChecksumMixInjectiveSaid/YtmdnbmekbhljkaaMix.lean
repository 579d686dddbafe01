/- Regions that draw their order and hold calls whose results are not known beforehand (new memory), operations that make a block, and operations that read: one walk, in one order, serves every order. No program is imported. -/
import Derived.Test.YtmdnbmekbhljkaaBox
set_option linter.unusedVariables false
namespace Go.Proofs.Ytmdnbmekbhljkaa
open Go.RowKit

section
variable {P : Program}

def isCall (o : Oper) : Bool := match o.op with | .call c => (match c.callee with | .builtin _ => false | _ => true) | _ => false
def isMake (o : Oper) : Bool := match o.op with | .alloc _ => true | .buildSlice .. => true | _ => false
def isRead (o : Oper) : Bool := match o.op with
  | .move _ | .assign _ | .pick .. | .build .. | .load .. | .binOp .. | .unOp .. | .convert .. | .field .. | .fieldAddr .. | .index .. | .indexAddr .. | .extract .. | .slice .. => true
  | .call c => (match c.callee with | .builtin .len | .builtin .cap | .builtin .min | .builtin .max => true | _ => false)
  | _ => false

theorem read_kinds {o : Oper} (h : isRead o = true) (ρ : Operand → Value) (w : World) : (∃ v w', (execOp ρ o).run P w = .ok (.value v) w') ∨ ∃ x w', (execOp ρ o).run P w = .halt x w' := by
  have vv : ∀ s : Sem Value, (∃ v w', (do pure (Next.value (← s)) : Sem Next).run P w = .ok (.value v) w') ∨ ∃ x w', (do pure (Next.value (← s)) : Sem Next).run P w = .halt x w' := fun s => by
    rw [Sem.run_bind]
    cases s.run P w with
    | ok v w' => exact .inl ⟨v, w', rfl⟩
    | halt x w' => exact .inr ⟨x, w', rfl⟩
  obtain ⟨dst, op, type, pos, after, guard⟩ := o
  cases op <;> simp only [isRead, Bool.false_eq_true] at h
  case move x => exact .inl ⟨_, _, rfl⟩
  case assign x => exact .inl ⟨_, _, rfl⟩
  case pick c a b =>
    simp only [execOp]; rw [Sem.run_bind]
    cases (asBool (ρ c)).run P w with
    | ok v w' => exact .inl ⟨_, w', rfl⟩
    | halt x w' => exact .inr ⟨x, w', rfl⟩
  case call c =>
    obtain ⟨callee, args, argTypes⟩ := c
    cases callee with
    | builtin b => cases b <;> simp only [Bool.false_eq_true] at h <;> exact vv _
    | _ => simp only [Bool.false_eq_true] at h
  all_goals exact vv _
theorem not_select {o : Oper} (h : isRead o = true ∨ isCall o = true ∨ isMake o = true) : ∀ cs b, o.op ≠ .select cs b := fun cs b e => by
  rcases h with h | h | h <;> simp [isRead, isCall, isMake, e] at h

/-- A frame in which one slot (and the deferred calls) have turned. -/
def upd (a : Act) (x : Option Tmp) (u : Value) (ds : List Deferred) : Act := ⟨(a.put x u).tmps, ds⟩
theorem upd_put (a : Act) (x : Option Tmp) (u : Value) : upd a x u a.defers = a.put x u := by cases x <;> rfl
theorem put_comm (a : Act) {x y : Option Tmp} (h : ∀ d, x = some d → y ≠ some d) (u v : Value) : (a.put x u).put y v = (a.put y v).put x u := by
  cases x with
  | none => rfl
  | some d =>
    cases y with
    | none => rfl
    | some e =>
      have hne : d ≠ e := fun k => h d rfl (by rw [k])
      simp only [Act.put, Act.mk.injEq, and_true]
      exact Array.setIfInBounds_comm _ _ hne
theorem upd_comm (a : Act) {x y : Option Tmp} (h : ∀ d, x = some d → y ≠ some d) (u v : Value) (ds : List Deferred) : upd (a.put y v) x u ds = (upd a x u ds).put y v := by
  have := put_comm a h u v
  unfold upd
  cases y with
  | none => rfl
  | some e =>
    have h2 : ((a.put (some e) v).put x u).tmps = ((a.put x u).put (some e) v).tmps := by rw [this]
    simp only [Act.put, Act.mk.injEq, and_true] at h2 ⊢
    exact h2

section
variable {ops : Array Oper} {o : Oper} {a b : Act} {w : World} {Q1 Q2 : Exit → Act → World → Prop} {D : Nat → Prop}

/-- One operation, in two frames that agree on what it looks at. -/
theorem one_move (hs : ∀ cs b, o.op ≠ .select cs b) (hag : Agree D a b) (hl : ∀ d ∈ o.looksAt ops, ¬ D d) (hn : ∀ e a w, Q1 e a w → e = .normal)
    (h : ∀ u ds w', Q1 .normal (upd b o.dst u ds) w' → Q2 .normal (upd a o.dst u ds) w') (hh : wpList P ops Q1 [o] b w) : wpList P ops Q2 [o] a w := by
  have nl : ¬ LetsOut Q1 := fun ⟨a, w, k⟩ => by have := hn _ _ _ k; cases this
  unfold wpList at hh ⊢
  rw [hag.wanted o hl]
  have hd := hag.defers
  by_cases hw : Region.wanted o (yielded ops b.tmps) = true
  · rw [if_pos hw] at hh ⊢
    rcases hh with hh | ⟨_, k⟩
    · refine .inl ?_
      unfold Oper.wp at hh ⊢
      rw [hag.exec o hs hl]
      generalize (execOp b.eval o).run P w = r at hh ⊢
      cases r with
      | ok nx w' =>
        cases nx <;> simp only [Oper.upon] at hh ⊢
        case value v => have := h v b.defers w' (by rw [upd_put]; exact hh); rw [← hd, upd_put] at this; exact this
        case skip => have := h undef b.defers w' (by rw [upd_put]; exact hh); rw [← hd, upd_put] at this; exact this
        case defer d =>
          have := h undef (d :: b.defers) w' (by unfold upd; cases ho : o.dst <;> simp only [ho, Act.put] at hh ⊢ <;> exact hh)
          rw [← hd] at this
          unfold upd at this
          show wpList P ops Q2 [] _ _
          unfold wpList
          cases ho : o.dst <;> simp only [ho, Act.put] at this ⊢ <;> exact this
        case enter f args =>
          refine Calls.mono hh fun e w'' he => ?_
          cases e with
          | returned v => have := h v b.defers w'' (by rw [upd_put]; exact he); rw [← hd, upd_put] at this; exact this
          | panicked chain => have := hn _ _ _ he; cases this
          | outgrown => exact absurd he nl
        case row row args =>
          exact Rows.mono hh fun v w'' he => by have := h v b.defers w'' (by rw [upd_put]; exact he); rw [← hd, upd_put] at this; exact this
      | halt x w' =>
        cases x <;> simp only [Oper.upon] at hh ⊢
        have := hn _ _ _ hh; cases this
    · exact absurd k nl
  · rw [if_neg hw] at hh ⊢
    have := h undef b.defers w (by rw [upd_put]; exact hh)
    rw [← hd, upd_put] at this; exact this

/-- One operation: it comes to something. -/
theorem one_out (hn : ∀ e a w, Q1 e a w → e = .normal) (hh : wpList P ops Q1 [o] b w) : ∃ u ds w', Q1 .normal (upd b o.dst u ds) w' := by
  have nl : ¬ LetsOut Q1 := fun ⟨a, w, k⟩ => by have := hn _ _ _ k; cases this
  unfold wpList at hh
  by_cases hw : Region.wanted o (yielded ops b.tmps) = true
  · rw [if_pos hw] at hh
    rcases hh with hh | ⟨_, k⟩
    · unfold Oper.wp at hh
      generalize (execOp b.eval o).run P w = r at hh
      cases r with
      | ok nx w' =>
        cases nx <;> simp only [Oper.upon] at hh
        case value v => exact ⟨v, b.defers, w', by rw [upd_put]; exact hh⟩
        case skip => exact ⟨undef, b.defers, w', by rw [upd_put]; exact hh⟩
        case defer d => exact ⟨undef, d :: b.defers, w', by unfold upd; cases ho : o.dst <;> simp only [ho, Act.put] at hh ⊢ <;> exact hh⟩
        case enter f args =>
          obtain ⟨e, w'', fr, he, _⟩ := hh []
          cases e with
          | returned v => exact ⟨v, b.defers, w'', by rw [upd_put]; exact he⟩
          | panicked chain => have := hn _ _ _ he; cases this
          | outgrown => exact absurd he nl
        case row row args =>
          obtain ⟨v, w'', he, _⟩ := hh default []
          exact ⟨v, b.defers, w'', by rw [upd_put]; exact he⟩
      | halt x w' =>
        cases x <;> simp only [Oper.upon] at hh
        have := hn _ _ _ hh; cases this
    · exact absurd k nl
  · rw [if_neg hw] at hh
    exact ⟨undef, b.defers, w, by rw [upd_put]; exact hh⟩
end

/-- What a block maker hands back of block b: its address, or a slice of n elements. -/
def mval : Option Nat → Nat → Value
  | none, b => .pointer (some ⟨b, 0, none⟩)
  | some n, b => .slice (some ⟨b, 0, none⟩) n n

/-- In which worlds a read has to come to its value: those grown out of the region's first world; a late one's (which waits for all calls ahead of it in the walk): out of the world as it then is. -/
def Cl (w0 : World) (lt : List Nat) (i : Nat) (w : World) : World → Prop := fun w' => ∃ q, w' = gw (if lt.contains i then w else w0) q
/-- THE WALK. 'R': the operations' numbers, in the order of the walk; 'S': the numbers of blocks that are spoken for; 'w0': the world at the region's start. -/
def Mix (P : Program) (l : List Oper) (w0 : World) (lt : List Nat) (F : (Nat → Prop) → Act → World → Prop) : List Nat → (Nat → Prop) → Act → World → Prop
  | [], S, a, w => F S a w
  | i :: R, S, a, w => True ∧
    match l[i]? with
    | none => False
    | some o =>
      if isRead o = true then wpQuiet P l.toArray (Cl w0 lt i w) (fun a' => Mix P l w0 lt F R S a' w) [o] a
      else if isCall o = true then ∀ p Qs, (∀ a' w', Below (gw w p).heap.size (gw w p) w' → Mix P l w0 lt F R (fun b => S b ∨ ((gw w p).heap.size ≤ b ∧ b < w'.heap.size)) a' w' → Qs Exit.normal a' w') → wpList P l.toArray Qs [o] a (gw w p)
      else if Region.wanted o (yielded l.toArray a.tmps) = true then ∃ c t k, (∀ w, (execOp a.eval o).run P w = .ok (.value (mval k w.heap.size)) (w.alloc (.cells c t))) ∧
        ∀ b w', Below w.heap.size w w' → blk w' b c t → ¬ S b → Mix P l w0 lt F R (fun k => S k ∨ k = b) (a.put o.dst (mval k b)) w'
      else Mix P l w0 lt F R S (a.put o.dst undef) w

/-! The check, which the kernel reckons. 'ms': of each operation the numbers of those that it waits for, as bits. -/
def waitB (ms : List Nat) (i j : Nat) : Bool := (ms.getD i 0).testBit j
def msOk (l : List Oper) (ms : List Nat) : Bool :=
  (List.range l.length).all fun i => match l[i]? with
    | some o => (List.range l.length).all fun j => !waitB ms i j || o.after.any fun e => Region.binds .any e && (e.on == j || waitB ms e.on j)
    | none => true
/-- x stands ahead of i in the walk. -/
def okB (l : List Oper) (ms lt : List Nat) (x i : Nat) : Bool := match l[x]?, l[i]? with
  | some ox, some oi => waitB ms i x ||
    ((match oi.dst with | some d => !(ox.looksAt l.toArray).contains d && ox.dst != some d | none => true) &&
    (match ox.dst with | some d => !(oi.looksAt l.toArray).contains d | none => true) && (!isCall oi || isRead ox) && (!lt.contains i || isRead ox))
  | _, _ => false
def pairsB (l : List Oper) (ms lt : List Nat) : List Nat → Bool
  | [] => true
  | x :: R => R.all (fun i => okB l ms lt x i) && pairsB l ms lt R
def mixB (l : List Oper) (n : Nat) (ms lt : List Nat) (ord : List Nat) : Bool :=
  decide (n ≤ l.length) && backB .any l && (decide (n = l.length) || (Region.sinkB .any l.toArray n && Region.chainB .any l.toArray n)) && msOk l ms && decide (ord.length = n) && decide ord.Nodup &&
  (ord.all fun i => decide (i < n) && match l[i]? with | some o => isRead o || isCall o || isMake o | none => false) && pairsB l ms lt ord && Region.seqB .any l.toArray (l.length - n) n (headDone n l.length)

section
variable {l : List Oper} {w0 : World} {lt : List Nat} {F : (Nat → Prop) → Act → World → Prop} {ops : Array Oper} {C : World → Prop}

theorem agree_put (a : Act) (x : Option Tmp) (v : Value) : Agree (fun d => x = some d) (a.put x v) a := ⟨put_def a x v, put_size a x v, fun d hd => put_other a x v d hd⟩
theorem agree_put' (a : Act) (x : Option Tmp) (v : Value) : Agree (fun d => x = some d) a (a.put x v) := ⟨(put_def a x v).symm, (put_size a x v).symm, fun d hd => (put_other a x v d hd).symm⟩
theorem yields_agree {D : Nat → Prop} {o : Oper} {v : Value} {a b : Act} (hs : ∀ cs b, o.op ≠ .select cs b) (hag : Agree D a b) (hl : ∀ d ∈ o.looksAt ops, ¬ D d) (h : YieldsIn P ops C o v b) : YieldsIn P ops C o v a := by
  rcases h with ⟨hw, hq⟩ | ⟨hw, hv⟩
  · exact .inl ⟨by rw [hag.wanted o hl]; exact hw, fun w hC => by have := hq w hC; unfold Oper.quietAt at this ⊢; rw [hag.exec o hs hl]; exact this⟩
  · exact .inr ⟨by rw [hag.wanted o hl]; exact hw, hv⟩
theorem yields_sub {C' : World → Prop} {o : Oper} {v : Value} {a : Act} (hr : isRead o = true) (hs : ∀ w, C' w → C w) (h : YieldsIn P ops C o v a) : YieldsIn P ops C' o v a := by
  rcases h with ⟨hw, hq⟩ | h
  · refine .inl ⟨hw, fun w hC => ?_⟩
    have := hq w (hs w hC)
    unfold Oper.quietAt at this ⊢
    rcases read_kinds (P := P) hr a.eval w with ⟨u, w', e⟩ | ⟨x, w', e⟩
    · rw [e] at this ⊢; exact this
    · rw [e] at this ⊢; exact this
  · exact .inr h
theorem Cl.sub {i : Nat} {w w' : World} (hb : Below w.heap.size w w') : ∀ u, Cl w0 lt i w' u → Cl w0 lt i w u := fun u ⟨q, hq⟩ => by
  unfold Cl
  cases h : lt.contains i with
  | false => rw [h] at hq; exact ⟨q, hq⟩
  | true =>
    rw [h] at hq
    simp only [if_true] at hq ⊢
    rw [hq]
    exact gw_of_below (hb.trans ((below_gw w' q).mono hb.size))
theorem Cl.early {i : Nat} (h : lt.contains i = false) (w w' : World) : Cl w0 lt i w = Cl w0 lt i w' := by unfold Cl; rw [h]; rfl
theorem yields_defers {o : Oper} {v : Value} {a : Act} {ds : List Deferred} (h : YieldsIn P ops C o v ⟨a.tmps, ds⟩) : YieldsIn P ops C o v a := by
  have e : (⟨a.tmps, ds⟩ : Act).eval = a.eval := by funext x; cases x <;> rfl
  rcases h with ⟨hw, hq⟩ | ⟨hw, hv⟩
  · exact .inl ⟨hw, fun w hC => by have := hq w hC; unfold Oper.quietAt at this ⊢; rw [e] at this; exact this⟩
  · exact .inr ⟨hw, hv⟩
theorem yields_upd {o : Oper} {v u : Value} {a : Act} {x : Option Tmp} {ds : List Deferred} (hs : ∀ cs b, o.op ≠ .select cs b) (hl : ∀ d ∈ o.looksAt ops, x ≠ some d) (h : YieldsIn P ops C o v (upd a x u ds)) : YieldsIn P ops C o v a :=
  yields_agree hs (agree_put' a x u) hl (yields_defers h)
theorem yields_upd' {o : Oper} {v u : Value} {a : Act} {x : Option Tmp} {ds : List Deferred} (hs : ∀ cs b, o.op ≠ .select cs b) (hl : ∀ d ∈ o.looksAt ops, x ≠ some d) (h : YieldsIn P ops C o v a) : YieldsIn P ops C o v (upd a x u ds) := by
  have h1 := yields_agree hs (agree_put a x u) hl h
  refine yields_defers (a := upd a x u ds) (ds := (a.put x u).defers) ?_
  exact h1
theorem yields_unique {o : Oper} {v v' : Value} {a : Act} (hr : isRead o = true) (hC : ∃ w, C w) (h : YieldsIn P ops C o v a) (h' : YieldsIn P ops C o v' a) : v = v' := by
  obtain ⟨w, hw⟩ := hC
  rcases h with ⟨g, hq⟩ | ⟨g, hv⟩ <;> rcases h' with ⟨g', hq'⟩ | ⟨g', hv'⟩
  · have h1 := hq w hw; have h2 := hq' w hw
    unfold Oper.quietAt at h1 h2
    rcases read_kinds (P := P) hr a.eval w with ⟨u, w', e⟩ | ⟨x, w', e⟩
    · rw [e] at h1 h2
      exact h1.2.symm.trans h2.2
    · rw [e] at h1; exact h1.elim
  · rw [g] at g'; cases g'
  · rw [g] at g'; cases g'
  · rw [hv, hv']
theorem quiet_one {o : Oper} {Q : Act → Prop} {a : Act} : wpQuiet P ops C Q [o] a ↔ ∃ v, YieldsIn P ops C o v a ∧ Q (a.put o.dst v) := by
  unfold wpQuiet
  constructor
  · intro h
    by_cases hw : Region.wanted o (yielded ops a.tmps) = true
    · rw [if_pos hw] at h
      obtain ⟨v, h1, h2⟩ := h
      exact ⟨v, .inl ⟨hw, h1⟩, h2⟩
    · rw [if_neg hw] at h
      exact ⟨undef, .inr ⟨by simpa using hw, rfl⟩, h⟩
  · rintro ⟨v, ⟨hw, hq⟩ | ⟨hw, rfl⟩, hQ⟩
    · rw [if_pos hw]; exact ⟨v, hq, hQ⟩
    · rw [if_neg (by rw [hw]; exact Bool.false_ne_true)]; exact hQ

theorem gw_self (w : World) : gw w ⟨w.drawn, #[]⟩ = w := by unfold gw; simp
theorem below_alloc (w : World) (o : Obj) : Below w.heap.size w (w.alloc o) := Below.alloc (Below.refl _ _) (Nat.le_refl _) o

/-- Two operations, neither of which waits for the other: 'ox' stands ahead of 'oi' in the walk. -/
structure Ind (l : List Oper) (late : Bool) (ox oi : Oper) : Prop where
  lx : ∀ d ∈ ox.looksAt l.toArray, oi.dst ≠ some d
  li : ∀ d ∈ oi.looksAt l.toArray, ox.dst ≠ some d
  dd : ∀ d, ox.dst = some d → oi.dst ≠ some d
  cc : isCall oi = true → isRead ox = true
  la : late = true → isRead ox = true
theorem Ind.dd' {late : Bool} {ox oi : Oper} (h : Ind l late ox oi) : ∀ d, oi.dst = some d → ox.dst ≠ some d := fun d hd he => h.dd d he hd

def Grows (F : (Nat → Prop) → Act → World → Prop) : Prop := ∀ S a w w', Below w.heap.size w w' → F S a w → F S a w'

theorem Mix.grow (hF : Grows F) : ∀ (R : List Nat) (S : Nat → Prop) (a : Act) (w w' : World), Below w.heap.size w w' → Mix P l w0 lt F R S a w → Mix P l w0 lt F R S a w'
  | [], S, a, w, w', hb, h => hF S a w w' hb h
  | i :: R, S, a, w, w', hb, h => by
    unfold Mix at h ⊢
    rw [true_and] at h ⊢
    cases ho : l[i]? with
    | none => rw [ho] at h; exact h
    | some o =>
      rw [ho] at h
      simp only at h ⊢
      by_cases hr : isRead o = true
      · rw [if_pos hr] at h ⊢
        obtain ⟨v, hy, hm⟩ := quiet_one.1 h
        exact quiet_one.2 ⟨v, yields_sub hr (Cl.sub hb) hy, Mix.grow hF R S _ w w' hb hm⟩
      · rw [if_neg hr] at h ⊢
        by_cases hc : isCall o = true
        · rw [if_pos hc] at h ⊢
          intro p Qs hQ
          obtain ⟨p', e⟩ := gw_of_below (hb.trans ((below_gw w' p).mono hb.size))
          rw [e] at hQ ⊢
          exact h p' Qs hQ
        · rw [if_neg hc] at h ⊢
          by_cases hw : Region.wanted o (yielded l.toArray a.tmps) = true
          · rw [if_pos hw] at h ⊢
            obtain ⟨c, t, k, hrun, hm⟩ := h
            exact ⟨c, t, k, hrun, fun b w'' hb' hk hS => hm b w'' (hb.trans (hb'.mono hb.size)) hk hS⟩
          · rw [if_neg hw] at h ⊢
            exact Mix.grow hF R S _ w w' hb h

theorem or_swap (A B C : Prop) : ((A ∨ B) ∨ C) = ((A ∨ C) ∨ B) := propext ⟨fun h => by rcases h with (h | h) | h <;> simp [h], fun h => by rcases h with (h | h) | h <;> simp [h]⟩
theorem lt_of_blk {w : World} {b : Nat} {c : Array Value} {t : TypeId} (h : blk w b c t) : b < w.heap.size := blk_lt h
theorem mval_inj {k k' : Option Nat} {b : Nat} (h : mval k b = mval k' b) : k = k' := by
  cases k <;> cases k' <;> simp [mval] at h <;> simp [h]
theorem alloc_inj {w : World} {c c' : Array Value} {t t' : TypeId} (h : w.alloc (.cells c t) = w.alloc (.cells c' t')) : c = c' ∧ t = t' := by
  have h1 : (w.alloc (.cells c t)).heap[w.heap.size]? = some (.cells c t) := blk_new w c t
  have h2 : (w.alloc (.cells c' t')).heap[w.heap.size]? = some (.cells c' t') := blk_new w c' t'
  rw [h, h2] at h1
  simp at h1
  exact ⟨h1.1.symm, h1.2.symm⟩

theorem Mix.cons_read {i : Nat} {R : List Nat} {S : Nat → Prop} {a : Act} {w : World} {o : Oper} (ho : l[i]? = some o) (hr : isRead o = true) :
    Mix P l w0 lt F (i :: R) S a w ↔ ∃ v, YieldsIn P l.toArray (Cl w0 lt i w) o v a ∧ Mix P l w0 lt F R S (a.put o.dst v) w := by
  rw [Mix, true_and, ho]; simp only [hr, if_true]; exact quiet_one
theorem Mix.cons_call {i : Nat} {R : List Nat} {S : Nat → Prop} {a : Act} {w : World} {o : Oper} (ho : l[i]? = some o) (hr : isRead o = false) (hc : isCall o = true) :
    Mix P l w0 lt F (i :: R) S a w ↔ ∀ p Qs, (∀ a' w', Below (gw w p).heap.size (gw w p) w' → Mix P l w0 lt F R (fun b => S b ∨ ((gw w p).heap.size ≤ b ∧ b < w'.heap.size)) a' w' → Qs Exit.normal a' w') → wpList P l.toArray Qs [o] a (gw w p) := by
  rw [Mix, true_and, ho]; simp only [hr, hc, if_true, Bool.false_eq_true, if_false]
theorem Mix.cons_make {i : Nat} {R : List Nat} {S : Nat → Prop} {a : Act} {w : World} {o : Oper} (ho : l[i]? = some o) (hr : isRead o = false) (hc : isCall o = false) (hw : Region.wanted o (yielded l.toArray a.tmps) = true) :
    Mix P l w0 lt F (i :: R) S a w ↔ ∃ c t k, (∀ w, (execOp a.eval o).run P w = .ok (.value (mval k w.heap.size)) (w.alloc (.cells c t))) ∧
        ∀ b w', Below w.heap.size w w' → blk w' b c t → ¬ S b → Mix P l w0 lt F R (fun k => S k ∨ k = b) (a.put o.dst (mval k b)) w' := by
  rw [Mix, true_and, ho]; simp only [hr, hc, Bool.false_eq_true, if_false]; rw [if_pos hw]
theorem Mix.cons_skip {i : Nat} {R : List Nat} {S : Nat → Prop} {a : Act} {w : World} {o : Oper} (ho : l[i]? = some o) (hr : isRead o = false) (hc : isCall o = false) (hw : ¬ Region.wanted o (yielded l.toArray a.tmps) = true) :
    Mix P l w0 lt F (i :: R) S a w ↔ Mix P l w0 lt F R S (a.put o.dst undef) w := by
  rw [Mix, true_and, ho]; simp only [hr, hc, Bool.false_eq_true, if_false]; rw [if_neg hw]

/-- What a call's outcome is, as far as the walk goes. -/
def OutC (P : Program) (l : List Oper) (w0 : World) (lt : List Nat) (F : (Nat → Prop) → Act → World → Prop) (R : List Nat) (S : Nat → Prop) (W : World) (e : Exit) (a' : Act) (w' : World) : Prop :=
  e = .normal ∧ Below W.heap.size W w' ∧ Mix P l w0 lt F R (fun b => S b ∨ (W.heap.size ≤ b ∧ b < w'.heap.size)) a' w'

/-- A read may come first. -/
theorem Mix.read {i : Nat} {oi : Oper} (hi : l[i]? = some oi) (hri : isRead oi = true) : ∀ (pre post : List Nat) (S : Nat → Prop) (a : Act) (w : World), (∀ x ∈ pre, ∃ ox, l[x]? = some ox ∧ (isRead ox = true ∨ isCall ox = true ∨ isMake ox = true) ∧ Ind l (lt.contains i) ox oi) → (∀ b, S b → b < w.heap.size) →
    Mix P l w0 lt F (pre ++ i :: post) S a w → ∃ v, YieldsIn P l.toArray (Cl w0 lt i w) oi v a ∧ Mix P l w0 lt F (pre ++ post) S (a.put oi.dst v) w
  | [], post, S, a, w, _, _, h => (Mix.cons_read hi hri).1 h
  | x :: pre, post, S, a, w, hp, hS, h => by
    obtain ⟨ox, hx, hk, I⟩ := hp x (List.mem_cons_self ..)
    have hp' : ∀ x ∈ pre, ∃ ox, l[x]? = some ox ∧ (isRead ox = true ∨ isCall ox = true ∨ isMake ox = true) ∧ Ind l (lt.contains i) ox oi := fun y hy => hp y (List.mem_cons_of_mem _ hy)
    have hsi := not_select (.inl hri)
    have hsx := not_select hk
    have hC : ∃ w' : World, Cl w0 lt i w w' := ⟨_, ⟨0, #[]⟩, rfl⟩
    have early : isRead ox = false → lt.contains i = false := fun h => by
      cases hl : lt.contains i with
      | false => rfl
      | true => rw [I.la hl] at h; cases h
    simp only [List.cons_append] at h ⊢
    cases hrx : isRead ox with
    | true =>
      obtain ⟨vx, yx, hm⟩ := (Mix.cons_read hx hrx).1 h
      obtain ⟨v, yv, hm'⟩ := Mix.read hi hri pre post S _ w hp' hS hm
      refine ⟨v, yields_agree hsi (agree_put' a ox.dst vx) I.li yv, (Mix.cons_read hx hrx).2 ⟨vx, yields_agree hsx (agree_put a oi.dst v) I.lx yx, ?_⟩⟩
      rw [put_comm a I.dd'] ; exact hm'
    | false =>
      cases hcx : isCall ox with
      | true =>
        have h := (Mix.cons_call hx hrx hcx).1 h
        have hS' : ∀ p w', Below (gw w p).heap.size (gw w p) w' → ∀ b, (S b ∨ ((gw w p).heap.size ≤ b ∧ b < w'.heap.size)) → b < w'.heap.size := fun p w' hb b hb' => by
          have := hb.size; simp at this
          rcases hb' with h1 | h1
          · have := hS b h1; omega
          · exact h1.2
        have out : ∀ p, wpList P l.toArray (OutC P l w0 lt F (pre ++ i :: post) S (gw w p)) [ox] a (gw w p) := fun p => h p _ fun a' w' hb hm => ⟨rfl, hb, hm⟩
        obtain ⟨u, ds, w', _, hb, hm⟩ := one_out (fun e a w k => k.1) (out ⟨w.drawn, #[]⟩)
        obtain ⟨v, yv, _⟩ := Mix.read hi hri pre post _ _ w' hp' (hS' _ _ hb) hm
        rw [Cl.early (early hrx) w' w] at yv
        have yv' := yields_upd hsi I.li yv
        refine ⟨v, yv', (Mix.cons_call hx hrx hcx).2 fun p Qs hQ => ?_⟩
        refine one_move hsx (agree_put a oi.dst v) I.lx (fun e a w k => k.1) (fun u ds w' k => ?_) (out p)
        obtain ⟨_, hb, hm⟩ := k
        obtain ⟨v2, y2, hm2⟩ := Mix.read hi hri pre post _ _ w' hp' (hS' _ _ hb) hm
        rw [Cl.early (early hrx) w' w] at y2
        have e2 : v2 = v := yields_unique hri hC (yields_upd hsi I.li y2) yv'
        subst e2
        refine hQ _ _ hb ?_
        rw [upd_comm a I.dd]; exact hm2
      | false =>
        by_cases hw : Region.wanted ox (yielded l.toArray a.tmps) = true
        · obtain ⟨c, t, k, hrun, hm⟩ := (Mix.cons_make hx hrx hcx hw).1 h
          have hS' : ∀ b w', Below w.heap.size w w' → blk w' b c t → ∀ k, (S k ∨ k = b) → k < w'.heap.size := fun b w' hb hk k hk' => by
            have := hb.size
            rcases hk' with h1 | h1
            · have := hS k h1; omega
            · rw [h1]; exact blk_lt hk
          obtain ⟨v, yv, _⟩ := Mix.read hi hri pre post _ _ _ hp' (hS' w.heap.size _ (below_alloc w _) (blk_new _ _ _)) (hm w.heap.size _ (below_alloc w _) (blk_new _ _ _) fun k => Nat.lt_irrefl _ (hS _ k))
          rw [Cl.early (early hrx) _ w] at yv
          have yv' := yields_agree hsi (agree_put' a ox.dst _) I.li yv
          refine ⟨v, yv', (Mix.cons_make hx hrx hcx (by rw [(agree_put a oi.dst v).wanted ox I.lx]; exact hw)).2 ⟨c, t, k, fun w => by rw [(agree_put a oi.dst v).exec ox hsx I.lx]; exact hrun w, fun b w' hb hk hSb => ?_⟩⟩
          obtain ⟨v2, y2, hm2⟩ := Mix.read hi hri pre post _ _ w' hp' (hS' b w' hb hk) (hm b w' hb hk hSb)
          rw [Cl.early (early hrx) w' w] at y2
          have e2 : v2 = v := yields_unique hri hC (yields_agree hsi (agree_put' a ox.dst _) I.li y2) yv'
          subst e2
          rw [put_comm a I.dd']; exact hm2
        · have hm := (Mix.cons_skip hx hrx hcx hw).1 h
          obtain ⟨v, yv, hm'⟩ := Mix.read hi hri pre post S _ w hp' hS hm
          refine ⟨v, yields_agree hsi (agree_put' a ox.dst _) I.li yv, (Mix.cons_skip hx hrx hcx (by rw [(agree_put a oi.dst v).wanted ox I.lx]; exact hw)).2 ?_⟩
          rw [put_comm a I.dd']; exact hm'

/-- A call may come first, where only reads stand ahead of it. -/
theorem Mix.call {i : Nat} {oi : Oper} (hi : l[i]? = some oi) (hri : isRead oi = false) (hci : isCall oi = true) : ∀ (pre post : List Nat) (S : Nat → Prop) (a : Act) (w : World), (∀ x ∈ pre, ∃ ox, l[x]? = some ox ∧ (isRead ox = true ∨ isCall ox = true ∨ isMake ox = true) ∧ Ind l (lt.contains i) ox oi) →
    Mix P l w0 lt F (pre ++ i :: post) S a w → ∀ p, wpList P l.toArray (OutC P l w0 lt F (pre ++ post) S (gw w p)) [oi] a (gw w p)
  | [], post, S, a, w, _, h => fun p => (Mix.cons_call hi hri hci).1 h p _ fun a' w' hb hm => ⟨rfl, hb, hm⟩
  | x :: pre, post, S, a, w, hp, h => by
    intro p
    obtain ⟨ox, hx, hk, I⟩ := hp x (List.mem_cons_self ..)
    have hrx := I.cc hci
    obtain ⟨vx, yx, hm⟩ := (Mix.cons_read hx hrx).1 h
    have h1 := Mix.call hi hri hci pre post S _ w (fun y hy => hp y (List.mem_cons_of_mem _ hy)) hm p
    refine one_move (not_select (.inr (.inl hci))) (agree_put' a ox.dst vx) I.li (fun e a w k => k.1) (fun u ds w' k => ?_) h1
    obtain ⟨_, hb, hm'⟩ := k
    refine ⟨rfl, hb, (Mix.cons_read hx hrx).2 ⟨vx, yields_sub hrx (Cl.sub ((below_gw w p).trans (hb.mono (by simp)))) (yields_upd' (not_select (.inl hrx)) I.lx yx), ?_⟩⟩
    rw [← upd_comm a I.dd']; exact hm'

/-- A block may be made first. -/
theorem Mix.make (hF : Grows F) {i : Nat} {oi : Oper} (hi : l[i]? = some oi) (hri : isRead oi = false) (hci : isCall oi = false) (hmi : isMake oi = true) : ∀ (pre post : List Nat) (S : Nat → Prop) (a : Act) (w : World), (∀ x ∈ pre, ∃ ox, l[x]? = some ox ∧ (isRead ox = true ∨ isCall ox = true ∨ isMake ox = true) ∧ Ind l (lt.contains i) ox oi) → (∀ b, S b → b < w.heap.size) →
    Mix P l w0 lt F (pre ++ i :: post) S a w →
    (Region.wanted oi (yielded l.toArray a.tmps) = true → ∃ c t k, (∀ w, (execOp a.eval oi).run P w = .ok (.value (mval k w.heap.size)) (w.alloc (.cells c t))) ∧
        ∀ b w', Below w.heap.size w w' → blk w' b c t → ¬ S b → Mix P l w0 lt F (pre ++ post) (fun k => S k ∨ k = b) (a.put oi.dst (mval k b)) w') ∧
    (¬ Region.wanted oi (yielded l.toArray a.tmps) = true → Mix P l w0 lt F (pre ++ post) S (a.put oi.dst undef) w)
  | [], post, S, a, w, _, _, h => ⟨fun hw => (Mix.cons_make hi hri hci hw).1 h, fun hw => (Mix.cons_skip hi hri hci hw).1 h⟩
  | x :: pre, post, S, a, w, hp, hS, h => by
    obtain ⟨ox, hx, hk, I⟩ := hp x (List.mem_cons_self ..)
    have hp' : ∀ x ∈ pre, ∃ ox, l[x]? = some ox ∧ (isRead ox = true ∨ isCall ox = true ∨ isMake ox = true) ∧ Ind l (lt.contains i) ox oi := fun y hy => hp y (List.mem_cons_of_mem _ hy)
    have hsi := not_select (.inr (.inr hmi))
    have hsx := not_select hk
    simp only [List.cons_append] at h ⊢
    cases hrx : isRead ox with
    | true =>
      obtain ⟨vx, yx, hm⟩ := (Mix.cons_read hx hrx).1 h
      obtain ⟨h1, h2⟩ := Mix.make hF hi hri hci hmi pre post S _ w hp' hS hm
      rw [(agree_put a ox.dst vx).wanted oi I.li] at h1 h2
      refine ⟨fun hw => ?_, fun hw => (Mix.cons_read hx hrx).2 ⟨vx, yields_agree hsx (agree_put a oi.dst _) I.lx yx, ?_⟩⟩
      · obtain ⟨c, t, k, hrun, hmm⟩ := h1 hw
        refine ⟨c, t, k, fun w => by have := hrun w; rw [(agree_put a ox.dst vx).exec oi hsi I.li] at this; exact this, fun b w' hb hkb hSb => (Mix.cons_read hx hrx).2 ⟨vx, yields_sub hrx (Cl.sub hb) (yields_agree hsx (agree_put a oi.dst _) I.lx yx), ?_⟩⟩
        rw [put_comm a I.dd']; exact hmm b w' hb hkb hSb
      · rw [put_comm a I.dd']; exact h2 hw
    | false =>
      cases hcx : isCall ox with
      | true =>
        have h := (Mix.cons_call hx hrx hcx).1 h
        have hS' : ∀ p w', Below (gw w p).heap.size (gw w p) w' → ∀ b, (S b ∨ ((gw w p).heap.size ≤ b ∧ b < w'.heap.size)) → b < w'.heap.size := fun p w' hb b hb' => by
          have := hb.size; simp at this
          rcases hb' with h1 | h1
          · have := hS b h1; omega
          · exact h1.2
        have out : ∀ p, wpList P l.toArray (OutC P l w0 lt F (pre ++ i :: post) S (gw w p)) [ox] a (gw w p) := fun p => h p _ fun a' w' hb hm => ⟨rfl, hb, hm⟩
        have wnt : ∀ u ds, Region.wanted oi (yielded l.toArray (upd a ox.dst u ds).tmps) = Region.wanted oi (yielded l.toArray a.tmps) := fun u ds => (agree_put a ox.dst u).wanted oi I.li
        have exe : ∀ u ds, execOp (upd a ox.dst u ds).eval oi = execOp a.eval oi := fun u ds => by
          rw [← (agree_put a ox.dst u).exec oi hsi I.li]
          have e : (upd a ox.dst u ds).eval = (a.put ox.dst u).eval := by funext x; cases x <;> rfl
          rw [e]
        obtain ⟨u0, ds0, w1, _, hb1, hm1⟩ := one_out (fun e a w k => k.1) (out ⟨w.drawn, #[]⟩)
        have hA := Mix.make hF hi hri hci hmi pre post _ _ w1 hp' (hS' _ _ hb1) hm1
        rw [wnt, exe] at hA
        refine ⟨fun hw => ?_, fun hw => (Mix.cons_call hx hrx hcx).2 fun p Qs hQ => ?_⟩
        · obtain ⟨c, t, k, hrun, _⟩ := hA.1 hw
          refine ⟨c, t, k, hrun, fun b w' hb hkb hSb => (Mix.cons_call hx hrx hcx).2 fun p Qs hQ => ?_⟩
          obtain ⟨p', e⟩ := gw_of_below (hb.trans ((below_gw w' p).mono hb.size))
          have hkb' : blk (gw w' p) b c t := blk_gw hkb
          rw [e] at hQ hkb' ⊢
          refine one_move hsx (agree_put a oi.dst _) I.lx (fun e a w k => k.1) (fun u ds w2 k2 => ?_) (out p')
          obtain ⟨_, hb2, hm2⟩ := k2
          have hB := Mix.make hF hi hri hci hmi pre post _ _ w2 hp' (hS' _ _ hb2) hm2
          rw [wnt, exe] at hB
          obtain ⟨c', t', k', hrun', hmm⟩ := hB.1 hw
          have hr := hrun w; rw [hrun' w] at hr
          simp only [Result.ok.injEq, Next.value.injEq] at hr
          obtain rfl := mval_inj hr.1
          obtain ⟨rfl, rfl⟩ := alloc_inj hr.2
          refine hQ _ _ hb2 ?_
          have hfin := hmm b w2 (Below.refl _ _) (blk_below hb2 hkb') (fun hs => by
            rcases hs with hs | hs
            · exact hSb hs
            · have := blk_lt hkb'; omega)
          rw [upd_comm a I.dd]
          have es : (fun k => (S k ∨ ((gw w p').heap.size ≤ k ∧ k < w2.heap.size)) ∨ k = b) = (fun k => (S k ∨ k = b) ∨ ((gw w p').heap.size ≤ k ∧ k < w2.heap.size)) := by
            exact funext fun k => or_swap ..
          rw [es] at hfin; exact hfin
        · refine one_move hsx (agree_put a oi.dst _) I.lx (fun e a w k => k.1) (fun u ds w2 k2 => ?_) (out p)
          obtain ⟨_, hb2, hm2⟩ := k2
          have hB := Mix.make hF hi hri hci hmi pre post _ _ w2 hp' (hS' _ _ hb2) hm2
          rw [wnt, exe] at hB
          refine hQ _ _ hb2 ?_
          rw [upd_comm a I.dd]; exact hB.2 hw
      | false =>
        by_cases hwx : Region.wanted ox (yielded l.toArray a.tmps) = true
        · obtain ⟨c, t, k, hrun, hm⟩ := (Mix.cons_make hx hrx hcx hwx).1 h
          have hS' : ∀ b w', Below w.heap.size w w' → blk w' b c t → ∀ k, (S k ∨ k = b) → k < w'.heap.size := fun b w' hb hk k hk' => by
            have := hb.size
            rcases hk' with h1 | h1
            · have := hS k h1; omega
            · rw [h1]; exact blk_lt hk
          have wnt : ∀ v, Region.wanted oi (yielded l.toArray (a.put ox.dst v).tmps) = Region.wanted oi (yielded l.toArray a.tmps) := fun v => (agree_put a ox.dst v).wanted oi I.li
          have exe : ∀ v, execOp (a.put ox.dst v).eval oi = execOp a.eval oi := fun v => (agree_put a ox.dst v).exec oi hsi I.li
          have hA := Mix.make hF hi hri hci hmi pre post _ _ _ hp' (hS' w.heap.size _ (below_alloc w _) (blk_new _ _ _)) (hm w.heap.size _ (below_alloc w _) (blk_new _ _ _) fun k => Nat.lt_irrefl _ (hS _ k))
          rw [wnt, exe] at hA
          have toX : ∀ v', Region.wanted ox (yielded l.toArray (a.put oi.dst v').tmps) = true := fun v' => by rw [(agree_put a oi.dst v').wanted ox I.lx]; exact hwx
          refine ⟨fun hw => ?_, fun hw => (Mix.cons_make hx hrx hcx (toX _)).2 ⟨c, t, k, fun w => by rw [(agree_put a oi.dst _).exec ox hsx I.lx]; exact hrun w, fun bx w2 hb2 hkx hSx => ?_⟩⟩
          · obtain ⟨c1, t1, k1, hrun1, _⟩ := hA.1 hw
            refine ⟨c1, t1, k1, hrun1, fun b w' hb hkb hSb => (Mix.cons_make hx hrx hcx (toX _)).2 ⟨c, t, k, fun w => by rw [(agree_put a oi.dst _).exec ox hsx I.lx]; exact hrun w, fun bx w2 hb2 hkx hSx => ?_⟩⟩
            have hbb := hb.trans (hb2.mono hb.size)
            have hB := Mix.make hF hi hri hci hmi pre post _ _ w2 hp' (hS' bx w2 hbb hkx) (hm bx w2 hbb hkx fun h => hSx (.inl h))
            rw [wnt, exe] at hB
            obtain ⟨c', t', k', hrun', hmm⟩ := hB.1 hw
            have hr := hrun1 w; rw [hrun' w] at hr
            simp only [Result.ok.injEq, Next.value.injEq] at hr
            obtain rfl := mval_inj hr.1
            obtain ⟨rfl, rfl⟩ := alloc_inj hr.2
            have hfin := hmm b w2 (Below.refl _ _) (blk_below hb2 hkb) (fun hs => by
              rcases hs with hs | hs
              · exact hSb hs
              · exact hSx (.inr hs.symm))
            rw [put_comm a I.dd']
            have es : (fun k => (S k ∨ k = bx) ∨ k = b) = (fun k => (S k ∨ k = b) ∨ k = bx) := by
              exact funext fun k => or_swap ..
            rw [es] at hfin; exact hfin
          · have hB := Mix.make hF hi hri hci hmi pre post _ _ w2 hp' (hS' bx w2 hb2 hkx) (hm bx w2 hb2 hkx hSx)
            rw [wnt, exe] at hB
            rw [put_comm a I.dd']; exact hB.2 hw
        · have hm := (Mix.cons_skip hx hrx hcx hwx).1 h
          obtain ⟨h1, h2⟩ := Mix.make hF hi hri hci hmi pre post S _ w hp' hS hm
          rw [(agree_put a ox.dst undef).wanted oi I.li] at h1 h2
          have toX : ∀ v', ¬ Region.wanted ox (yielded l.toArray (a.put oi.dst v').tmps) = true := fun v' => by rw [(agree_put a oi.dst v').wanted ox I.lx]; exact hwx
          refine ⟨fun hw => ?_, fun hw => (Mix.cons_skip hx hrx hcx (toX _)).2 ?_⟩
          · obtain ⟨c, t, k, hrun, hmm⟩ := h1 hw
            refine ⟨c, t, k, fun w => by have := hrun w; rw [(agree_put a ox.dst undef).exec oi hsi I.li] at this; exact this, fun b w' hb hkb hSb => (Mix.cons_skip hx hrx hcx (toX _)).2 ?_⟩
            rw [put_comm a I.dd']; exact hmm b w' hb hkb hSb
          · rw [put_comm a I.dd']; exact h2 hw
theorem waits {ms : List Nat} {n : Nat} {listed : Array Bool} (hms : msOk l ms = true) (inv : HeadInv .any l.toArray n listed) : ∀ (i : Nat) (o : Oper), l[i]? = some o → (∀ e ∈ o.after, Region.binds .any e = true → listed.getD e.on false = true) → ∀ j, j < l.length → waitB ms i j = true → backB .any l = true → listed.getD j false = true := by
  intro i
  induction i using Nat.strongRecOn with
  | _ i ih =>
    intro o ho hall j hj hw hback
    have h1 := List.all_eq_true.1 hms i (List.mem_range.2 (List.getElem?_eq_some_iff.1 ho).1)
    simp only [ho] at h1
    have h2 := List.all_eq_true.1 h1 j (List.mem_range.2 hj)
    rw [hw] at h2
    simp only [Bool.not_true, Bool.false_or] at h2
    obtain ⟨e, he, h3⟩ := Array.any_eq_true'.1 h2
    simp only [Bool.and_eq_true, Bool.or_eq_true, beq_iff_eq] at h3
    obtain ⟨hb, h3⟩ := h3
    have hl := hall e he hb
    rcases h3 with h3 | h3
    · rw [← h3]; exact hl
    · have hlt : e.on < i := backB_spec hback ho he hb
      have hon : e.on < l.length := Nat.lt_trans hlt (List.getElem?_eq_some_iff.1 ho).1
      have hoe : l[e.on]? = some l[e.on] := List.getElem?_eq_getElem hon
      exact ih e.on hlt _ hoe (fun e' he' hb' => inv.closed e.on _ (by simp [hon]) hl e' he' hb') j hj h3 hback

/-- Where the walk stands. -/
structure MStand (P : Program) (l : List Oper) (w0 : World) (lt : List Nat) (F : (Nat → Prop) → Act → World → Prop) (n : Nat) (ms : List Nat) (R : List Nat) (S : Nat → Prop) (listed : Array Bool) (a : Act) (w : World) : Prop where
  size : listed.size = l.length
  inv : HeadInv .any l.toArray n listed
  rest : ∀ i, i ∈ R ↔ (i < n ∧ listed.getD i true = false)
  once : R.Nodup
  pairs : pairsB l ms lt R = true
  mix : Mix P l w0 lt F R S a w
  taken : ∀ b, S b → b < w.heap.size
  grown : ∃ q, w = gw w0 q

theorem pairsB_split {ms : List Nat} : ∀ {pre : List Nat} {i : Nat} {post : List Nat}, pairsB l ms lt (pre ++ i :: post) = true → (∀ x ∈ pre, okB l ms lt x i = true) ∧ pairsB l ms lt (pre ++ post) = true
  | [], i, post, h => by simp only [List.nil_append, pairsB, Bool.and_eq_true] at h; exact ⟨fun x hx => (by cases hx), h.2⟩
  | x :: pre, i, post, h => by
    simp only [List.cons_append, pairsB, Bool.and_eq_true] at h ⊢
    obtain ⟨h1, h2⟩ := pairsB_split h.2
    have h3 := List.all_eq_true.1 h.1
    refine ⟨fun y hy => ?_, List.all_eq_true.2 fun y hy => h3 y ?_, h2⟩
    · rcases List.mem_cons.1 hy with rfl | hy
      · exact h3 i (by simp)
      · exact h1 y hy
    · rcases List.mem_append.1 hy with hy | hy <;> simp [hy]

theorem wp_weaken {o : Oper} {a : Act} {w : World} {K : Act → World → Prop} {Q1 Q2 : Exit → Act → World → Prop} (hn : ∀ e a w, Q1 e a w → e = .normal) (hK : ∀ a w, Q1 .normal a w → K a w) (h : wpList P ops Q1 [o] a w) :
    if Region.wanted o (yielded ops a.tmps) then o.wp P a w K Q2 ∨ (o.asks P a w ∧ LetsOut Q2) else K (a.put o.dst undef) w := by
  have nl : ¬ LetsOut Q1 := fun ⟨a, w, k⟩ => by have := hn _ _ _ k; cases this
  unfold wpList at h
  by_cases hw : Region.wanted o (yielded ops a.tmps) = true
  · rw [if_pos hw] at h ⊢
    rcases h with h | ⟨_, k⟩
    · refine .inl ?_
      unfold Oper.wp at h ⊢
      generalize (execOp a.eval o).run P w = r at h ⊢
      cases r with
      | ok nx w' =>
        cases nx <;> simp only [Oper.upon] at h ⊢
        case value v => exact hK _ _ h
        case skip => exact hK _ _ h
        case defer d => exact hK _ _ h
        case enter f args =>
          refine Calls.mono h fun e w'' he => ?_
          cases e with
          | returned v => exact hK _ _ he
          | panicked chain => have := hn _ _ _ he; cases this
          | outgrown => exact absurd he nl
        case row row args => exact Rows.mono h fun v w'' he => hK _ _ he
      | halt x w' =>
        cases x <;> simp only [Oper.upon] at h ⊢
        have := hn _ _ _ h; cases this
    · exact absurd k nl
  · rw [if_neg hw] at h ⊢
    exact hK _ _ h

theorem mix_any {n : Nat} {ms ord : List Nat} {Q : Exit → Act → World → Prop} (hF : Grows F) (hB : mixB l n ms lt ord = true) (hT : ∀ S a w, F S a w → wpList P l.toArray Q (l.drop n) a w) :
    ∀ (f : Nat) (R : List Nat) (S : Nat → Prop) (listed : Array Bool) (a : Act) (w : World), MStand P l w0 lt F n ms R S listed a w → R.length = f → wpAny P .any l.toArray Q (f + (l.length - n)) listed a w := by
  unfold mixB at hB
  simp only [Bool.and_eq_true, decide_eq_true_eq, Bool.or_eq_true] at hB
  obtain ⟨⟨⟨⟨⟨⟨⟨⟨hn, hback⟩, hsc⟩, hms⟩, hlen⟩, hnd⟩, hkinds⟩, _⟩, hseq⟩ := hB
  intro f
  induction f with
  | zero =>
    intro R S listed a w M hf
    obtain rfl := List.eq_nil_of_length_eq_zero hf
    have all : ∀ i, i < n → listed.getD i true = true := fun i hi => by
      false_or_by_contra
      rename_i hne
      have := (M.rest i).2 ⟨hi, by simpa using hne⟩
      cases this
    have eL : listed = headDone n l.length := by
      apply Array.ext_getElem?
      intro k
      by_cases hk : k < l.length
      · have hk' : k < listed.size := by rw [M.size]; exact hk
        have e1 : (headDone n l.length)[k]? = some (decide (k < n)) := by simp [headDone, hk]
        rw [e1, Array.getElem?_eq_getElem hk']
        by_cases hkn : k < n
        · have := all k hkn
          simp [hk'] at this
          simp [this, hkn]
        · have := M.inv.tail k (by omega) (by simpa using hk)
          simp [hk'] at this
          simp [this, hkn]
      · rw [Array.getElem?_eq_none (by rw [M.size]; omega), Array.getElem?_eq_none (by simp [headDone]; omega)]
    have H := hT _ _ _ M.mix
    rw [Nat.zero_add]
    have := wpAny_of_seq (P := P) (md := .any) (Q' := Q) (l.drop n) n listed a w (fun j => by simp [List.getElem?_drop]) (by rw [eL]; simpa using hseq) H
    simpa using this
  | succ f ih =>
    intro R S listed a w M hf
    obtain ⟨i0, hi0⟩ := List.exists_mem_of_ne_nil R (fun h => by rw [h] at hf; simp at hf)
    obtain ⟨hin0, hun0⟩ := (M.rest i0).1 hi0
    have headOnly : ∀ j, j ∈ Region.ready .any l.toArray listed → j < n := fun j hj => by
      rcases hsc with h | ⟨hs, hc⟩
      · obtain ⟨_, o, ho, _⟩ := mem_ready.1 hj
        have : j < l.length := by have := (Array.getElem?_eq_some_iff.1 ho).1; simpa using this
        omega
      · false_or_by_contra
        rename_i hnj
        obtain ⟨_, o, ho, _⟩ := mem_ready.1 hj
        have hjl : j < l.length := by have := (Array.getElem?_eq_some_iff.1 ho).1; simpa using this
        exact tail_waits hs hc (by simp; omega) M.inv _ i0 rfl hin0 hun0 j (by omega) hj
    have some_ready : Region.ready .any l.toArray listed ≠ [] := by
      have ex : ∀ k, k < n → listed.getD k true = false → ∃ j, j ∈ Region.ready .any l.toArray listed := by
        intro k
        induction k using Nat.strongRecOn with
        | _ k ihk =>
          intro hk hunk
          have hkl : k < l.length := by omega
          have hok : l[k]? = some l[k] := List.getElem?_eq_getElem hkl
          by_cases hall : ∀ e ∈ (l[k]).after, Region.binds .any e = true → listed.getD e.on false = true
          · exact ⟨k, mem_ready.2 ⟨hunk, l[k], by simp [hkl], hall⟩⟩
          · obtain ⟨e, he⟩ := Classical.not_forall.1 hall
            obtain ⟨he1, he2⟩ := Classical.not_imp.1 he
            obtain ⟨hb, hf'⟩ := Classical.not_imp.1 he2
            have hlt := backB_spec hback hok he1 hb
            exact ihk e.on hlt (by omega) (getD_in (by rw [M.size]; omega) (by simpa using hf'))
      obtain ⟨j, hj⟩ := ex i0 hin0 hun0
      intro h; rw [h] at hj; cases hj
    rw [show f + 1 + (l.length - n) = (f + (l.length - n)) + 1 from by omega]
    refine ⟨fun h0 => absurd h0 some_ready, fun i hi => ?_⟩
    have hin := headOnly i hi
    obtain ⟨hun, oi, ho, hall⟩ := mem_ready.1 hi
    have hol : l[i]? = some oi := by simpa using ho
    have hisz : i < listed.size := by rw [M.size]; omega
    obtain ⟨pre, post, hR⟩ := List.append_of_mem ((M.rest i).2 ⟨hin, hun⟩)
    subst hR
    obtain ⟨hok, hpp⟩ := pairsB_split M.pairs
    have kind : ∀ x o, x < n → l[x]? = some o → (isRead o = true ∨ isCall o = true ∨ isMake o = true) := fun x o hx hxo => by
      -- every number below n is in the order
      have hmem : x ∈ ord := by
        false_or_by_contra
        rename_i hxn
        have hsub : ∀ y ∈ x :: ord, y ∈ List.range n := fun y hy => by
          rcases List.mem_cons.1 hy with rfl | hy
          · exact List.mem_range.2 hx
          · have := List.all_eq_true.1 hkinds y hy
            simp only [Bool.and_eq_true, decide_eq_true_eq] at this
            exact List.mem_range.2 this.1
        have := (List.nodup_cons.2 ⟨hxn, hnd⟩).length_le_of_subset hsub
        simp [hlen] at this
        omega
      have := List.all_eq_true.1 hkinds x hmem
      simp only [hxo, Bool.and_eq_true, Bool.or_eq_true] at this
      rcases this.2 with (h | h) | h
      · exact .inl h
      · exact .inr (.inl h)
      · exact .inr (.inr h)
    have hkx : ∀ x ∈ pre, ∃ ox, l[x]? = some ox ∧ (isRead ox = true ∨ isCall ox = true ∨ isMake ox = true) ∧ Ind l (lt.contains i) ox oi := fun x hx => by
      obtain ⟨hxn, hxu⟩ := (M.rest x).1 (by simp [hx])
      have hxl : x < l.length := by omega
      have hxo : l[x]? = some l[x] := List.getElem?_eq_getElem hxl
      refine ⟨l[x], hxo, kind x _ hxn hxo, ?_⟩
      have nw : waitB ms i x = false := by
        cases hwb : waitB ms i x with
        | false => rfl
        | true =>
          have := waits hms M.inv i oi hol hall x hxl hwb hback
          have h5 : x < listed.size := by rw [M.size]; exact hxl
          simp [h5] at this hxu
          rw [this] at hxu; cases hxu
      have h := hok x hx
      unfold okB at h
      rw [hxo, hol] at h
      simp only [nw, Bool.false_or, Bool.and_eq_true] at h
      obtain ⟨⟨⟨h1, h2⟩, h3⟩, h4⟩ := h
      refine ⟨fun d hd he => ?_, fun d hd he => ?_, fun d hd he => ?_, fun hci => ?_, fun hla => ?_⟩
      · rw [he] at h1; simp [hd] at h1
      · rw [he] at h2; simp [hd] at h2
      · rw [he] at h1; simp [hd] at h1
      · rw [hci] at h3; simpa using h3
      · rw [hla] at h4; simpa using h4
    have hf' : (pre ++ post).length = f := by simp at hf ⊢; omega
    have next : ∀ S' a' w', Mix P l w0 lt F (pre ++ post) S' a' w' → (∀ b, S' b → b < w'.heap.size) → (∃ q, w' = gw w0 q) → MStand P l w0 lt F n ms (pre ++ post) S' (listed.setIfInBounds i true) a' w' := fun S' a' w' hm ht hg => by
      have hno := M.once
      refine ⟨by simp [M.size], M.inv.set hi hin, fun k => ?_, ?_, hpp, hm, ht, hg⟩
      · by_cases hki : k = i
        · subst hki
          have h1 : k ∉ pre ++ post := by
            rw [List.nodup_append] at hno
            intro hk
            rcases List.mem_append.1 hk with hk | hk
            · exact hno.2.2 k hk k (by simp) rfl
            · exact (List.nodup_cons.1 hno.2.1).1 hk
          exact ⟨fun h => absurd h h1, fun ⟨_, h⟩ => by simp [hisz] at h⟩
        · rw [getD_set_ne true (Ne.symm hki), ← M.rest k]
          simp [hki]
      · exact (List.Sublist.append_left (List.sublist_cons_self i post) pre).nodup hno
    obtain ⟨q0, hq0⟩ := M.grown
    have grown' : ∀ w', Below w.heap.size w w' → ∃ q, w' = gw w0 q := fun w' hb => gw_of_below (by
      have h1 : Below w0.heap.size w0 w := by rw [hq0]; exact below_gw w0 q0
      exact h1.trans (hb.mono h1.size))
    unfold wpOp
    rw [ho]
    simp only
    rcases hkd : isRead oi with _ | _
    · rcases hcd : isCall oi with _ | _
      · have hmd : isMake oi = true := by
          rcases kind i oi hin hol with h | h | h
          · rw [h] at hkd; cases hkd
          · rw [h] at hcd; cases hcd
          · exact h
        obtain ⟨h1, h2⟩ := Mix.make hF hol hkd hcd hmd pre post S a w hkx M.taken M.mix
        by_cases hw : Region.wanted oi (yielded l.toArray a.tmps) = true
        · rw [if_pos hw]
          obtain ⟨c, t, k, hrun, hm⟩ := h1 hw
          refine .inl ?_
          unfold Oper.wp
          rw [hrun w]
          simp only [Oper.upon]
          refine ih _ _ _ _ _ (next _ _ _ (hm w.heap.size _ (below_alloc w _) (blk_new _ _ _) fun k => Nat.lt_irrefl _ (M.taken _ k)) (fun b hb => ?_) (grown' _ (below_alloc w _))) hf'
          have := (below_alloc w (.cells c t)).size
          rcases hb with hb | hb
          · have := M.taken b hb; omega
          · rw [hb]; exact blk_lt (blk_new w c t)
        · rw [if_neg hw]
          exact ih _ _ _ _ _ (next _ _ _ (h2 hw) M.taken M.grown) hf'
      · have h1 := Mix.call hol hkd hcd pre post S a w hkx M.mix ⟨w.drawn, #[]⟩
        rw [gw_self] at h1
        refine wp_weaken (fun e a w k => k.1) (fun a' w' k => ?_) h1
        obtain ⟨_, hb, hm⟩ := k
        refine ih _ _ _ _ _ (next _ _ _ hm (fun b hb' => ?_) (grown' _ hb)) hf'
        rcases hb' with h | h
        · have := M.taken b h; have := hb.size; omega
        · exact h.2
    · obtain ⟨v, hy, hm⟩ := Mix.read hol hkd pre post S a w hkx M.taken M.mix
      have hst := next _ _ _ hm M.taken M.grown
      rcases hy with ⟨hw, hq⟩ | ⟨hw, rfl⟩
      · rw [if_pos hw]
        refine .inl ?_
        have h1 := hq w (by
          unfold Cl
          cases lt.contains i with
          | false => exact M.grown
          | true => exact ⟨⟨w.drawn, #[]⟩, (gw_self w).symm⟩)
        unfold Oper.quietAt at h1
        unfold Oper.wp
        rcases read_kinds (P := P) hkd a.eval w with ⟨u, w', e⟩ | ⟨x, w', e⟩
        · rw [e] at h1 ⊢
          obtain ⟨rfl, rfl⟩ := h1
          exact ih _ _ _ _ _ hst hf'
        · rw [e] at h1; exact h1.elim
      · rw [if_neg (by rw [hw]; exact Bool.false_ne_true)]
        exact ih _ _ _ _ _ hst hf'

/-- One walk serves every order. 'n': how many operations stand ahead of the tail, whose order is forced. -/
theorem wp_mix {a : Act} {w : World} {id : Nat} {Q : Exit → Act → World → Prop} (n : Nat) (ms lt ord : List Nat) (hmix : P.follows .mixedOrders = true) (hB : mixB l n ms lt ord = true)
    (h : Mix P l w lt (fun S a w' => ∀ p, wpList P l.toArray Q (l.drop n) a (gw w' p)) ord (fun b => b < w.heap.size) a w) : (Code.region id l.toArray true).wp P Q a w := by
  have hB' := hB
  unfold mixB at hB'
  simp only [Bool.and_eq_true, decide_eq_true_eq, Bool.or_eq_true] at hB'
  obtain ⟨⟨⟨⟨⟨⟨⟨⟨hn, hback⟩, hsc⟩, hms⟩, hlen⟩, hnd⟩, hkinds⟩, hpairs⟩, hseq⟩ := hB'
  have hF : Grows (fun (S : Nat → Prop) a w' => ∀ p, wpList P l.toArray Q (l.drop n) a (gw w' p)) := fun S a w1 w2 hb hh p => by
    obtain ⟨p', e⟩ := gw_of_below (hb.trans ((below_gw w2 p).mono hb.size))
    simp only [e]; exact hh p'
  refine wp_region_any hmix ?_
  have hall : ∀ i, i < n → i ∈ ord := fun i hi => by
    false_or_by_contra
    rename_i hxn
    have hsub : ∀ y ∈ i :: ord, y ∈ List.range n := fun y hy => by
      rcases List.mem_cons.1 hy with rfl | hy
      · exact List.mem_range.2 hi
      · have := List.all_eq_true.1 hkinds y hy
        simp only [Bool.and_eq_true, decide_eq_true_eq] at this
        exact List.mem_range.2 this.1
    have := (List.nodup_cons.2 ⟨hxn, hnd⟩).length_le_of_subset hsub
    simp [hlen] at this
    omega
  have gd : ∀ i, i < l.length → (Array.replicate l.toArray.size false).getD i true = false := fun i hi => getD_in (by simpa using hi) (getD_replicate_false _ _)
  have hb0 : Below w.heap.size w { w with drawn := w.drawn + 1 } := ⟨rfl, rfl, rfl, Nat.le_refl _, fun _ _ => rfl⟩
  have M0 : MStand P l w lt (fun S a w' => ∀ p, wpList P l.toArray Q (l.drop n) a (gw w' p)) n ms ord (fun b => b < w.heap.size) (Array.replicate l.toArray.size false) a { w with drawn := w.drawn + 1 } := by
    refine ⟨by simp, ⟨by simp, fun j oj _ hl => (by rw [getD_replicate_false] at hl; cases hl), fun t _ ht => gd t (by simpa using ht)⟩, fun i => ⟨fun hi => ?_, fun hi => hall i hi.1⟩, hnd, hpairs, Mix.grow hF _ _ _ _ _ hb0 h, fun b hb => hb, ⟨⟨w.drawn + 1, #[]⟩, by unfold gw; simp⟩⟩
    have := List.all_eq_true.1 hkinds i hi
    simp only [Bool.and_eq_true, decide_eq_true_eq] at this
    exact ⟨this.1, gd i (by omega)⟩
  have := mix_any hF hB (fun S a w k => by have := k ⟨w.drawn, #[]⟩; rw [gw_self] at this; exact this) n ord _ _ a _ M0 hlen
  have e : n + (l.length - n) = l.toArray.size := by simp; omega
  rw [e] at this; exact this

/-! The steps. -/
theorem mix_early {i : Nat} {R : List Nat} {S : Nat → Prop} {a : Act} {w : World} {o : Oper} (ho : l[i]? = some o) (hr : isRead o = true) (hl : lt.contains i = false) (h : wpQuiet P l.toArray (fun w' => ∃ q, w' = gw w0 q) (fun a' => Mix P l w0 lt F R S a' w) [o] a) : Mix P l w0 lt F (i :: R) S a w := by
  refine (Mix.cons_read ho hr).2 ?_
  have e : Cl w0 lt i w = fun w' => ∃ q, w' = gw w0 q := by unfold Cl; rw [hl]; rfl
  rw [e]; exact quiet_one.1 h
theorem mix_late {i : Nat} {R : List Nat} {S : Nat → Prop} {a : Act} {w : World} {o : Oper} (ho : l[i]? = some o) (hr : isRead o = true) (hl : lt.contains i = true) (h : wpQuiet P l.toArray (fun w' => ∃ q, w' = gw w q) (fun a' => Mix P l w0 lt F R S a' w) [o] a) : Mix P l w0 lt F (i :: R) S a w := by
  refine (Mix.cons_read ho hr).2 ?_
  have e : Cl w0 lt i w = fun w' => ∃ q, w' = gw w q := by unfold Cl; rw [hl]; rfl
  rw [e]; exact quiet_one.1 h
theorem mix_call {i : Nat} {R : List Nat} {S : Nat → Prop} {a : Act} {w : World} {o : Oper} (ho : l[i]? = some o) (hr : isRead o = false) (hc : isCall o = true) (h : ∀ p Qs, (∀ a' w', Below (gw w p).heap.size (gw w p) w' → Mix P l w0 lt F R (fun b => S b ∨ ((gw w p).heap.size ≤ b ∧ b < w'.heap.size)) a' w' → Qs Exit.normal a' w') → wpList P l.toArray Qs [o] a (gw w p)) : Mix P l w0 lt F (i :: R) S a w := (Mix.cons_call ho hr hc).2 h
theorem mix_make {i : Nat} {R : List Nat} {S : Nat → Prop} {a : Act} {w : World} {o : Oper} (c : Array Value) (t : TypeId) (k : Option Nat) (ho : l[i]? = some o) (hr : isRead o = false) (hc : isCall o = false) (hw : Region.wanted o (yielded l.toArray a.tmps) = true)
    (hrun : ∀ w, (execOp a.eval o).run P w = .ok (.value (mval k w.heap.size)) (w.alloc (.cells c t))) (h : ∀ b w', Below w.heap.size w w' → blk w' b c t → ¬ S b → Mix P l w0 lt F R (fun k => S k ∨ k = b) (a.put o.dst (mval k b)) w') : Mix P l w0 lt F (i :: R) S a w := (Mix.cons_make ho hr hc hw).2 ⟨c, t, k, hrun, h⟩
theorem mix_skip {i : Nat} {R : List Nat} {S : Nat → Prop} {a : Act} {w : World} {o : Oper} (ho : l[i]? = some o) (hr : isRead o = false) (hc : isCall o = false) (hw : Region.wanted o (yielded l.toArray a.tmps) = false) (h : Mix P l w0 lt F R S (a.put o.dst undef) w) : Mix P l w0 lt F (i :: R) S a w := (Mix.cons_skip ho hr hc (by rw [hw]; exact Bool.false_ne_true)).2 h
theorem mix_end {S : Nat → Prop} {a : Act} {w : World} (h : F S a w) : Mix P l w0 lt F [] S a w := h

end

end

end Go.Proofs.Ytmdnbmekbhljkaa

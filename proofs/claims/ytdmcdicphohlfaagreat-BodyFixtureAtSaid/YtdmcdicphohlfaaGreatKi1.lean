/- Worlds that have grown by a call, as a function of the world before; and regions that draw their order, all of whose operations but a forced tail leave such worlds alone: one walk in the order of the text. No program is imported.
What a field of a struct value is, for each struct type and field that the program's code asks (one law each, by the kernel).
Opening the arguments of a statement by their types' outer form, and what a statement owes behind the call, out of 'nothing below the heap's old size has turned'. No program is imported.
Regions that draw their order and hold allocations among operations that leave old memory alone (v := f(x); a, b := f(x), g(y), the results structs): one walk in the order of the text serves every order; where the new blocks lie is left open. No program is imported.
Slices in memory: what their cells hold, what make and append leave. No program is imported.
Regions that draw their order and hold calls whose results are not known beforehand (new memory), operations that make a block, and operations that read: one walk, in one order, serves every order. No program is imported. -/
import Derived.WalkKit
import Derived.BigQuiet
import Derived.Deep.QuietTactic
import Derived.StillTail
import Derived.Below
import Derived.IntWalk
import Derived.Laws.NewBlocks
import Derived.Test.YtdmcdicphohlfaaGreatProg
import Derived.ProofKit
import Derived.OpenShut
import Derived.Carry
import Derived.OwnWalk
import Derived.LoopTactic
import Derived.Laws.OwnMore

set_option linter.unusedVariables false
namespace Go.Proofs.YtdmcdicphohlfaaGreat

/-! ### A region with a forced tail -/
section
variable {P : Program} {md : Region.Mode}

def backB (md : Region.Mode) (l : List Oper) : Bool :=
  (List.range l.length).all fun j => match l[j]? with
    | some o => o.after.all fun e => !Region.binds md e || decide (e.on < j)
    | none => true
def guardB (l : List Oper) (n : Nat) : Bool := (l.take n).all fun o => match o.guard with | some (j, _) => decide (j < n) | none => true
def headDone (n m : Nat) : Array Bool := ((List.range m).map fun i => decide (i < n)).toArray
def tailB (l : List Oper) (n : Nat) : Bool :=
  decide (n < l.length) && backB .any l && guardB l n && Region.sinkB .any l.toArray n && Region.chainB .any l.toArray n && Region.lexB .any (l.take n).toArray && Region.seqB .any l.toArray (l.length - n) n (headDone n l.length)

theorem backB_spec {l : List Oper} (h : backB md l = true) {j : Nat} {o : Oper} (ho : l[j]? = some o) {e : Edge} (he : e ∈ o.after) (hb : Region.binds md e = true) : e.on < j := by
  have hj : j < l.length := (List.getElem?_eq_some_iff.1 ho).1
  have h1 := List.all_eq_true.1 h j (List.mem_range.2 hj)
  simp only [ho] at h1
  have h2 := Array.all_eq_true_iff_forall_mem.1 h1 e he
  simpa [hb] using h2

theorem any_more {ops : Array Oper} {Q : Exit → Act → World → Prop} : ∀ (f : Nat) (listed : Array Bool) (a : Act) (w : World), wpAny P md ops Q f listed a w → wpAny P md ops Q (f + 1) listed a w
  | 0, listed, a, w, h => ⟨fun _ => h.2, fun i hi => by rw [h.1] at hi; cases hi⟩
  | f + 1, listed, a, w, h => ⟨h.1, fun i hi => wpOp_mono (fun a' w' h' => any_more f _ a' w' h') (h.2 i hi)⟩
theorem any_more_by {ops : Array Oper} {Q : Exit → Act → World → Prop} {g : Nat} {listed : Array Bool} {a : Act} {w : World} (h : wpAny P md ops Q g listed a w) : ∀ f, wpAny P md ops Q (f + g) listed a w
  | 0 => by rw [Nat.zero_add]; exact h
  | f + 1 => by rw [show f + 1 + g = (f + g) + 1 from by omega]; exact any_more _ _ _ _ (any_more_by h f)

structure Books (l : List Oper) (n : Nat) (listed lh : Array Bool) : Prop where
  big : listed.size = l.length
  small : lh.size = n
  same : ∀ k, k < n → listed[k]? = lh[k]?
theorem Books.getD {l : List Oper} {n : Nat} {listed lh : Array Bool} (B : Books l n listed lh) {k : Nat} (hk : k < n) (d : Bool) : listed.getD k d = lh.getD k d := by
  have h := B.same k hk
  simp only [Array.getD_eq_getD_getElem?, h]
theorem Books.set {l : List Oper} {n : Nat} {listed lh : Array Bool} (B : Books l n listed lh) (hn : n < l.length) {i : Nat} (hi : i < n) : Books l n (listed.setIfInBounds i true) (lh.setIfInBounds i true) :=
  ⟨by simp [B.big], by simp [B.small], fun k hk => by
    rw [Array.getElem?_setIfInBounds, Array.getElem?_setIfInBounds, B.same k hk, B.big, B.small]
    by_cases h : i = k
    · simp [h, hk, show k < l.length from by omega]
    · simp [h]⟩

theorem head_all {l : List Oper} {n : Nat} {lh : Array Bool} (hback : backB md l = true) (hn : n < l.length) (hs : lh.size = n) (h : Region.ready md (l.take n).toArray lh = []) : ∀ (d i : Nat), i < d → i < n → lh.getD i false = true := by
  intro d
  induction d with
  | zero => intro i hi; omega
  | succ d ih =>
    intro i hi hin
    by_cases hid : i < d
    · exact ih i hid hin
    · false_or_by_contra
      rename_i hne
      have hf : lh.getD i false = false := by simpa using hne
      have hl : i < l.length := by omega
      have ho : l[i]? = some l[i] := List.getElem?_eq_getElem hl
      have hm : i ∈ Region.ready md (l.take n).toArray lh := mem_ready.2 ⟨getD_in (by omega) hf, l[i], by simp [hin, ho], fun e he hb => by
        have := backB_spec hback ho he hb
        exact ih e.on (by omega) (by omega)⟩
      rw [h] at hm; cases hm

theorem any_of_head {C : World → Prop} {l : List Oper} {n g : Nat} {Q' : Exit → Act → World → Prop} {T : Act → World → Prop} (hn : n < l.length) (hback : backB md l = true) (hs : Region.sinkB md l.toArray n = true) (hc : Region.chainB md l.toArray n = true)
    (hT : ∀ (listed : Array Bool) a w, listed.size = l.length → (∀ k, k < n → listed.getD k false = true) → (∀ t, n ≤ t → t < l.length → listed.getD t true = false) → T a w → wpAny P md l.toArray Q' g listed a w)
    (hg : ∀ (o : Oper) (tmps : Array Value), o ∈ l.take n → Region.wanted o (yielded l.toArray tmps) = Region.wanted o (yielded (l.take n).toArray tmps)) :
    ∀ (f : Nat) (listed lh : Array Bool) (a : Act) (w : World), Books l n listed lh → HeadInv md l.toArray n listed → C w →
      wpAnyQ P md (l.take n).toArray C (fun a' => ∀ w', C w' → T a' w') f lh a → wpAny P md l.toArray Q' (f + g) listed a w := by
  have done : ∀ (f : Nat) (listed lh : Array Bool) (a : Act) (w : World), Books l n listed lh → HeadInv md l.toArray n listed → Region.ready md (l.take n).toArray lh = [] → T a w → wpAny P md l.toArray Q' (f + g) listed a w :=
    fun f listed lh a w B inv hr ht => any_more_by (hT listed a w B.big (fun k hk => by rw [B.getD hk]; exact head_all hback hn B.small hr n k hk hk) (fun t h1 h2 => inv.tail t h1 (by simpa using h2)) ht) f
  intro f
  induction f with
  | zero => intro listed lh a w B inv hw h; exact done 0 listed lh a w B inv h.1 (h.2 w hw)
  | succ f ih =>
    intro listed lh a w B inv hw h
    by_cases hr : Region.ready md (l.take n).toArray lh = []
    · exact done (f + 1) listed lh a w B inv hr (h.1 hr w hw)
    · -- something of the head is open: nothing of the tail may come up
      obtain ⟨i0, hi0⟩ := List.exists_mem_of_ne_nil _ hr
      have hi0' := mem_ready.1 hi0
      have hin0 : i0 < n := by
        obtain ⟨_, o, ho, _⟩ := hi0'
        have := (Array.getElem?_eq_some_iff.1 ho).1
        simp at this; omega
      have hun : listed.getD i0 true = false := by rw [B.getD hin0]; exact hi0'.1
      have both : ∀ j, j ∈ Region.ready md l.toArray listed → j < n ∧ j ∈ Region.ready md (l.take n).toArray lh := by
        intro j hj
        have hjn : j < n := by
          false_or_by_contra
          exact tail_waits hs hc (by simpa using hn) inv _ i0 rfl hin0 hun j (by omega) hj
        obtain ⟨h1, o, ho, h2⟩ := mem_ready.1 hj
        have ho' : l[j]? = some o := by simpa using ho
        exact ⟨hjn, mem_ready.2 ⟨by rw [← B.getD hjn]; exact h1, o, by simp [hjn, ho'], fun e he hb => by
          have := backB_spec hback ho' he hb
          rw [← B.getD (by omega)]; exact h2 e he hb⟩⟩
      have back : i0 ∈ Region.ready md l.toArray listed := by
        obtain ⟨h1, o, ho, h2⟩ := hi0'
        have ho' : l[i0]? = some o := by simpa [hin0] using ho
        exact mem_ready.2 ⟨hun, o, by simpa using ho', fun e he hb => by
          have := backB_spec hback ho' he hb
          rw [B.getD (by omega)]; exact h2 e he hb⟩
      rw [show f + 1 + g = (f + g) + 1 from by omega]
      refine ⟨fun h0 => (by rw [h0] at back; cases back), fun j hj => ?_⟩
      obtain ⟨hjn, hj'⟩ := both j hj
      obtain ⟨_, o, ho, _⟩ := mem_ready.1 hj
      have ho' : l[j]? = some o := by simpa using ho
      have hoh : (l.take n).toArray[j]? = some o := by simp [hjn, ho']
      have hmem : o ∈ l.take n := by
        have := List.mem_of_getElem? (l := l.take n) (i := j) (a := o) (by simpa using hoh)
        exact this
      have step := wpOp_of_qOp (Q' := Q') hw (K' := fun a' w' => wpAny P md l.toArray Q' (f + g) (listed.setIfInBounds j true) a' w')
        (fun a' w' hw' h' => ih _ _ a' w' (B.set hn hjn) (inv.set hj hjn) hw' h') (h.2 j hj')
      unfold wpOp at step ⊢
      rw [hoh] at step
      rw [ho]
      simp only at step ⊢
      rw [hg o a.tmps hmem]
      exact step

theorem wanted_head {l : List Oper} {n : Nat} (hgB : guardB l n = true) (o : Oper) (tmps : Array Value) (ho : o ∈ l.take n) : Region.wanted o (yielded l.toArray tmps) = Region.wanted o (yielded (l.take n).toArray tmps) := by
  have h := List.all_eq_true.1 hgB o ho
  unfold Region.wanted
  cases hgd : o.guard with
  | none => rfl
  | some x =>
    obtain ⟨j, b⟩ := x
    rw [hgd] at h
    have hj : j < n := by simpa using h
    simp only
    unfold yielded
    simp [hj]

theorem quiet_head {C : World → Prop} {Q : Act → Prop} {ops ops' : Array Oper} : ∀ (r : List Oper) (a : Act), (∀ o ∈ r, ∀ tmps, Region.wanted o (yielded ops tmps) = Region.wanted o (yielded ops' tmps)) → wpQuiet P ops C Q r a → wpQuiet P ops' C Q r a
  | [], _, _, h => h
  | o :: r, a, hg, h => by
    unfold wpQuiet at h ⊢
    rw [← hg o (List.mem_cons_self ..) a.tmps]
    split
    · rename_i hw
      rw [if_pos hw] at h
      exact Oper.quiet_mono (fun a' h' => quiet_head r a' (fun o' ho' => hg o' (List.mem_cons_of_mem _ ho')) h') h
    · rename_i hw
      rw [if_neg hw] at h
      exact quiet_head r _ (fun o' ho' => hg o' (List.mem_cons_of_mem _ ho')) h

theorem wp_region_tail {C : World → Prop} {id : Nat} {Q : Exit → Act → World → Prop} {a : Act} {w : World} {l : List Oper} (n : Nat) (hm : P.follows .mixedOrders = true) (hB : tailB l n = true) (hC : C { w with drawn := w.drawn + 1 })
    (h : wpQuiet P l.toArray C (fun a' => ∀ w', C w' → wpList P l.toArray Q (l.drop n) a' w') (l.take n) a) : (Code.region id l.toArray true).wp P Q a w := by
  unfold tailB at hB
  simp only [Bool.and_eq_true, decide_eq_true_eq] at hB
  obtain ⟨⟨⟨⟨⟨⟨hn, hback⟩, hgB⟩, hs⟩, hc⟩, hlex⟩, hseq⟩ := hB
  unfold Region.lexB at hlex
  rw [Bool.and_eq_true] at hlex
  have hlen : (l.take n).length = n := by simp; omega
  refine wp_region_any hm ?_
  have inv0 : HeadInv .any l.toArray n (Array.replicate l.toArray.size false) :=
    ⟨by simp, fun j oj _ hl => (by rw [getD_replicate_false] at hl; cases hl), fun t _ ht => getD_in (by simpa using ht) (getD_replicate_false _ _)⟩
  have B0 : Books l n (Array.replicate l.toArray.size false) (Array.replicate (l.take n).toArray.size false) :=
    ⟨by simp, by simp; omega, fun k hk => by simp [show k < l.length from by omega, show k < min n l.length from by omega]⟩
  have hq := quiet_head (l.take n) a (fun o ho tmps => wanted_head hgB o tmps ho) h
  have hQ := wpAnyQ_lex (C := C) (md := .any) hlex.1 (l.take n) 0 (Array.replicate (l.take n).toArray.size false) a (by simp) (by simpa using hlex.2) hq
  have H := any_of_head (P := P) (md := .any) (g := l.length - n) (Q' := Q) (T := wpList P l.toArray Q (l.drop n)) hn hback hs hc
    (fun listed a' w' hz hh ht hT => by
      have e : listed = headDone n l.length := by
        apply Array.ext_getElem?
        intro k
        by_cases hk : k < l.length
        · have hk' : k < listed.size := by omega
          have e1 : (headDone n l.length)[k]? = some (decide (k < n)) := by simp [headDone, hk]
          rw [e1, Array.getElem?_eq_getElem hk']
          by_cases hkn : k < n
          · have := hh k hkn
            simp [hk'] at this
            simp [this, hkn]
          · have := ht k (by omega) hk
            simp [hk'] at this
            simp [this, hkn]
        · rw [Array.getElem?_eq_none (by omega), Array.getElem?_eq_none (by simp [headDone]; omega)]
      have := wpAny_of_seq (P := P) (md := .any) (Q' := Q) (l.drop n) n listed a' w' (fun j => by simp [List.getElem?_drop]) (by rw [e]; simpa using hseq) hT
      simpa using this)
    (fun o tmps ho => wanted_head hgB o tmps ho) (l.take n).length _ _ a _ B0 inv0 hC hQ
  rw [hlen, show n + (l.length - n) = l.toArray.size from by simp; omega] at H
  exact H
end

/-! ### A world that has grown -/
open Go.RowKit
structure Gw where
  d : Nat
  os : Array Obj
  deriving Inhabited
def gw (w : World) (p : Gw) : World := { w with drawn := p.d, heap := w.heap ++ p.os }

theorem below_gw (w : World) (p : Gw) : Below w.heap.size w (gw w p) :=
  ⟨rfl, rfl, rfl, by simp [gw], fun k hk => by simp [gw, Array.getElem?_append, hk]⟩
theorem gw_of_below {w w' : World} (h : Below w.heap.size w w') : ∃ p, w' = gw w p := by
  refine ⟨⟨w'.drawn, w'.heap.extract w.heap.size w'.heap.size⟩, ?_⟩
  have e : w'.heap = w.heap ++ w'.heap.extract w.heap.size w'.heap.size := by
    apply Array.ext_getElem?
    intro k
    rcases Nat.lt_or_ge k w.heap.size with hk | hk
    · rw [Array.getElem?_append_left hk]; exact h.block k hk
    · rw [Array.getElem?_append_right hk, Array.getElem?_extract]
      rcases Nat.lt_or_ge k w'.heap.size with h2 | h2
      · rw [if_pos (by omega)]; congr 1; omega
      · rw [if_neg (by omega), Array.getElem?_eq_none h2]
  have h1 := h.os; have h2 := h.tape; have h3 := h.output
  cases w; cases w'
  simp only at e h1 h2 h3
  subst h1 h2 h3
  simp only [gw]
  congr 1
@[simp, go_sem] theorem size_gw (w : World) (p : Gw) : (gw w p).heap.size = w.heap.size + p.os.size := by simp [gw]
theorem cell_gw {w : World} {a : Addr} (p : Gw) (h : a.block < w.heap.size) : (gw w p).cell? a = w.cell? a := (below_gw w p).cell h
theorem frozen_gw {w : World} {a : Addr} (p : Gw) (h : a.block < w.heap.size) : (gw w p).frozen? a = w.frozen? a := (below_gw w p).frozen h
theorem Below.gw {B : Nat} {a w : World} (h : Below B a w) (hB : B ≤ w.heap.size) (p : Gw) : Below B a (gw w p) := h.trans ((below_gw w p).mono hB)
theorem bgw {B : Nat} {a w : World} (h : Below B a w) (hB : B ≤ w.heap.size) (p : Gw) : Below B a (gw w p) := h.trans ((below_gw w p).mono hB)
theorem drewN_gw (w : World) (n : Nat) : w.drewN n = gw w ⟨w.drawn + n, #[]⟩ := by
  induction n with
  | zero => simp [gw, World.drewN]
  | succ n ih => simp [gw, World.drewN] at ih ⊢ <;> simp [ih, World.drew] <;> omega
def older (b : Nat) (w : World) : Bool := decide (b < w.heap.size)
theorem older_iff {b : Nat} {w : World} : older b w = true ↔ b < w.heap.size := by simp [older]
def newer (b : Nat) (w : World) (p : Gw) : Bool := decide (¬ b < w.heap.size ∧ b < w.heap.size + p.os.size)
@[go_sem] theorem older_gw (b : Nat) (w : World) (p : Gw) : older b (gw w p) = (older b w || newer b w p) := by
  unfold older newer
  rw [size_gw, Bool.eq_iff_iff]
  simp; omega
@[go_sem] theorem older_alloc (b : Nat) (w : World) (o : Obj) : older b (w.alloc o) = (older b w || decide (b = w.heap.size)) := by
  unfold older
  rw [Bool.eq_iff_iff]
  simp; omega
@[go_sem] theorem older_set (b : Nat) (w : World) (a : Addr) (v : Value) : older b (w.setCell a v) = older b w := by
  unfold older; simp [World.setCell]
@[go_sem] theorem older_drew (b : Nat) (w : World) : older b w.drew = older b w := rfl
theorem older_of_cell {w : World} {b o : Nat} {s : Option Nat} {v : Value} (h : w.cell? ⟨b, o, s⟩ = some v) : older b w = true := older_iff.2 (World.block_lt_of_cell? w ⟨b, o, s⟩ h)

@[go_sem] theorem cell_gw' {w : World} {b : Nat} {o : Nat} {s : Option Nat} (p : Gw) (h : older b w = true) : (gw w p).cell? ⟨b, o, s⟩ = w.cell? ⟨b, o, s⟩ := cell_gw p (older_iff.1 h)
@[go_sem] theorem frozen_gw' {w : World} {b : Nat} {o : Nat} {s : Option Nat} (p : Gw) (h : older b w = true) : (gw w p).frozen? ⟨b, o, s⟩ = w.frozen? ⟨b, o, s⟩ := frozen_gw p (older_iff.1 h)
@[go_sem] theorem cell_alloc' {w : World} {b : Nat} {o : Nat} {s : Option Nat} (x : Obj) (h : older b w = true) : (w.alloc x).cell? ⟨b, o, s⟩ = w.cell? ⟨b, o, s⟩ := World.cell?_alloc_lt w x ⟨b, o, s⟩ (older_iff.1 h)
@[go_sem] theorem frozen_alloc' {w : World} {b : Nat} {o : Nat} {s : Option Nat} (x : Obj) (h : older b w = true) : (w.alloc x).frozen? ⟨b, o, s⟩ = w.frozen? ⟨b, o, s⟩ := World.frozen?_alloc_old _ _ _ (by have := older_iff.1 h; show b ≠ w.heap.size; omega)
@[go_sem] theorem setCell_alloc' {w : World} {b : Nat} {i : Nat} (o : Obj) (v : Value) (h : older b w = true) : (w.alloc o).setCell ⟨b, i, none⟩ v = (w.setCell ⟨b, i, none⟩ v).alloc o := World.setCell_alloc_past o b i v (older_iff.1 h)

@[go_sem] theorem setCell_gw' {w : World} {b : Nat} {o : Nat} {s : Option Nat} (v : Value) (p : Gw) (h : older b w = true) : (gw w p).setCell ⟨b, o, s⟩ v = gw (w.setCell ⟨b, o, s⟩ v) p := by
  have h' := older_iff.1 h
  simp only [gw, World.setCell]
  congr 1
  apply Array.ext_getElem?
  intro k
  simp only [Array.getElem?_modify, Array.getElem?_append, Array.size_modify]
  by_cases hk : k < w.heap.size
  · simp [hk]
  · have : b ≠ k := by omega
    simp [hk, this]
attribute [irreducible] gw older newer

def blk (w : World) (b : Nat) (c : Array Value) (t : TypeId) : Prop := w.heap[b]? = some (.cells c t)
theorem blk_lt {w : World} {b : Nat} {c : Array Value} {t : TypeId} (h : blk w b c t) : b < w.heap.size := (Array.getElem?_eq_some_iff.1 h).1
theorem blk_older {w : World} {b : Nat} {c : Array Value} {t : TypeId} (h : blk w b c t) : older b w = true := older_iff.2 (blk_lt h)
theorem blk_cell {w : World} {b : Nat} {c : Array Value} {t : TypeId} (h : blk w b c t) (i : Nat) : w.cell? ⟨b, i, none⟩ = c[i]? := by
  unfold blk at h; simp [World.cell?, h]
theorem blk_free {w : World} {b : Nat} {c : Array Value} {t : TypeId} (h : blk w b c t) (i : Nat) : w.frozen? ⟨b, i, none⟩ = false := by
  unfold blk at h; simp [World.frozen?, h]
theorem blk_of {w : World} {b : Nat} {c c' : Array Value} {t : TypeId} (h : blk w b c' t) (e : c' = c) : blk w b c t := e ▸ h
theorem blk_gw {w : World} {b : Nat} {c : Array Value} {t : TypeId} {p : Gw} (h : blk w b c t) : blk (gw w p) b c t :=
  ((below_gw w p).block b (blk_lt h)).trans h
theorem blk_below {w w' : World} {b : Nat} {c : Array Value} {t : TypeId} (hb : Below w.heap.size w w') (h : blk w b c t) : blk w' b c t := (hb.block b (blk_lt h)).trans h
theorem blk_alloc {w : World} {b : Nat} {c : Array Value} {t : TypeId} {o : Obj} (h : blk w b c t) : blk (w.alloc o) b c t := by
  have := blk_lt h
  unfold blk World.alloc at *
  simp only [Array.getElem?_push]; rw [if_neg (by omega)]; exact h
theorem blk_drew {w : World} {b : Nat} {c : Array Value} {t : TypeId} (h : blk w b c t) : blk w.drew b c t := h
theorem blk_new (w : World) (c : Array Value) (t : TypeId) : blk (w.alloc (.cells c t)) w.heap.size c t := by
  unfold blk World.alloc; simp
theorem blk_at {w : World} {b : Nat} {c : Array Value} {t : TypeId} (h : b = w.heap.size) : blk (w.alloc (.cells c t)) b c t := h ▸ blk_new w c t
theorem bBel {B : Nat} {a w : World} (h : Below B a w := by repeat (first | with_reducible exact Below.refl _ _ | with_reducible assumption | refine bgw ?_ (by first | (simp; done) | (simp; omega) | omega) _ | refine Below.setCell ?_ (by first | exact Nat.le_of_not_lt (by assumption) | (simp; done) | (simp; omega) | omega) _ | refine Below.alloc ?_ (by first | (simp; done) | (simp; omega) | omega) _ | refine Below.drew ?_)) : Below B a w := h
theorem bBkn {w : World} {b : Nat} {c : Array Value} {t : TypeId} (h : blk w b c t := by repeat (first | with_reducible exact blk_new _ _ _ | ((with_reducible refine blk_at ?_); (simp; done)) | with_reducible apply blk_alloc | with_reducible apply blk_gw | with_reducible apply blk_drew)) : blk w b c t := h
theorem blk_set {w : World} {b i : Nat} {c : Array Value} {t : TypeId} {v : Value} (h : blk w b c t) : blk (w.setCell ⟨b, i, none⟩ v) b (c.setIfInBounds i v) t := by
  unfold blk World.setCell at *
  simp [Array.getElem?_modify, h]
theorem blk_other {w : World} {b b' i : Nat} {c : Array Value} {t : TypeId} {v : Value} (hne : b' ≠ b) (h : blk w b c t) : blk (w.setCell ⟨b', i, none⟩ v) b c t := by
  unfold blk World.setCell at *
  simp only [Array.getElem?_modify]; rw [if_neg hne]; exact h

section
variable {P : Program}
theorem wp_region_gw {id : Nat} {Q : Exit → Act → World → Prop} {a : Act} {w : World} {l : List Oper} (hm : P.follows .mixedOrders = true) (hB : Region.lexB .any l.toArray = true)
    (h : wpQuiet P l.toArray (fun w' => ∃ p, w' = gw w p) (fun a' => ∀ w', (∃ p, w' = gw w p) → Q .normal a' w') l a) : (Code.region id l.toArray true).wp P Q a w :=
  wp_region_quiet (C := fun w' => ∃ p, w' = gw w p) hm hB (gw_of_below ⟨rfl, rfl, rfl, Nat.le_refl _, fun _ _ => rfl⟩) (by simpa using h)
theorem wp_region_gw_tail {id : Nat} {Q : Exit → Act → World → Prop} {a : Act} {w : World} {l : List Oper} (n : Nat) (hm : P.follows .mixedOrders = true) (hB : tailB l n = true)
    (h : wpQuiet P l.toArray (fun w' => ∃ p, w' = gw w p) (fun a' => ∀ w', (∃ p, w' = gw w p) → wpList P l.toArray Q (l.drop n) a' w') (l.take n) a) : (Code.region id l.toArray true).wp P Q a w :=
  wp_region_tail (C := fun w' => ∃ p, w' = gw w p) n hm hB (gw_of_below ⟨rfl, rfl, rfl, Nat.le_refl _, fun _ _ => rfl⟩) h

theorem gw_call {f : FuncId} {args : Array Value} {w : World} {p : Gw} {v : Value}
    (h : Calls P f args (gw w p) fun e w' => e = .returned v ∧ Below (gw w p).heap.size (gw w p) w') : Calls P f args (gw w p) fun e w'' => e = .returned v ∧ ∃ q, w'' = gw w q :=
  h.mono fun _ _ ⟨he, hb⟩ => ⟨he, gw_of_below ((below_gw w p).trans (hb.mono (by simp)))⟩
theorem gw_at {f : FuncId} {args : Array Value} {w : World} {v : Value}
    (h : Calls P f args w fun e w' => e = .returned v ∧ Below w.heap.size w w') : Calls P f args w fun e w'' => e = .returned v ∧ ∃ q, w'' = gw w q :=
  h.mono fun _ _ ⟨he, hb⟩ => ⟨he, gw_of_below hb⟩
end

theorem boolIs {P : Program} {f : FuncId} {args : Array Value} {w : World} {x b : Bool} (h : Calls P f args w fun e w' => e = .returned (.bool x) ∧ Below w.heap.size w w') (hx : x = b) : Calls P f args w fun e w' => e = .returned (.bool b) ∧ Below w.heap.size w w' := hx ▸ h

theorem wp_named {P : Program} {c : Code} {Q : Exit → Act → World → Prop} {a : Act} {w : World} (h : ∀ W, W = w → c.wp P Q a W) : c.wp P Q a w := h w rfl

/-! ### min, max of three -/
theorem three_min (P : Program) (ts : Array TypeId) (t : TypeId) (k k' k'' : IntKind) (x y z : Int) (w : World) : (Builtin.min_ ts t #[.int k x, .int k' y, .int k'' z]).run P w = .ok (.int k (if z < (if y < x then y else x) then z else (if y < x then y else x))) w := by
  simp [Builtin.min_, Builtin.min2]
theorem three_max (P : Program) (ts : Array TypeId) (t : TypeId) (k k' k'' : IntKind) (x y z : Int) (w : World) : (Builtin.max_ ts t #[.int k x, .int k' y, .int k'' z]).run P w = .ok (.int k (if (if x < y then y else x) < z then z else (if x < y then y else x))) w := by
  simp [Builtin.max_, Builtin.max2]
@[go_sem] theorem run_min3 (P : Program) (ts : Array TypeId) (t : TypeId) (k k' k'' : IntKind) (x y z : Int) (w : World) : (Builtin.min_ ts t #[.int k x, .int k' y, .int k'' z]).run P w = .ok (.int k (min (min x y) z)) w := by
  rw [three_min]
  congr 2
  split <;> split at * <;> omega
@[go_sem] theorem run_max3 (P : Program) (ts : Array TypeId) (t : TypeId) (k k' k'' : IntKind) (x y z : Int) (w : World) : (Builtin.max_ ts t #[.int k x, .int k' y, .int k'' z]).run P w = .ok (.int k (max (max x y) z)) w := by
  rw [three_max]
  congr 2
  split <;> split at * <;> omega

end Go.Proofs.YtdmcdicphohlfaaGreat

set_option linter.unusedVariables false
namespace Go.Proofs.YtdmcdicphohlfaaGreat

@[go_sem] theorem fld_49_1 (c0 c1 c2 c3 : Value) (w : World) : (Instr.field 49 (.agg #[c0, c1, c2, c3]) 1).run Tryz.prog w = .ok (.agg #[c1, c2]) w := by kernel_rfl
@[go_sem] theorem fld_53_3 (c0 c1 c2 c3 c4 : Value) (w : World) : (Instr.field 53 (.agg #[c0, c1, c2, c3, c4]) 3).run Tryz.prog w = .ok (c4) w := by kernel_rfl

end Go.Proofs.YtdmcdicphohlfaaGreat

set_option linter.unusedVariables false
namespace Go.Proofs.YtdmcdicphohlfaaGreat.Opn
open Go.ChangeShapes Go.WideShapes Go.ChangeAt Go.RowKit

def Fits (P : Program) (w : World) (B : Nat) : List TypeId → List Value → Prop
  | [], [] => True
  | u :: us, c :: cs => Cell.okWide P w .any B u c ∧ Fits P w B us cs
  | _, _ => False
theorem fits_cons {P : Program} {w : World} {B : Nat} {u : TypeId} {us : List TypeId} {cs : List Value} (h : Fits P w B (u :: us) cs) : ∃ c cs', cs = c :: cs' ∧ Cell.okWide P w .any B u c ∧ Fits P w B us cs' := by
  cases cs with
  | nil => exact h.elim
  | cons c cs' => exact ⟨c, cs', rfl, h.1, h.2⟩
theorem fits_nil {P : Program} {w : World} {B : Nat} {cs : List Value} (h : Fits P w B [] cs) : cs = [] := by
  cases cs with
  | nil => rfl
  | cons c cs' => exact h.elim
theorem fits_of {P : Program} {w : World} {B : Nat} : ∀ (ts : List TypeId) (cs : List Value), cs.length = ts.length → (∀ (i : Nat) (v : Value), cs[i]? = some v → ∃ u, ts[i]? = some u ∧ Cell.okWide P w .any B u v) → Fits P w B ts cs
  | [], [], _, _ => trivial
  | [], c :: cs, h, _ => by simp at h
  | u :: us, [], h, _ => by simp at h
  | u :: us, c :: cs, h, hi => by
    refine ⟨?_, fits_of us cs (by simpa using h) fun i v hv => ?_⟩
    · obtain ⟨u', hu, hc⟩ := hi 0 c rfl
      simp at hu; subst hu; exact hc
    · obtain ⟨u', hu, hc⟩ := hi (i + 1) v (by simpa using hv)
      exact ⟨u', by simpa using hu, hc⟩

theorem open_flat {P : Program} {w : World} {B : Nat} {t : TypeId} {v : Value} {ts : List TypeId} (hd : (match P.underlying t with | some (.struct _) | some (.array _ _) => true | _ => false) = true)
    (hct : P.cellTypes P.depth t = some ts) (hC : P.cellsOf t = ts.length) (h : Value.okWide P w .any B t v) : ∃ cs : List Value, v = .agg cs.toArray ∧ Fits P w B ts cs := by
  unfold Value.okWide at h
  split at h
  · obtain ⟨cs, rfl, hsz, ts', hts, _, hi⟩ := h
    rw [hct] at hts; simp at hts; subst hts
    refine ⟨cs.toList, by simp, fits_of _ _ (by simpa using hsz.trans hC) fun i v hv => ?_⟩
    obtain ⟨u, hu, hc⟩ := hi i v (by simpa using hv)
    have hlt : i < ts.length := by
      have := (List.getElem?_eq_some_iff.1 hv).1
      have e : cs.toList.length = ts.length := by simpa using hsz.trans hC
      omega
    rw [Nat.mod_eq_of_lt hlt] at hu
    exact ⟨u, hu, hc⟩
  · obtain ⟨cs, rfl, hsz, ts', hts, _, hi⟩ := h
    rw [hct] at hts; simp at hts; subst hts
    refine ⟨cs.toList, by simp, fits_of _ _ (by simpa using hsz.trans hC) fun i v hv => ?_⟩
    obtain ⟨u, hu, hc⟩ := hi i v (by simpa using hv)
    have hlt : i < ts.length := by
      have := (List.getElem?_eq_some_iff.1 hv).1
      have e : cs.toList.length = ts.length := by simpa using hsz.trans hC
      omega
    rw [Nat.mod_eq_of_lt hlt] at hu
    exact ⟨u, hu, hc⟩
  · rename_i h1 h2
    split at hd
    · rename_i fs e; exact absurd e (h1 fs)
    · rename_i n e' e; exact absurd e (h2 n e')
    · simp at hd

theorem cell_int {P : Program} {w : World} {B : Nat} {t : TypeId} {k : IntKind} {v : Value} (ht : P.underlying t = some (.int k)) (h : Cell.okWide P w .any B t v) : ∃ n, v = .int k n ∧ k.has n := by
  simp only [Cell.okWide, ht] at h
  cases v <;> simp_all [Cell.ok]
theorem one_int {P : Program} {w : World} {B : Nat} {t : TypeId} {k : IntKind} {v : Value} (ht : P.underlying t = some (.int k)) (h : Value.okWide P w .any B t v) : ∃ n, v = .int k n ∧ k.has n := by
  simp only [Value.okWide, ht] at h
  exact cell_int ht h
section
variable {H : Type} {enc : TypeId × Value → H} {P : Program}

theorem all_stay (hl : laidOutB P = true) {W W' : World} (hb : Below W.heap.size W W') : ∀ (ts : List TypeId) (vs : List Value) (ds : List (DataW H)) (p : List MemPlace), ts.all (fun t => P.readableRec t && decide (t < P.types.size)) = true →
    DataW.TrodAll enc P W 0 (fun _ => true) true ts vs ds p → (∀ x ∈ p, x.block < W.heap.size) → DataW.TrodAll enc P W' 0 (fun b => decide (b < W.heap.size)) true ts vs ds p
  | [], [], [], _, _, h, _ => h
  | t :: ts, v :: vs, d :: ds, _, hr, ⟨p, q, h, hs, rfl⟩, hlt => by
    simp only [List.all_cons, Bool.and_eq_true, decide_eq_true_eq] at hr
    exact ⟨p, q, Below.trod hl hr.1.1 hr.1.2 h hb fun x hx => hlt x (List.mem_append_left _ hx), all_stay hl hb ts vs ds q hr.2 hs fun x hx => hlt x (List.mem_append_right _ hx), rfl⟩
  | [], _ :: _, _, _, _, h, _ => h.elim
  | [], [], _ :: _, _, _, h, _ => h.elim
  | _ :: _, [], _, _, _, h, _ => h.elim
  | _ :: _, _ :: _, [], _, _, h, _ => h.elim

theorem law_post {f : Func} {s : ChangeSpec} {W W' : World} {args : Array Value} {ds gs : List (DataW H)} {before : List MemPlace} {tb : TypeId} (hl : laidOutB P = true)
    (hW : DataW.Whole enc P f.params.toList s.vars false W args.toList ds gs before) (hv : s.vars = []) (hfn : s.fn H (ds ++ gs) = { results := [.lit (.bool true)], args := ds })
    (hres : f.resultTypes = #[tb]) (ht : P.underlying tb = some .bool) (hok : f.params.toList.all (fun t => P.readableRec t && decide (t < P.types.size)) = true) (hb : Below W.heap.size W W') :
    s.post enc P f false true false false W args (.bool true) W' := by
  have hlt := hW.lt
  have hW' := hW
  obtain ⟨p, q, hA, hV, rfl, hz, hn⟩ := hW
  rw [hv] at hV
  obtain ⟨rfl, rfl⟩ := trodVars_none hV
  refine ⟨ds, [], _, [], p, [], hW', ?_, ?_, ?_, hb.frame _, fun h => by simp at h⟩
  · rw [hfn, hres]; exact trodAll_cons_mk (shut_bool ht _) trodAll_mk0
  · rw [hfn]; exact all_stay hl hb _ _ _ _ hok hA fun x hx => hlt x (by simpa using hx)
  · rw [hfn, hv]; exact rfl
end

end Go.Proofs.YtdmcdicphohlfaaGreat.Opn

set_option linter.unusedVariables false
namespace Go.Proofs.YtdmcdicphohlfaaGreat
open Go.RowKit

section
variable {P : Program}

structure Agree (D : Nat → Prop) (a b : Act) : Prop where
  defers : a.defers = b.defers
  size : a.tmps.size = b.tmps.size
  slot : ∀ d, ¬ D d → a.tmps[d]? = b.tmps[d]?

theorem Agree.refl (D : Nat → Prop) (a : Act) : Agree D a a := ⟨rfl, rfl, fun _ _ => rfl⟩
theorem Agree.weaken {D E : Nat → Prop} {a b : Act} (h : Agree D a b) (hi : ∀ d, D d → E d) : Agree E a b := ⟨h.defers, h.size, fun d hd => h.slot d fun k => hd (hi d k)⟩
theorem Agree.exec {D : Nat → Prop} {a b : Act} {ops : Array Oper} (h : Agree D a b) (o : Oper) (hs : ∀ cs b, o.op ≠ .select cs b) (hl : ∀ d ∈ o.looksAt ops, ¬ D d) : execOp a.eval o = execOp b.eval o :=
  execOp_congr o hs fun x hx => by
    cases x with
    | tmp t =>
      have : ¬ D t := hl t (List.mem_append_left _ (List.mem_filterMap.2 ⟨.tmp t, by simpa using hx, rfl⟩))
      simp [Act.eval, Array.getD_eq_getD_getElem?, h.slot t this]
    | _ => rfl
theorem Agree.wanted {D : Nat → Prop} {a b : Act} {ops : Array Oper} (h : Agree D a b) (o : Oper) (hl : ∀ d ∈ o.looksAt ops, ¬ D d) : Region.wanted o (yielded ops a.tmps) = Region.wanted o (yielded ops b.tmps) := by
  unfold Region.wanted
  cases hg : o.guard with
  | none => rfl
  | some gw =>
    obtain ⟨g, want⟩ := gw
    have hy : yielded ops a.tmps g = yielded ops b.tmps g := by
      unfold yielded
      cases ht : (ops[g]?).bind (·.dst) with
      | none => rfl
      | some t =>
        have := h.slot t (hl t (by simp [Oper.looksAt, hg, ht]))
        simp [this]
    simp only [hy]

theorem put_size (a : Act) (x : Option Tmp) (v : Value) : (a.put x v).tmps.size = a.tmps.size := by cases x <;> simp [Act.put]
theorem put_def (a : Act) (x : Option Tmp) (v : Value) : (a.put x v).defers = a.defers := by cases x <;> rfl
theorem put_other (a : Act) (x : Option Tmp) (v : Value) (d : Nat) (h : x ≠ some d) : (a.put x v).tmps[d]? = a.tmps[d]? := by
  cases x with
  | none => rfl
  | some e => simp only [Act.put]; rw [Array.getElem?_setIfInBounds_ne (by intro k; exact h (by rw [k]))]
theorem put_own (a : Act) (d : Nat) (v : Value) (h : d < a.tmps.size) : (a.put (some d) v).tmps[d]? = some v := by simp [Act.put, h]
theorem put_same {a b : Act} {x : Option Tmp} {v : Value} (hz : a.tmps.size = b.tmps.size) (h : ∀ d, x = some d → (b.put x v).tmps[d]? = a.tmps[d]?) : a.put x v = a := by
  cases x with
  | none => rfl
  | some d =>
    cases a with
    | mk ts ds =>
      simp only [Act.put, Act.mk.injEq, and_true]
      apply Array.ext_getElem?
      intro k
      by_cases hk : d = k
      · subst hk
        have h1 := h d rfl
        simp only [Act.put] at h1
        simp only [Array.getElem?_setIfInBounds, if_true] at h1 ⊢
        rw [← h1]
        simp only at hz
        rw [hz]
      · rw [Array.getElem?_setIfInBounds_ne hk]

def Told (P : Program) (ops : Array Oper) (C : World → Prop) (aF : Act) (o : Oper) : Prop := ∃ v, YieldsIn P ops C o v aF ∧ aF.put o.dst v = aF

def ssaB (ops : Array Oper) : List Oper → Bool
  | [] => true
  | o :: r => ((o :: r).all fun o' => match o'.dst with | some d => !(o.looksAt ops).contains d | none => true) && (r.all fun o' => match o.dst with | some d => o'.dst != some d | none => true) &&
      (match o.op with | .select .. => false | _ => true) && ssaB ops r

theorem told {ops : Array Oper} {C : World → Prop} {aF : Act} : ∀ (r : List Oper) (a : Act), ssaB ops r = true → wpQuiet P ops C (fun a' => a' = aF) r a → Agree (fun d => ∃ o ∈ r, o.dst = some d) a aF ∧ ∀ o ∈ r, Told P ops C aF o
  | [], a, _, h => by
    have h' : a = aF := h
    subst h'
    exact ⟨Agree.refl _ _, fun o ho => by cases ho⟩
  | o :: r, a, hs, h => by
    simp only [ssaB, Bool.and_eq_true] at hs
    obtain ⟨⟨⟨hlook, hdst⟩, hsel⟩, hr⟩ := hs
    have hlook' : ∀ d ∈ o.looksAt ops, ¬ ∃ o' ∈ o :: r, o'.dst = some d := fun d hd ⟨o', ho', he⟩ => by
      have := List.all_eq_true.1 hlook o' ho'
      simp [he, hd] at this
    have hdst' : ∀ o' ∈ r, ∀ d, o.dst = some d → o'.dst ≠ some d := fun o' ho' d hd he => by
      have := List.all_eq_true.1 hdst o' ho'
      simp [hd, he] at this
    have hsel' : ∀ cs b, o.op ≠ .select cs b := fun cs b he => by simp [he] at hsel
    -- the step, for whichever value
    have step : ∀ v, wpQuiet P ops C (fun a' => a' = aF) r (a.put o.dst v) → Agree (fun d => ∃ o' ∈ o :: r, o'.dst = some d) a aF ∧ (∀ o' ∈ r, Told P ops C aF o') ∧ aF.put o.dst v = aF := by
      intro v hv
      obtain ⟨A, T⟩ := told r _ hr hv
      refine ⟨⟨by rw [← A.defers, put_def], by rw [← A.size, put_size], fun d hd => ?_⟩, T, ?_⟩
      · have h1 : o.dst ≠ some d := fun e => hd ⟨o, List.mem_cons_self .., e⟩
        rw [← A.slot d fun ⟨o', ho', e⟩ => hd ⟨o', List.mem_cons_of_mem _ ho', e⟩, put_other _ _ _ _ h1]
      · refine put_same (b := a) (by rw [← A.size, put_size]) fun d hd => ?_
        exact A.slot d fun ⟨o', ho', e⟩ => hdst' o' ho' d hd e
    unfold wpQuiet at h
    by_cases hw : Region.wanted o (yielded ops a.tmps) = true
    · rw [if_pos hw] at h
      obtain ⟨v, h1, h2⟩ := h
      obtain ⟨A, T, E⟩ := step v h2
      refine ⟨A, fun o' ho' => ?_⟩
      rcases List.mem_cons.1 ho' with rfl | ho'
      · refine ⟨v, .inl ⟨by rw [← A.wanted _ hlook']; exact hw, fun w hCw => ?_⟩, E⟩
        have := h1 w hCw
        unfold Oper.quietAt at this ⊢
        rw [← A.exec _ hsel' hlook']; exact this
      · exact T o' ho'
    · rw [if_neg hw] at h
      obtain ⟨A, T, E⟩ := step undef h
      refine ⟨A, fun o' ho' => ?_⟩
      rcases List.mem_cons.1 ho' with rfl | ho'
      · exact ⟨undef, .inr ⟨by rw [← A.wanted _ hlook']; simpa using hw, rfl⟩, E⟩
      · exact T o' ho'

structure Alc where
  i : Nat
  d : Nat
  c : Array Value
  t : TypeId

def ghost (o : Oper) : Oper := match o.op with | .alloc _ => { o with op := .move (.const undef) } | _ => o
def isAlc (o : Oper) : Bool := match o.op with | .alloc _ => true | _ => false
theorem ghost_dst (o : Oper) : (ghost o).dst = o.dst := by unfold ghost; split <;> rfl
theorem ghost_guard (o : Oper) : (ghost o).guard = o.guard := by unfold ghost; split <;> rfl
theorem ghost_not {o : Oper} (h : isAlc o = false) : ghost o = o := by
  unfold ghost isAlc at *; split
  · rename_i e; rw [e] at h; simp at h
  · rfl

def heads (l : List Oper) (n : Nat) : List Oper := (l.take n).map ghost

def dataB (l : List Oper) (n : Nat) : Bool :=
  (List.range n).all fun i => match l[i]? with
    | some o => (List.range n).all fun j => match l[j]? with
      | some o' => (match o'.dst with
        | some d => !((ghost o).looksAt (heads l n).toArray).contains d || (!isAlc o' && o.after.any fun e => Region.binds .any e && e.on == j)
        | none => true)
      | none => true
    | none => true
def alcB (l : List Oper) (n : Nat) (m : Nat) (A : List Alc) : Bool :=
  (A.all fun x => decide (x.i < n) && decide (x.d < m) && match l[x.i]? with | some o => isAlc o && (o.dst == some x.d) && o.guard.isNone | none => false) &&
  ((List.range n).all fun i => match l[i]? with | some o => !isAlc o || A.any (fun x => x.i == i) | none => true) && decide (A.map (·.d)).Nodup && decide (A.map (·.i)).Nodup
def boxB (l : List Oper) (n : Nat) (m : Nat) (A : List Alc) : Bool :=
  decide (n < l.length) && backB .any l && guardB l n && Region.sinkB .any l.toArray n && Region.chainB .any l.toArray n && ssaB (heads l n).toArray (heads l n) && dataB l n && alcB l n m A &&
  Region.seqB .any l.toArray (l.length - n) n (headDone n l.length)

def ptr (b : Nat) : Value := .pointer (some ⟨b, 0, none⟩)
def putAll (β : Nat → Nat) : List Alc → Act → Act
  | [], a => a
  | x :: A, a => putAll β A (a.put (some x.d) (ptr (β x.i)))

theorem putAll_eq {β : Nat → Nat} {a : Act} : ∀ (A : List Alc) (aF : Act), (A.map (·.d)).Nodup → Agree (fun d => ∃ x ∈ A, x.d = d) a aF → (∀ x ∈ A, a.tmps[x.d]? = some (ptr (β x.i))) → a = putAll β A aF
  | [], aF, _, hA, _ => by
    cases a; cases aF
    obtain ⟨h1, h2, h3⟩ := hA
    simp only at h1 h2 h3
    subst h1
    simp only [putAll]
    congr 1
    apply Array.ext_getElem?
    intro k
    exact h3 k fun ⟨x, hx, _⟩ => by cases hx
  | x :: A, aF, hn, hA, hv => by
    simp only [List.map_cons, List.nodup_cons, List.mem_map, not_exists, not_and] at hn
    refine putAll_eq A _ hn.2 ⟨by rw [put_def]; exact hA.defers, by rw [put_size]; exact hA.size, fun d hd => ?_⟩ (fun y hy => hv y (List.mem_cons_of_mem _ hy))
    by_cases hx : x.d = d
    · subst hx
      have := hv x (List.mem_cons_self ..)
      have hlt : x.d < a.tmps.size := (Array.getElem?_eq_some_iff.1 this).1
      rw [this, put_own _ _ _ (by rw [← hA.size]; exact hlt)]
    · rw [put_other _ _ _ _ (by simpa using hx)]
      exact hA.slot d fun ⟨y, hy, e⟩ => by
        rcases List.mem_cons.1 hy with rfl | hy
        · exact hx e
        · exact hd ⟨y, hy, e⟩

structure Stand (l : List Oper) (n : Nat) (A : List Alc) (aF : Act) (w0 : World) (β : Nat → Nat) (listed : Array Bool) (a : Act) (w : World) : Prop where
  size : listed.size = l.length
  inv : HeadInv .any l.toArray n listed
  agree : Agree (fun d => ∃ i o, i < n ∧ l[i]? = some o ∧ o.dst = some d ∧ (listed.getD i true = false ∨ isAlc o = true)) a aF
  grown : ∃ p, w = gw w0 p
  place : ∀ x ∈ A, listed.getD x.i true = true → a.tmps[x.d]? = some (ptr (β x.i)) ∧ ¬ β x.i < w0.heap.size ∧ blk w (β x.i) x.c x.t
  apart : ∀ x ∈ A, ∀ y ∈ A, listed.getD x.i true = true → listed.getD y.i true = true → x.i ≠ y.i → β x.i ≠ β y.i

theorem gw_gw (w : World) (p q : Gw) : ∃ r, gw (gw w p) q = gw w r := gw_of_below ((below_gw w p).trans ((below_gw (gw w p) q).mono (by simp)))
theorem gw_alloc (w : World) (p : Gw) (o : Obj) : ∃ r, (gw w p).alloc o = gw w r := gw_of_below (Below.alloc (below_gw w p) (by simp) o)

theorem box_any {l : List Oper} {n : Nat} {A : List Alc} {aF : Act} {w0 : World} {Q : Exit → Act → World → Prop} {m : Nat} (hm : aF.tmps.size = m) (hB : boxB l n m A = true)
    (hrun : ∀ x ∈ A, ∀ o, l[x.i]? = some o → ∀ (a : Act) (w : World), (execOp a.eval o).run P w = .ok (.value (ptr w.heap.size)) (w.alloc (.cells x.c x.t)))
    (ht : ∀ p, ∀ o ∈ heads l n, Told P (heads l n).toArray (fun w' => ∃ q, w' = gw (gw w0 p) q) aF o)
    (hT : ∀ (β : Nat → Nat) (p : Gw), (∀ x ∈ A, newer (β x.i) w0 p = true ∧ blk (gw w0 p) (β x.i) x.c x.t) → (∀ x ∈ A, ∀ y ∈ A, x.i ≠ y.i → β x.i ≠ β y.i) → wpList P l.toArray Q (l.drop n) (putAll β A aF) (gw w0 p)) :
    ∀ (f : Nat) (listed : Array Bool) (a : Act) (w : World) (β : Nat → Nat), Stand l n A aF w0 β listed a w → ((List.range n).filter fun i => !listed.getD i true).length = f → wpAny P .any l.toArray Q (f + (l.length - n)) listed a w := by
  unfold boxB at hB
  simp only [Bool.and_eq_true, decide_eq_true_eq] at hB
  obtain ⟨⟨⟨⟨⟨⟨⟨⟨hn, hback⟩, hgB⟩, hs⟩, hc⟩, hssa⟩, hdata⟩, halc⟩, hseq⟩ := hB
  unfold alcB at halc
  simp only [Bool.and_eq_true, decide_eq_true_eq] at halc
  obtain ⟨⟨⟨halc1, halc2⟩, hnd⟩, hni⟩ := halc
  have alc : ∀ x ∈ A, x.i < n ∧ x.d < m ∧ ∃ o, l[x.i]? = some o ∧ isAlc o = true ∧ o.dst = some x.d ∧ o.guard = none := fun x hx => by
    have h := List.all_eq_true.1 halc1 x hx
    simp only [Bool.and_eq_true, decide_eq_true_eq] at h
    obtain ⟨⟨h1, h2⟩, h3⟩ := h
    cases ho : l[x.i]? with
    | none => simp [ho] at h3
    | some o =>
      simp only [ho, Bool.and_eq_true, beq_iff_eq, Option.isNone_iff_eq_none] at h3
      exact ⟨h1, h2, o, rfl, h3.1.1, h3.1.2, h3.2⟩
  have alc' : ∀ i o, i < n → l[i]? = some o → isAlc o = true → ∃ x ∈ A, x.i = i := fun i o hi ho ha => by
    have h := List.all_eq_true.1 halc2 i (List.mem_range.2 hi)
    simp only [ho, ha, Bool.not_true, Bool.false_or] at h
    obtain ⟨x, hx, he⟩ := List.any_eq_true.1 h
    exact ⟨x, hx, by simpa using he⟩
  have sameIx : ∀ x ∈ A, ∀ y ∈ A, x.i = y.i → x = y := by
    clear hT hrun halc1 halc2 alc alc' hnd
    induction A with
    | nil => intro x hx; cases hx
    | cons z A ih =>
      simp only [List.map_cons, List.nodup_cons, List.mem_map, not_exists, not_and] at hni
      intro x hx y hy e
      rcases List.mem_cons.1 hx with h1 | h1 <;> rcases List.mem_cons.1 hy with h2 | h2
      · rw [h1, h2]
      · exact absurd (by rw [← e, h1]) (hni.1 y h2)
      · exact absurd (by rw [e, h2]) (hni.1 x h1)
      · exact ih hni.2 x h1 y h2 e
  have inHeads : ∀ i o, i < n → l[i]? = some o → ghost o ∈ heads l n := fun i o hi ho => by
    refine List.mem_map.2 ⟨o, List.mem_of_getElem? (i := i) (by simp [hi, ho]), rfl⟩
  have hlen : (heads l n).length = n := by simp [heads]; omega
  -- guards, read in the walked head
  have wantG : ∀ i o, i < n → l[i]? = some o → ∀ ts, Region.wanted o (yielded l.toArray ts) = Region.wanted (ghost o) (yielded (heads l n).toArray ts) := fun i o hi ho ts => by
    unfold Region.wanted
    rw [ghost_guard]
    cases hg : o.guard with
    | none => rfl
    | some x =>
      obtain ⟨j, b⟩ := x
      have h := List.all_eq_true.1 hgB o (List.mem_of_getElem? (i := i) (by simp [hi, ho]))
      rw [hg] at h
      have hj : j < n := by simpa using h
      simp only
      unfold yielded
      have e : ((heads l n).toArray[j]?).bind (·.dst) = (l.toArray[j]?).bind (·.dst) := by
        simp [heads, hj]
        cases l[j]? with
        | none => rfl
        | some o' => simp [ghost_dst]
      rw [e]
  -- who writes a slot, among the head
  have once : ∀ i j oi oj d, i < n → j < n → l[i]? = some oi → l[j]? = some oj → oi.dst = some d → oj.dst = some d → i = j := by
    have gen : ∀ (r : List Oper), ssaB (heads l n).toArray r = true → ∀ (i j : Nat) oi oj d, r[i]? = some oi → r[j]? = some oj → oi.dst = some d → oj.dst = some d → i = j := by
      intro r
      induction r with
      | nil => intro _ i j oi oj d h; simp at h
      | cons o r ih =>
        intro hss i j oi oj d hi hj hdi hdj
        simp only [ssaB, Bool.and_eq_true] at hss
        obtain ⟨⟨⟨_, hdst⟩, _⟩, hr⟩ := hss
        cases i with
        | zero =>
          cases j with
          | zero => rfl
          | succ j =>
            simp at hi hj; subst hi
            have := List.all_eq_true.1 hdst oj (List.mem_of_getElem? hj)
            simp [hdi, hdj] at this
        | succ i =>
          cases j with
          | zero =>
            simp at hi hj; subst hj
            have := List.all_eq_true.1 hdst oi (List.mem_of_getElem? hi)
            simp [hdi, hdj] at this
          | succ j => simp at hi hj; rw [ih hr i j oi oj d hi hj hdi hdj]
    intro i j oi oj d hi hj hoi hoj hdi hdj
    exact gen _ hssa i j (ghost oi) (ghost oj) d (by simp [heads, hi, hoi]) (by simp [heads, hj, hoj]) (by rw [ghost_dst]; exact hdi) (by rw [ghost_dst]; exact hdj)
  have noSel : ∀ i o, i < n → l[i]? = some o → ∀ cs b, (ghost o).op ≠ .select cs b := by
    have gen : ∀ (r : List Oper), ssaB (heads l n).toArray r = true → ∀ o ∈ r, ∀ cs b, o.op ≠ .select cs b := by
      intro r
      induction r with
      | nil => intro _ o ho; cases ho
      | cons o r ih =>
        intro hss o' ho' cs b he
        simp only [ssaB, Bool.and_eq_true] at hss
        rcases List.mem_cons.1 ho' with rfl | ho'
        · simp [he] at hss
        · exact ih hss.2 o' ho' cs b he
    intro i o hi ho
    exact gen _ hssa _ (inHeads i o hi ho)
  -- what an operation that may come up looks at is as at the end
  have looks : ∀ (listed : Array Bool) i o, i < n → l[i]? = some o → i ∈ Region.ready .any l.toArray listed → ∀ d ∈ (ghost o).looksAt (heads l n).toArray,
      ¬ ∃ j oj, j < n ∧ l[j]? = some oj ∧ oj.dst = some d ∧ (listed.getD j true = false ∨ isAlc oj = true) := by
    intro listed i o hi ho hr d hd ⟨j, oj, hj, hoj, hdj, hor⟩
    have h := List.all_eq_true.1 hdata i (List.mem_range.2 hi)
    simp only [ho] at h
    have h2 := List.all_eq_true.1 h j (List.mem_range.2 hj)
    simp only [hoj, hdj] at h2
    rw [show ((ghost o).looksAt (heads l n).toArray).contains d = true from by simpa using hd] at h2
    simp only [Bool.not_true, Bool.false_or, Bool.and_eq_true] at h2
    obtain ⟨hna, h2⟩ := h2
    obtain ⟨e, he, h2⟩ := Array.any_eq_true'.1 h2
    simp only [Bool.and_eq_true, beq_iff_eq] at h2
    obtain ⟨hb, hon⟩ := h2
    obtain ⟨_, o', ho', hall⟩ := mem_ready.1 hr
    have : o' = o := by have h3 : l[i]? = some o' := by simpa using ho'
                        rw [ho] at h3; exact (Option.some.inj h3).symm
    subst this
    have h4 := hall e he hb
    rw [hon] at h4
    rcases hor with h5 | h5
    · rw [getD_both h5] at h4; cases h4
    · simp [h5] at hna
  intro f
  induction f with
  | zero =>
    intro listed a w β S hf
    have all : ∀ i, i < n → listed.getD i true = true := fun i hi => by
      false_or_by_contra
      rename_i hne
      have : i ∈ (List.range n).filter fun i => !listed.getD i true := List.mem_filter.2 ⟨List.mem_range.2 hi, by simpa using hne⟩
      rw [List.length_eq_zero_iff.1 hf] at this; cases this
    have allF : ∀ i, i < n → listed.getD i false = true := fun i hi => by
      have h1 := all i hi
      have h2 : i < listed.size := by rw [S.size]; omega
      simp [h2] at h1 ⊢; exact h1
    obtain ⟨p, rfl⟩ := S.grown
    have e : a = putAll β A aF := by
      refine putAll_eq A aF hnd (S.agree.weaken ?_) fun x hx => (S.place x hx (all _ (alc x hx).1)).1
      rintro d ⟨i, o, hi, ho, hd, h | h⟩
      · rw [all i hi] at h; cases h
      · obtain ⟨x, hx, rfl⟩ := alc' i o hi ho h
        refine ⟨x, hx, ?_⟩
        obtain ⟨_, _, o', ho', _, hd', _⟩ := alc x hx
        rw [ho] at ho'; obtain rfl := Option.some.inj ho'
        rw [hd] at hd'; exact (Option.some.inj hd').symm
    have eL : listed = headDone n l.length := by
      apply Array.ext_getElem?
      intro k
      by_cases hk : k < l.length
      · have hk' : k < listed.size := by rw [S.size]; exact hk
        have e1 : (headDone n l.length)[k]? = some (decide (k < n)) := by simp [headDone, hk]
        rw [e1, Array.getElem?_eq_getElem hk']
        by_cases hkn : k < n
        · have := allF k hkn
          simp [hk'] at this
          simp [this, hkn]
        · have := S.inv.tail k (by omega) (by simpa using hk)
          simp [hk'] at this
          simp [this, hkn]
      · rw [Array.getElem?_eq_none (by rw [S.size]; omega), Array.getElem?_eq_none (by simp [headDone]; omega)]
    have H := hT β p (fun x hx => by
      obtain ⟨_, h2, h3⟩ := S.place x hx (all _ (alc x hx).1)
      refine ⟨?_, h3⟩
      have h4 := blk_older h3
      rw [older_gw] at h4
      have h5 : older (β x.i) w0 = false := by
        cases h : older (β x.i) w0 with
        | false => rfl
        | true => exact absurd (older_iff.1 h) h2
      simpa [h5] using h4) (fun x hx y hy hne => S.apart x hx y hy (all _ (alc x hx).1) (all _ (alc y hy).1) hne)
    rw [Nat.zero_add, e]
    have := wpAny_of_seq (P := P) (md := .any) (Q' := Q) (l.drop n) n listed (putAll β A aF) (gw w0 p) (fun j => by simp [List.getElem?_drop]) (by rw [eL]; simpa using hseq) H
    simpa using this
  | succ f ih =>
    intro listed a w β S hf
    obtain ⟨i0, hi0⟩ := List.exists_mem_of_ne_nil _ (show ((List.range n).filter fun i => !listed.getD i true) ≠ [] from fun h => by rw [h] at hf; simp at hf)
    have hi0' := List.mem_filter.1 hi0
    have hin0 : i0 < n := List.mem_range.1 hi0'.1
    have hun0 : listed.getD i0 true = false := by simpa using hi0'.2
    have headOnly : ∀ j, j ∈ Region.ready .any l.toArray listed → j < n := fun j hj => by
      false_or_by_contra
      exact tail_waits hs hc (by simpa using hn) S.inv _ i0 rfl hin0 hun0 j (by omega) hj
    -- something may come up
    have some_ready : Region.ready .any l.toArray listed ≠ [] := by
      have ex : ∀ k, k < n → listed.getD k true = false → ∃ j, j ∈ Region.ready .any l.toArray listed := by
        intro k
        induction k using Nat.strongRecOn with
        | _ k ihk =>
          intro hk hunk
          have hkl : k < l.length := by omega
          have hok : l[k]? = some l[k] := List.getElem?_eq_getElem hkl
          by_cases hall : ∀ e ∈ (l[k]).after, Region.binds .any e = true → listed.getD e.on false = true
          · exact ⟨k, mem_ready.2 ⟨hunk, l[k], by simp [hkl], hall⟩⟩
          · obtain ⟨e, he⟩ := Classical.not_forall.1 hall
            obtain ⟨he1, he2⟩ := Classical.not_imp.1 he
            obtain ⟨hb, hf'⟩ := Classical.not_imp.1 he2
            have hlt := backB_spec hback hok he1 hb
            exact ihk e.on hlt (by omega) (getD_in (by rw [S.size]; omega) (by simpa using hf'))
      obtain ⟨j, hj⟩ := ex i0 hin0 hun0
      intro h; rw [h] at hj; cases hj
    rw [show f + 1 + (l.length - n) = (f + (l.length - n)) + 1 from by omega]
    refine ⟨fun h0 => absurd h0 some_ready, fun i hi => ?_⟩
    have hin := headOnly i hi
    obtain ⟨hun, o, ho, hall⟩ := mem_ready.1 hi
    have hol : l[i]? = some o := by simpa using ho
    have hisz : i < listed.size := by rw [S.size]; omega
    have setT : ∀ k, (listed.setIfInBounds i true).getD k true = true → k ≠ i → listed.getD k true = true := fun k hk hne => by
      rw [getD_set_ne true (Ne.symm hne)] at hk; exact hk
    have hf' : ((List.range n).filter fun k => !(listed.setIfInBounds i true).getD k true).length = f := by
      have e1 : ((List.range n).filter fun k => !(listed.setIfInBounds i true).getD k true) = ((List.range n).filter fun k => !listed.getD k true).erase i := by
        rw [List.Nodup.erase_eq_filter (List.Pairwise.filter _ List.nodup_range), List.filter_filter]
        apply List.filter_congr
        intro k hk
        by_cases hki : k = i
        · subst hki; simp [hisz]
        · rw [getD_set_ne true (Ne.symm hki)]; simp [hki]
      rw [e1, List.length_erase_of_mem (List.mem_filter.2 ⟨List.mem_range.2 hin, by simp [hun]⟩), hf]; omega
    have lk := looks listed i o hin hol hi
    -- the new standing, where the slot holds what it holds at the end (no allocation)
    have next : ∀ v (w' : World), isAlc o = false → aF.put o.dst v = aF → (∃ q, w' = gw w q) → Stand l n A aF w0 β (listed.setIfInBounds i true) (a.put o.dst v) w' := by
      intro v w' hna hv ⟨q, hq⟩
      subst hq
      obtain ⟨p, hp⟩ := S.grown
      have ndst : ∀ x ∈ A, listed.getD x.i true = true → o.dst ≠ some x.d := fun x hx hd he => by
        obtain ⟨h1, _, o', ho', ha', hd', _⟩ := alc x hx
        have := once i x.i o o' x.d hin h1 hol ho' he hd'
        subst this
        rw [hol] at ho'; obtain rfl := Option.some.inj ho'
        rw [hna] at ha'; cases ha'
      refine ⟨by simp [S.size], S.inv.set hi hin, ⟨by rw [put_def]; exact S.agree.defers, by rw [put_size]; exact S.agree.size, fun d hd => ?_⟩, by rw [hp]; exact gw_gw w0 p q, ?_, ?_⟩
      · by_cases hdo : o.dst = some d
        · have e1 : (aF.put o.dst v).tmps[d]? = (a.put o.dst v).tmps[d]? := by
            rw [hdo]; simp only [Act.put, Array.getElem?_setIfInBounds, if_true, S.agree.size]
          rw [hv] at e1; exact e1.symm
        · rw [put_other _ _ _ _ hdo]
          refine S.agree.slot d fun ⟨j, oj, hj, hoj, hdj, h⟩ => hd ⟨j, oj, hj, hoj, hdj, ?_⟩
          rcases h with h | h
          · refine .inl ?_
            rw [getD_set_ne true (fun e => ?_)]
            · exact h
            · subst e; rw [hol] at hoj; obtain rfl := Option.some.inj hoj; exact hdo hdj
          · exact .inr h
      · intro x hx hd
        have hne : x.i ≠ i := fun e => by
          obtain ⟨_, _, o', ho', ha', _⟩ := alc x hx
          rw [e, hol] at ho'; obtain rfl := Option.some.inj ho'
          rw [hna] at ha'; cases ha'
        have hd' := setT _ hd hne
        obtain ⟨h1, h2, h3⟩ := S.place x hx hd'
        exact ⟨by rw [put_other _ _ _ _ (ndst x hx hd')]; exact h1, h2, blk_gw h3⟩
      · intro x hx y hy hdx hdy hne
        have nex : ∀ z ∈ A, z.i ≠ i := fun z hz e => by
          obtain ⟨_, _, o', ho', ha', _⟩ := alc z hz
          rw [e, hol] at ho'; obtain rfl := Option.some.inj ho'
          rw [hna] at ha'; cases ha'
        exact S.apart x hx y hy (setT _ hdx (nex x hx)) (setT _ hdy (nex y hy)) hne
    unfold wpOp
    rw [ho]
    simp only
    rw [wantG i o hin hol, S.agree.wanted _ lk]
    by_cases ha : isAlc o = true
    · -- an allocation
      obtain ⟨x, hx, hxi⟩ := alc' i o hin hol ha
      obtain ⟨_, hxm, o', ho', _, hxd, hxg⟩ := alc x hx
      have ho'' : l[x.i]? = some o := by rw [hxi]; exact hol
      rw [ho''] at ho'; obtain rfl := Option.some.inj ho'
      have hw : Region.wanted (ghost o) (yielded (heads l n).toArray aF.tmps) = true := by unfold Region.wanted; rw [ghost_guard, hxg]
      rw [if_pos hw]
      refine .inl ?_
      unfold Oper.wp
      rw [hrun x hx o ho'' a w]
      simp only [Oper.upon]
      obtain ⟨p, hp⟩ := S.grown
      have hold : ∀ y ∈ A, listed.getD y.i true = true → y.i ≠ i ∧ β y.i < w.heap.size := fun y hy hd =>
        ⟨fun e => (by rw [e, hun] at hd; cases hd), blk_lt (S.place y hy hd).2.2⟩
      have bs : (fun k => if k = i then w.heap.size else β k) x.i = w.heap.size := by simp [hxi]
      refine ih _ _ _ (fun k => if k = i then w.heap.size else β k) ⟨by simp [S.size], S.inv.set hi hin, ⟨by rw [put_def]; exact S.agree.defers, by rw [put_size]; exact S.agree.size, fun d hd => ?_⟩, by rw [hp]; exact gw_alloc w0 p _, ?_, ?_⟩ hf'
      · have hdo : o.dst ≠ some d := fun e => hd ⟨i, o, hin, hol, e, .inr ha⟩
        rw [put_other _ _ _ _ hdo]
        refine S.agree.slot d fun ⟨j, oj, hj, hoj, hdj, h⟩ => hd ⟨j, oj, hj, hoj, hdj, ?_⟩
        rcases h with h | h
        · by_cases e : i = j
          · subst e; rw [hol] at hoj; obtain rfl := Option.some.inj hoj; exact .inr ha
          · exact .inl (by rw [getD_set_ne true e]; exact h)
        · exact .inr h
      · intro y hy hd
        by_cases hyi : y.i = i
        · have : y = x := sameIx y hy x hx (hyi.trans hxi.symm)
          subst this
          simp only [hyi, if_true]
          refine ⟨by rw [hxd]; exact put_own _ _ _ (by rw [S.agree.size, hm]; exact hxm), by rw [hp]; simp, blk_new _ _ _⟩
        · have hd' := setT _ hd hyi
          obtain ⟨h1, h2, h3⟩ := S.place y hy hd'
          simp only [hyi, if_false]
          refine ⟨?_, h2, blk_alloc h3⟩
          rw [put_other _ _ _ _ (fun e => ?_)]
          · exact h1
          · obtain ⟨hy1, _, oy, hoy, _, hdy, _⟩ := alc y hy
            exact hyi (once i y.i o oy y.d hin hy1 hol hoy e hdy).symm
      · intro y hy z hz hdy hdz hne
        by_cases hyi : y.i = i
        · have hzi : z.i ≠ i := fun e => hne (hyi.trans e.symm)
          simp only [hyi, hzi, if_true, if_false]
          have := (hold z hz (setT _ hdz hzi)).2
          omega
        · by_cases hzi : z.i = i
          · simp only [hyi, hzi, if_true, if_false]
            have := (hold y hy (setT _ hdy hyi)).2
            omega
          · simp only [hyi, hzi, if_false]
            exact S.apart y hy z hz (setT _ hdy hyi) (setT _ hdz hzi) hne
    · have hna : isAlc o = false := by simpa using ha
      obtain ⟨p, hp⟩ := S.grown
      obtain ⟨v, hy, hv⟩ := ht p (ghost o) (inHeads i o hin hol)
      rw [ghost_dst] at hv
      rcases hy with ⟨hw, hq⟩ | ⟨hw, rfl⟩
      · rw [if_pos hw]
        refine .inl ?_
        have h1 := hq w ⟨⟨w.drawn, #[]⟩, by rw [← hp]; unfold gw; simp⟩
        unfold Oper.quietAt at h1
        rw [← S.agree.exec _ (noSel i o hin hol) lk, ghost_not hna, ← hp] at h1
        unfold Oper.wp
        generalize (execOp a.eval o).run P w = r at h1 ⊢
        cases r with
        | ok nx w' =>
          cases nx <;> simp only [Oper.quietUpon] at h1 <;> simp only [Oper.upon]
          case value u =>
            obtain ⟨rfl, rfl⟩ := h1
            exact ih _ _ _ β (next _ _ hna hv ⟨⟨w'.drawn, #[]⟩, by unfold gw; simp⟩) hf'
          case skip =>
            obtain ⟨rfl, rfl⟩ := h1
            exact ih _ _ _ β (next _ _ hna hv ⟨⟨w'.drawn, #[]⟩, by unfold gw; simp⟩) hf'
          case enter g args =>
            obtain ⟨rfl, hcall⟩ := h1
            refine hcall.mono fun e w'' ⟨he, hq'⟩ => ?_
            subst he
            exact ih _ _ _ β (next _ _ hna hv hq') hf'
        | halt x w' => simp only [Oper.quietUpon] at h1
      · rw [if_neg (by rw [hw]; exact Bool.false_ne_true)]
        exact ih _ _ _ β (next _ _ hna hv ⟨⟨w.drawn, #[]⟩, by unfold gw; simp⟩) hf'

theorem wp_region_box {l : List Oper} {aF a : Act} {w : World} {id : Nat} {Q : Exit → Act → World → Prop} (n m : Nat) (A : List Alc) (hmix : P.follows .mixedOrders = true) (hm : a.tmps.size = m) (hB : boxB l n m A = true)
    (hrun : ∀ x ∈ A, ∀ o, l[x.i]? = some o → ∀ (a : Act) (w : World), (execOp a.eval o).run P w = .ok (.value (ptr w.heap.size)) (w.alloc (.cells x.c x.t)))
    (h1 : ∀ p, wpQuiet P (heads l n).toArray (fun w' => ∃ q, w' = gw (gw w p) q) (fun a' => a' = aF) (heads l n) a)
    (hT : ∀ (β : Nat → Nat) (p : Gw), (∀ x ∈ A, newer (β x.i) w p = true ∧ blk (gw w p) (β x.i) x.c x.t) → (∀ x ∈ A, ∀ y ∈ A, x.i ≠ y.i → β x.i ≠ β y.i) → wpList P l.toArray Q (l.drop n) (putAll β A aF) (gw w p)) :
    (Code.region id l.toArray true).wp P Q a w := by
  have hB' := hB
  unfold boxB at hB'
  simp only [Bool.and_eq_true, decide_eq_true_eq] at hB'
  obtain ⟨⟨⟨⟨⟨⟨⟨⟨hn, hback⟩, hgB⟩, hs⟩, hc⟩, hssa⟩, hdata⟩, halc⟩, hseq⟩ := hB'
  obtain ⟨A0, _⟩ := told _ _ hssa (h1 ⟨w.drawn, #[]⟩)
  refine wp_region_any hmix ?_
  have S0 : Stand l n A aF w (fun _ => 0) (Array.replicate l.toArray.size false) a { w with drawn := w.drawn + 1 } := by
    refine ⟨by simp, ⟨by simp, fun j oj _ hl => (by rw [getD_replicate_false] at hl; cases hl), fun t _ ht => getD_in (by simpa using ht) (getD_replicate_false _ _)⟩, A0.weaken ?_, ⟨⟨w.drawn + 1, #[]⟩, by unfold gw; simp⟩, ?_, ?_⟩
    · rintro d ⟨o, ho, hd⟩
      obtain ⟨o', ho', rfl⟩ := List.mem_map.1 ho
      obtain ⟨i, hi⟩ := List.getElem?_of_mem ho'
      have hin : i < n := by have := (List.getElem?_eq_some_iff.1 hi).1; simp at this; omega
      have hol : l[i]? = some o' := by simpa [hin] using hi
      exact ⟨i, o', hin, hol, by rw [← ghost_dst]; exact hd, .inl (getD_in (by simp; exact (List.getElem?_eq_some_iff.1 hol).1) (getD_replicate_false _ _))⟩
    · intro x hx hd
      have hx' : x.i < n := by
        unfold alcB at halc
        simp only [Bool.and_eq_true] at halc
        have h := List.all_eq_true.1 halc.1.1.1 x hx
        simp only [Bool.and_eq_true, decide_eq_true_eq] at h
        exact h.1.1
      rw [getD_in (by simp; omega) (getD_replicate_false _ _)] at hd; cases hd
    · intro x hx y hy hd
      have hx' : x.i < n := by
        unfold alcB at halc
        simp only [Bool.and_eq_true] at halc
        have h := List.all_eq_true.1 halc.1.1.1 x hx
        simp only [Bool.and_eq_true, decide_eq_true_eq] at h
        exact h.1.1
      rw [getD_in (by simp; omega) (getD_replicate_false _ _)] at hd; cases hd
  have H := box_any (P := P) (Q := Q) (m := m) (A0.size ▸ hm) hB hrun (fun p o ho => (told _ _ hssa (h1 p)).2 o ho) hT n _ _ _ _ S0 (by
    have e : ((List.range n).filter fun i => !(Array.replicate l.toArray.size false).getD i true) = List.range n := by
      apply List.filter_eq_self.2
      intro i hi
      have := List.mem_range.1 hi
      rw [getD_in (by simp; omega) (getD_replicate_false _ _)]; rfl
    rw [e]; simp)
  rw [show n + (l.length - n) = l.toArray.size from by simp; omega] at H
  exact H

theorem newer_of {b : Nat} {w : World} {p : Gw} {c : Array Value} {t : TypeId} (h0 : ¬ b < w.heap.size) (hb : blk (gw w p) b c t) : newer b w p = true := by
  have h4 := blk_older hb
  rw [older_gw] at h4
  have h5 : older b w = false := by
    cases h : older b w with
    | false => rfl
    | true => exact absurd (older_iff.1 h) h0
  simpa [h5] using h4
theorem newer_ge {b : Nat} {w : World} {p : Gw} (h : newer b w p = true) : ¬ b < w.heap.size := by
  unfold newer at h
  simp at h; omega

theorem wp_box1 {l : List Oper} {aF a : Act} {w : World} {id : Nat} {Q : Exit → Act → World → Prop} {aT : Nat → Act} {c' : Array Value} (n m i d : Nat) (c : Array Value) (t : TypeId) (hmix : P.follows .mixedOrders = true) (hm : a.tmps.size = m) (hB : boxB l n m [⟨i, d, c, t⟩] = true)
    (hrun : ∀ o, l[i]? = some o → ∀ (a : Act) (w : World), (execOp a.eval o).run P w = .ok (.value (ptr w.heap.size)) (w.alloc (.cells c t)))
    (h1 : ∀ p, wpQuiet P (heads l n).toArray (fun w' => ∃ q, w' = gw (gw w p) q) (fun a' => a' = aF) (heads l n) a)
    (h2 : ∀ (R : Exit → Act → World → Prop) b p, newer b w p = true → ¬ b < w.heap.size → blk (gw w p) b c t → (∀ p', newer b w p' = true → blk (gw w p') b c' t → R .normal (aT b) (gw w p')) → wpList P l.toArray R (l.drop n) (aF.put (some d) (ptr b)) (gw w p))
    (h3 : ∀ b p, newer b w p = true → blk (gw w p) b c' t → Q .normal (aT b) (gw w p)) : (Code.region id l.toArray true).wp P Q a w :=
  wp_region_box n m [⟨i, d, c, t⟩] hmix hm hB (fun x hx => by simp at hx; subst hx; exact hrun) h1 fun β p hb _ =>
    have h := hb _ (List.mem_singleton.2 rfl)
    h2 Q (β i) p h.1 (newer_ge h.1) h.2 fun p' h4 h5 => h3 _ _ h4 h5
theorem wp_box2 {l : List Oper} {aF a : Act} {w : World} {id : Nat} {Q : Exit → Act → World → Prop} {aT : Nat → Nat → Act} {c1' c2' : Array Value} (n m i1 d1 i2 d2 : Nat) (c1 c2 : Array Value) (t1 t2 : TypeId) (hmix : P.follows .mixedOrders = true) (hm : a.tmps.size = m) (hB : boxB l n m [⟨i1, d1, c1, t1⟩, ⟨i2, d2, c2, t2⟩] = true)
    (hne : (i1 != i2) = true)
    (hr1 : ∀ o, l[i1]? = some o → ∀ (a : Act) (w : World), (execOp a.eval o).run P w = .ok (.value (ptr w.heap.size)) (w.alloc (.cells c1 t1)))
    (hr2 : ∀ o, l[i2]? = some o → ∀ (a : Act) (w : World), (execOp a.eval o).run P w = .ok (.value (ptr w.heap.size)) (w.alloc (.cells c2 t2)))
    (h1 : ∀ p, wpQuiet P (heads l n).toArray (fun w' => ∃ q, w' = gw (gw w p) q) (fun a' => a' = aF) (heads l n) a)
    (h2 : ∀ (R : Exit → Act → World → Prop) b1 b2 p, newer b1 w p = true → newer b2 w p = true → ¬ b1 < w.heap.size → ¬ b2 < w.heap.size → ¬ b1 = b2 → ¬ b2 = b1 → blk (gw w p) b1 c1 t1 → blk (gw w p) b2 c2 t2 →
      (∀ p', newer b1 w p' = true → newer b2 w p' = true → blk (gw w p') b1 c1' t1 → blk (gw w p') b2 c2' t2 → R .normal (aT b1 b2) (gw w p')) → wpList P l.toArray R (l.drop n) ((aF.put (some d1) (ptr b1)).put (some d2) (ptr b2)) (gw w p))
    (h3 : ∀ b1 b2 p, newer b1 w p = true → newer b2 w p = true → ¬ b1 = b2 → ¬ b2 = b1 → blk (gw w p) b1 c1' t1 → blk (gw w p) b2 c2' t2 → Q .normal (aT b1 b2) (gw w p)) : (Code.region id l.toArray true).wp P Q a w :=
  wp_region_box n m [⟨i1, d1, c1, t1⟩, ⟨i2, d2, c2, t2⟩] hmix hm hB (fun x hx => by simp at hx; rcases hx with rfl | rfl <;> first | exact hr1 | exact hr2) h1 fun β p hb hd =>
    have e1 := hb ⟨i1, d1, c1, t1⟩ (by simp)
    have e2 := hb ⟨i2, d2, c2, t2⟩ (by simp)
    have ne := hd ⟨i1, d1, c1, t1⟩ (by simp) ⟨i2, d2, c2, t2⟩ (by simp) (by simpa using hne)
    h2 Q (β i1) (β i2) p e1.1 e2.1 (newer_ge e1.1) (newer_ge e2.1) ne (fun e => ne e.symm) e1.2 e2.2 fun p' k1 k2 k3 k4 => h3 _ _ _ k1 k2 ne (fun e => ne e.symm) k3 k4
theorem box_end1 {R : Exit → Act → World → Prop} {a : Act} {w W : World} {b : Nat} {c : Array Value} {t : TypeId} (h0 : ¬ b < w.heap.size) (hK : ∀ p', newer b w p' = true → blk (gw w p') b c t → R .normal a (gw w p')) (hb : Below w.heap.size w W) (hc : blk W b c t) : R .normal a W := by
  obtain ⟨p, rfl⟩ := gw_of_below hb
  exact hK p (newer_of h0 hc) hc
theorem box_end2 {R : Exit → Act → World → Prop} {a : Act} {w W : World} {b1 b2 : Nat} {c1 c2 : Array Value} {t1 t2 : TypeId} (h1 : ¬ b1 < w.heap.size) (h2 : ¬ b2 < w.heap.size)
    (hK : ∀ p', newer b1 w p' = true → newer b2 w p' = true → blk (gw w p') b1 c1 t1 → blk (gw w p') b2 c2 t2 → R .normal a (gw w p')) (hb : Below w.heap.size w W) (hc1 : blk W b1 c1 t1) (hc2 : blk W b2 c2 t2) : R .normal a W := by
  obtain ⟨p, rfl⟩ := gw_of_below hb
  exact hK p (newer_of h1 hc1) (newer_of h2 hc2) hc1 hc2
end

end Go.Proofs.YtdmcdicphohlfaaGreat

set_option linter.unusedVariables false
namespace Go.Proofs.YtdmcdicphohlfaaGreat
open Go.RowKit

def Cs (w : World) (A : Option Addr) (xs : List Value) : Prop := xs = [] ∨ ∃ b off, A = some ⟨b, off, none⟩ ∧ ∀ i (h : i < xs.length), w.cell? ⟨b, off + i, none⟩ = some xs[i]
theorem Cs.to {w w' : World} {A : Option Addr} {xs : List Value} (h : Cs w A xs) (hb : Below w.heap.size w w') : Cs w' A xs := by
  rcases h with h | ⟨b, off, hA, hc⟩
  · exact .inl h
  · refine .inr ⟨b, off, hA, fun i hi => ?_⟩
    have h1 := hc i hi
    have hlt := World.block_lt_of_cell? w ⟨b, off + i, none⟩ h1
    exact (hb.cell (p := ⟨b, off + i, none⟩) hlt).trans h1
theorem Cs.nil (w : World) (A : Option Addr) : Cs w A [] := .inl rfl
theorem Cs.open {w : World} {A : Option Addr} {xs : List Value} (h : Cs w A xs) (h0 : 0 < xs.length) : ∃ b off, A = some ⟨b, off, none⟩ ∧ ∀ i (h : i < xs.length), w.cell? ⟨b, off + i, none⟩ = some xs[i] := by
  rcases h with h | h
  · rw [h] at h0; simp at h0
  · exact h
theorem Cs.of_blk {w : World} {b : Nat} {c : Array Value} {t : TypeId} {xs : List Value} (h : blk w b c t) (hx : ∀ i (h : i < xs.length), c[i]? = some xs[i]) : Cs w (some ⟨b, 0, none⟩) xs :=
  .inr ⟨b, 0, rfl, fun i hi => by rw [Nat.zero_add, blk_cell h]; exact hx i hi⟩
def iv (ns : List Int) : List Value := ns.map (Value.int .i64)
@[simp] theorem iv_length (ns : List Int) : (iv ns).length = ns.length := by simp [iv]
theorem iv_get (ns : List Int) (i : Nat) (h : i < (iv ns).length) : (iv ns)[i] = .int .i64 (ns[i]'(by simpa using h)) := by simp [iv]
def bv (bs : List Bool) : List Value := bs.map Value.bool
@[simp] theorem bv_length (bs : List Bool) : (bv bs).length = bs.length := by simp [bv]
abbrev Ints (w : World) (A : Option Addr) (ns : List Int) : Prop := Cs w A (iv ns)
theorem Ints.open {w : World} {A : Option Addr} {ns : List Int} (h : Ints w A ns) (h0 : 0 < ns.length) : ∃ b off, A = some ⟨b, off, none⟩ ∧ ∀ i (h : i < ns.length), w.cell? ⟨b, off + i, none⟩ = some (.int .i64 ns[i]) := by
  obtain ⟨b, off, hA, hc⟩ := Cs.open h (by simpa using h0)
  exact ⟨b, off, hA, fun i hi => by rw [hc i (by simpa using hi), iv_get]⟩

def Pts (w : World) (A : Option Addr) (ps : List (Int × Int)) : Prop :=
  ps = [] ∨ ∃ b off, A = some ⟨b, off, none⟩ ∧ ∀ i (h : i < ps.length), w.cell? ⟨b, off + i * 2, none⟩ = some (.int .i64 ps[i].1) ∧ w.cell? ⟨b, off + i * 2 + 1, none⟩ = some (.int .i64 ps[i].2)
theorem Pts.below {w w' : World} {A : Option Addr} {ps : List (Int × Int)} (hb : Below w.heap.size w w') (h : Pts w A ps) : Pts w' A ps := by
  rcases h with h | ⟨b, off, hA, hc⟩
  · exact .inl h
  · refine .inr ⟨b, off, hA, fun i hi => ?_⟩
    obtain ⟨h1, h2⟩ := hc i hi
    have hlt := World.block_lt_of_cell? w ⟨b, off + i * 2, none⟩ h1
    exact ⟨(hb.cell (p := ⟨b, off + i * 2, none⟩) hlt).trans h1, (hb.cell (p := ⟨b, off + i * 2 + 1, none⟩) hlt).trans h2⟩
theorem Pts.to {w w' : World} {A : Option Addr} {ps : List (Int × Int)} (h : Pts w A ps) (hb : Below w.heap.size w w') : Pts w' A ps := h.below hb
theorem Pts.gw {w : World} {A : Option Addr} {ps : List (Int × Int)} (p : Gw) (h : Pts w A ps) : Pts (gw w p) A ps := h.below (below_gw w p)
theorem Pts.alloc {w : World} {A : Option Addr} {ps : List (Int × Int)} (o : Obj) (h : Pts w A ps) : Pts (w.alloc o) A ps := h.below (Below.alloc (Below.refl _ _) (Nat.le_refl _) o)

theorem Pts.open {w : World} {A : Option Addr} {ps : List (Int × Int)} (h : Pts w A ps) (h0 : 0 < ps.length) : ∃ b off, A = some ⟨b, off, none⟩ ∧ ∀ i (h : i < ps.length), w.cell? ⟨b, off + i * 2, none⟩ = some (.int .i64 ps[i].1) ∧ w.cell? ⟨b, off + i * 2 + 1, none⟩ = some (.int .i64 ps[i].2) := by
  rcases h with h | h
  · rw [h] at h0; simp at h0
  · exact h
def pv : List (Int × Int) → List Value
  | [] => []
  | p :: ps => .int .i64 p.1 :: .int .i64 p.2 :: pv ps
@[simp] theorem pv_length : ∀ ps : List (Int × Int), (pv ps).length = ps.length * 2
  | [] => rfl
  | p :: ps => by simp [pv, pv_length ps]; omega
theorem pv_get : ∀ (ps : List (Int × Int)) (i : Nat) (h : i < ps.length), (pv ps)[i * 2]? = some (.int .i64 ps[i].1) ∧ (pv ps)[i * 2 + 1]? = some (.int .i64 ps[i].2)
  | [], i, h => by simp at h
  | p :: ps, 0, h => by simp [pv]
  | p :: ps, i + 1, h => by
    have := pv_get ps i (by simpa using h)
    rw [show (i + 1) * 2 = i * 2 + 1 + 1 from by omega]
    simpa [pv] using this
theorem pv_set : ∀ (ps : List (Int × Int)) (i : Nat) (x y : Int), ((pv ps).set (i * 2) (.int .i64 x)).set (i * 2 + 1) (.int .i64 y) = pv (ps.set i (x, y))
  | [], i, x, y => by simp [pv]
  | p :: ps, 0, x, y => by simp [pv]
  | p :: ps, i + 1, x, y => by
    rw [show (i + 1) * 2 = i * 2 + 1 + 1 from by omega]
    simp [pv, pv_set ps i x y]
theorem pv_arr (ps : List (Int × Int)) (i : Nat) (h : i < ps.length) : (pv ps).toArray[i * 2]? = some (.int .i64 ps[i].1) ∧ (pv ps).toArray[i * 2 + 1]? = some (.int .i64 ps[i].2) := by simpa using pv_get ps i h
theorem pv_arr_set (ps : List (Int × Int)) (i : Nat) (x y : Int) : ((pv ps).toArray.setIfInBounds (i * 2) (.int .i64 x)).setIfInBounds (i * 2 + 1) (.int .i64 y) = (pv (ps.set i (x, y))).toArray := by simp [← pv_set]
theorem made_pts (n : Nat) : madeCells #[Value.int .i64 0, Value.int .i64 0] (n * 2) = (pv (List.replicate n (0, 0))).toArray := by
  have e : ∀ n : Nat, pv (List.replicate n (0, 0)) = List.replicate (n * 2) (Value.int .i64 0) := fun n => by
    induction n with
    | zero => rfl
    | succ n ih => rw [List.replicate_succ, pv, ih, show (n + 1) * 2 = n * 2 + 1 + 1 from by omega, List.replicate_succ, List.replicate_succ]
  rw [e]; apply Array.ext_getElem?; intro j
  by_cases hj : j < n * 2
  · have h2 : j % 2 = 0 ∨ j % 2 = 1 := by omega
    rcases h2 with h2 | h2 <;> simp [madeCells, hj, h2]
  · simp [madeCells, hj]
theorem pts_of_list {w : World} {b : Nat} {t : TypeId} {ps : List (Int × Int)} (h : blk w b (pv ps).toArray t) : Pts w (some ⟨b, 0, none⟩) ps :=
  .inr ⟨b, 0, rfl, fun i hi => by
    obtain ⟨h1, h2⟩ := pv_arr ps i hi
    rw [Nat.zero_add, blk_cell h, blk_cell h]; exact ⟨h1, h2⟩⟩

theorem owns_below {w w' : World} {base : Nat} {e : TypeId} {size n : Nat} {v : Value} {xs : List Value} (h : w.ownsRow base e size v n xs) (hb : Below w.heap.size w w') : w'.ownsRow base e size v n xs := by
  obtain ⟨hl, h | ⟨g, cap, cur, rfl, hB, hh, hr⟩⟩ := h
  · exact ⟨hl, .inl h⟩
  · exact ⟨hl, .inr ⟨g, cap, cur, rfl, hB, (hb.block g (Array.getElem?_eq_some_iff.1 hh).1).trans hh, hr⟩⟩
theorem wpList_mk {P : Program} {w : World} {ops : Array Oper} {rest : List Oper} {o : Oper} {a : Act} {Q : Exit → Act → World → Prop}
    (hg : o.guard = none) (l c : Operand) (t : TypeId) (hop : o.op = Op.makeSlice t l c) (e : TypeId) (i : TypeInfo) (z : Value) (zc : Array Value) (hzc : z.cells = zc) (size bytes : Nat) (h1 : P.underlying t = some (.slice e)) (h2 : P.info? e = some i) (h3 : i.zero = some z) (h4 : i.size = size) (h5 : i.bytes = bytes)
    (kl kc : IntKind) (L C : Int) (n m : Nat) (hl : a.eval l = .int kl L) (hc : a.eval c = .int kc C) (hL : L = (n : Int)) (hC : C = (m : Int)) (hnm : n ≤ m) (b2 : bytes * m ≤ 281474976710656) (b3 : m ≤ maxLen)
    (hK : wpList P ops Q rest (a.put o.dst (.slice (some ⟨w.heap.size, 0, none⟩) n m)) (w.alloc (.cells (madeCells zc (m * size)) e))) : wpList P ops Q (o :: rest) a w := by
  refine wpList_plain hg fun K hK' => ?_
  subst hL hC h4 h5 hzc
  have h63 : (m : Int) ≤ 9223372036854775807 := by have h := b3; simp [maxLen] at h; omega
  have hb : (i.bytes : Int) * (m : Int) ≤ 281474976710656 := by
    have h : ((i.bytes * m : Nat) : Int) ≤ 281474976710656 := by omega
    rwa [Int.natCast_mul] at h
  have hr := run_make (P := P) w t e i z h1 h2 h3 kl kc n m (by omega) (by omega) hb h63
  simp only [Int.toNat_natCast] at hr
  unfold Oper.wp
  simp [execOp, hop, hl, hc, hr, Result.andThen]
  exact hK' _ _ hK
end Go.Proofs.YtdmcdicphohlfaaGreat

set_option linter.unusedVariables false
namespace Go.Proofs.YtdmcdicphohlfaaGreat
open Go.RowKit

section
variable {P : Program}

def isCall (o : Oper) : Bool := match o.op with | .call c => (match c.callee with | .builtin .append => true | .builtin _ => false | _ => true) | _ => false
def isMake (o : Oper) : Bool := match o.op with | .alloc _ => true | .buildSlice .. => true | _ => false
def isRead (o : Oper) : Bool := match o.op with
  | .move _ | .assign _ | .pick .. | .build .. | .load .. | .binOp .. | .unOp .. | .convert .. | .field .. | .fieldAddr .. | .index .. | .indexAddr .. | .extract .. | .slice .. | .nilCheck _ => true
  | .call c => (match c.callee with | .builtin .len | .builtin .cap | .builtin .min | .builtin .max => true | _ => false)
  | _ => false

theorem read_kinds {o : Oper} (h : isRead o = true) (ρ : Operand → Value) (w : World) : (∃ v w', (execOp ρ o).run P w = .ok (.value v) w') ∨ ∃ x w', (execOp ρ o).run P w = .halt x w' := by
  have vv : ∀ s : Sem Value, (∃ v w', (do pure (Next.value (← s)) : Sem Next).run P w = .ok (.value v) w') ∨ ∃ x w', (do pure (Next.value (← s)) : Sem Next).run P w = .halt x w' := fun s => by
    rw [Sem.run_bind]
    cases s.run P w with
    | ok v w' => exact .inl ⟨v, w', rfl⟩
    | halt x w' => exact .inr ⟨x, w', rfl⟩
  obtain ⟨dst, op, type, pos, after, guard⟩ := o
  cases op <;> simp only [isRead, Bool.false_eq_true] at h
  case move x => exact .inl ⟨_, _, rfl⟩
  case assign x => exact .inl ⟨_, _, rfl⟩
  case pick c a b =>
    simp only [execOp]; rw [Sem.run_bind]
    cases (asBool (ρ c)).run P w with
    | ok v w' => exact .inl ⟨_, w', rfl⟩
    | halt x w' => exact .inr ⟨x, w', rfl⟩
  case call c =>
    obtain ⟨callee, args, argTypes⟩ := c
    cases callee with
    | builtin b => cases b <;> simp only [Bool.false_eq_true] at h <;> exact vv _
    | _ => simp only [Bool.false_eq_true] at h
  case nilCheck x =>
    simp only [execOp]
    split
    case h_4 =>
      split
      · exact .inr ⟨_, _, rfl⟩
      · rw [Sem.run_bind]
        cases (program).run P w with
        | halt x w' => exact .inr ⟨x, w', rfl⟩
        | ok v w' =>
          simp only [Result.andThen]
          rw [Sem.run_bind]
          generalize (nilAhead _ _ _ _).run P w' = r
          cases r with
          | halt x w' => exact .inr ⟨x, w', rfl⟩
          | ok v w' =>
            simp only [Result.andThen]
            split
            · exact .inr ⟨_, _, rfl⟩
            · exact .inl ⟨_, _, rfl⟩
      · exact .inl ⟨_, _, rfl⟩
    all_goals first | exact .inl ⟨_, _, rfl⟩ | exact .inr ⟨_, _, rfl⟩
  all_goals exact vv _
theorem not_select {o : Oper} (h : isRead o = true ∨ isCall o = true ∨ isMake o = true) : ∀ cs b, o.op ≠ .select cs b := fun cs b e => by
  rcases h with h | h | h <;> simp [isRead, isCall, isMake, e] at h

def upd (a : Act) (x : Option Tmp) (u : Value) (ds : List Deferred) : Act := ⟨(a.put x u).tmps, ds⟩
theorem upd_put (a : Act) (x : Option Tmp) (u : Value) : upd a x u a.defers = a.put x u := by cases x <;> rfl
theorem put_comm (a : Act) {x y : Option Tmp} (h : ∀ d, x = some d → y ≠ some d) (u v : Value) : (a.put x u).put y v = (a.put y v).put x u := by
  cases x with
  | none => rfl
  | some d =>
    cases y with
    | none => rfl
    | some e =>
      have hne : d ≠ e := fun k => h d rfl (by rw [k])
      simp only [Act.put, Act.mk.injEq, and_true]
      exact Array.setIfInBounds_comm _ _ hne
theorem upd_comm (a : Act) {x y : Option Tmp} (h : ∀ d, x = some d → y ≠ some d) (u v : Value) (ds : List Deferred) : upd (a.put y v) x u ds = (upd a x u ds).put y v := by
  have := put_comm a h u v
  unfold upd
  cases y with
  | none => rfl
  | some e =>
    have h2 : ((a.put (some e) v).put x u).tmps = ((a.put x u).put (some e) v).tmps := by rw [this]
    simp only [Act.put, Act.mk.injEq, and_true] at h2 ⊢
    exact h2

section
variable {ops : Array Oper} {o : Oper} {a b : Act} {w : World} {Q1 Q2 : Exit → Act → World → Prop} {D : Nat → Prop}

theorem one_move (hs : ∀ cs b, o.op ≠ .select cs b) (hag : Agree D a b) (hl : ∀ d ∈ o.looksAt ops, ¬ D d) (hn : ∀ e a w, Q1 e a w → e = .normal)
    (h : ∀ u ds w', Q1 .normal (upd b o.dst u ds) w' → Q2 .normal (upd a o.dst u ds) w') (hh : wpList P ops Q1 [o] b w) : wpList P ops Q2 [o] a w := by
  have nl : ¬ LetsOut Q1 := fun ⟨a, w, k⟩ => by have := hn _ _ _ k; cases this
  unfold wpList at hh ⊢
  rw [hag.wanted o hl]
  have hd := hag.defers
  by_cases hw : Region.wanted o (yielded ops b.tmps) = true
  · rw [if_pos hw] at hh ⊢
    rcases hh with hh | ⟨_, k⟩
    · refine .inl ?_
      unfold Oper.wp at hh ⊢
      rw [hag.exec o hs hl]
      generalize (execOp b.eval o).run P w = r at hh ⊢
      cases r with
      | ok nx w' =>
        cases nx <;> simp only [Oper.upon] at hh ⊢
        case value v => have := h v b.defers w' (by rw [upd_put]; exact hh); rw [← hd, upd_put] at this; exact this
        case skip => have := h undef b.defers w' (by rw [upd_put]; exact hh); rw [← hd, upd_put] at this; exact this
        case defer d =>
          have := h undef (d :: b.defers) w' (by unfold upd; cases ho : o.dst <;> simp only [ho, Act.put] at hh ⊢ <;> exact hh)
          rw [← hd] at this
          unfold upd at this
          show wpList P ops Q2 [] _ _
          unfold wpList
          cases ho : o.dst <;> simp only [ho, Act.put] at this ⊢ <;> exact this
        case enter f args =>
          refine Calls.mono hh fun e w'' he => ?_
          cases e with
          | returned v => have := h v b.defers w'' (by rw [upd_put]; exact he); rw [← hd, upd_put] at this; exact this
          | panicked chain => have := hn _ _ _ he; cases this
          | outgrown => exact absurd he nl
        case row row args =>
          exact Rows.mono hh fun v w'' he => by have := h v b.defers w'' (by rw [upd_put]; exact he); rw [← hd, upd_put] at this; exact this
      | halt x w' =>
        cases x <;> simp only [Oper.upon] at hh ⊢
        have := hn _ _ _ hh; cases this
    · exact absurd k nl
  · rw [if_neg hw] at hh ⊢
    have := h undef b.defers w (by rw [upd_put]; exact hh)
    rw [← hd, upd_put] at this; exact this

theorem one_out (hn : ∀ e a w, Q1 e a w → e = .normal) (hh : wpList P ops Q1 [o] b w) : ∃ u ds w', Q1 .normal (upd b o.dst u ds) w' := by
  have nl : ¬ LetsOut Q1 := fun ⟨a, w, k⟩ => by have := hn _ _ _ k; cases this
  unfold wpList at hh
  by_cases hw : Region.wanted o (yielded ops b.tmps) = true
  · rw [if_pos hw] at hh
    rcases hh with hh | ⟨_, k⟩
    · unfold Oper.wp at hh
      generalize (execOp b.eval o).run P w = r at hh
      cases r with
      | ok nx w' =>
        cases nx <;> simp only [Oper.upon] at hh
        case value v => exact ⟨v, b.defers, w', by rw [upd_put]; exact hh⟩
        case skip => exact ⟨undef, b.defers, w', by rw [upd_put]; exact hh⟩
        case defer d => exact ⟨undef, d :: b.defers, w', by unfold upd; cases ho : o.dst <;> simp only [ho, Act.put] at hh ⊢ <;> exact hh⟩
        case enter f args =>
          obtain ⟨e, w'', fr, he, _⟩ := hh []
          cases e with
          | returned v => exact ⟨v, b.defers, w'', by rw [upd_put]; exact he⟩
          | panicked chain => have := hn _ _ _ he; cases this
          | outgrown => exact absurd he nl
        case row row args =>
          obtain ⟨v, w'', he, _⟩ := hh default []
          exact ⟨v, b.defers, w'', by rw [upd_put]; exact he⟩
      | halt x w' =>
        cases x <;> simp only [Oper.upon] at hh
        have := hn _ _ _ hh; cases this
    · exact absurd k nl
  · rw [if_neg hw] at hh
    exact ⟨undef, b.defers, w, by rw [upd_put]; exact hh⟩
end

def mval : Option Nat → Nat → Value
  | none, b => .pointer (some ⟨b, 0, none⟩)
  | some n, b => .slice (some ⟨b, 0, none⟩) n n

def Cl (w0 : World) (lt : List Nat) (i : Nat) (w : World) : World → Prop := fun w' => ∃ q, w' = gw (if lt.contains i then w else w0) q
def Mix (P : Program) (l : List Oper) (w0 : World) (lt : List Nat) (F : (Nat → Prop) → Act → World → Prop) : List Nat → (Nat → Prop) → Act → World → Prop
  | [], S, a, w => F S a w
  | i :: R, S, a, w => True ∧
    match l[i]? with
    | none => False
    | some o =>
      if isRead o = true then wpQuiet P l.toArray (Cl w0 lt i w) (fun a' => Mix P l w0 lt F R S a' w) [o] a
      else if isCall o = true then ∀ p Qs, (∀ a' w', Below (gw w p).heap.size (gw w p) w' → Mix P l w0 lt F R (fun b => S b ∨ ((gw w p).heap.size ≤ b ∧ b < w'.heap.size)) a' w' → Qs Exit.normal a' w') → wpList P l.toArray Qs [o] a (gw w p)
      else if Region.wanted o (yielded l.toArray a.tmps) = true then ∃ c t k, (∀ w, (execOp a.eval o).run P w = .ok (.value (mval k w.heap.size)) (w.alloc (.cells c t))) ∧
        ∀ b w', Below w.heap.size w w' → blk w' b c t → ¬ S b → Mix P l w0 lt F R (fun k => S k ∨ k = b) (a.put o.dst (mval k b)) w'
      else Mix P l w0 lt F R S (a.put o.dst undef) w

/-! The check, which the kernel reckons. 'ms': of each operation the numbers of those that it waits for, as bits. -/
def waitB (ms : List Nat) (i j : Nat) : Bool := (ms.getD i 0).testBit j
def msOk (l : List Oper) (ms : List Nat) : Bool :=
  (List.range l.length).all fun i => match l[i]? with
    | some o => (List.range l.length).all fun j => !waitB ms i j || o.after.any fun e => Region.binds .any e && (e.on == j || waitB ms e.on j)
    | none => true
def okB (l : List Oper) (ms lt : List Nat) (x i : Nat) : Bool := match l[x]?, l[i]? with
  | some ox, some oi => waitB ms i x ||
    ((match oi.dst with | some d => !(ox.looksAt l.toArray).contains d && ox.dst != some d | none => true) &&
    (match ox.dst with | some d => !(oi.looksAt l.toArray).contains d | none => true) && (!isCall oi || isRead ox) && (!lt.contains i || isRead ox))
  | _, _ => false
def pairsB (l : List Oper) (ms lt : List Nat) : List Nat → Bool
  | [] => true
  | x :: R => R.all (fun i => okB l ms lt x i) && pairsB l ms lt R
def mixB (l : List Oper) (n : Nat) (ms lt : List Nat) (ord : List Nat) : Bool :=
  decide (n ≤ l.length) && backB .any l && (decide (n = l.length) || (Region.sinkB .any l.toArray n && Region.chainB .any l.toArray n)) && msOk l ms && decide (ord.length = n) && decide ord.Nodup &&
  (ord.all fun i => decide (i < n) && match l[i]? with | some o => isRead o || isCall o || isMake o | none => false) && pairsB l ms lt ord && Region.seqB .any l.toArray (l.length - n) n (headDone n l.length)

section
variable {l : List Oper} {w0 : World} {lt : List Nat} {F : (Nat → Prop) → Act → World → Prop} {ops : Array Oper} {C : World → Prop}

theorem agree_put (a : Act) (x : Option Tmp) (v : Value) : Agree (fun d => x = some d) (a.put x v) a := ⟨put_def a x v, put_size a x v, fun d hd => put_other a x v d hd⟩
theorem agree_put' (a : Act) (x : Option Tmp) (v : Value) : Agree (fun d => x = some d) a (a.put x v) := ⟨(put_def a x v).symm, (put_size a x v).symm, fun d hd => (put_other a x v d hd).symm⟩
theorem yields_agree {D : Nat → Prop} {o : Oper} {v : Value} {a b : Act} (hs : ∀ cs b, o.op ≠ .select cs b) (hag : Agree D a b) (hl : ∀ d ∈ o.looksAt ops, ¬ D d) (h : YieldsIn P ops C o v b) : YieldsIn P ops C o v a := by
  rcases h with ⟨hw, hq⟩ | ⟨hw, hv⟩
  · exact .inl ⟨by rw [hag.wanted o hl]; exact hw, fun w hC => by have := hq w hC; unfold Oper.quietAt at this ⊢; rw [hag.exec o hs hl]; exact this⟩
  · exact .inr ⟨by rw [hag.wanted o hl]; exact hw, hv⟩
theorem yields_sub {C' : World → Prop} {o : Oper} {v : Value} {a : Act} (hr : isRead o = true) (hs : ∀ w, C' w → C w) (h : YieldsIn P ops C o v a) : YieldsIn P ops C' o v a := by
  rcases h with ⟨hw, hq⟩ | h
  · refine .inl ⟨hw, fun w hC => ?_⟩
    have := hq w (hs w hC)
    unfold Oper.quietAt at this ⊢
    rcases read_kinds (P := P) hr a.eval w with ⟨u, w', e⟩ | ⟨x, w', e⟩
    · rw [e] at this ⊢; exact this
    · rw [e] at this ⊢; exact this
  · exact .inr h
theorem Cl.sub {i : Nat} {w w' : World} (hb : Below w.heap.size w w') : ∀ u, Cl w0 lt i w' u → Cl w0 lt i w u := fun u ⟨q, hq⟩ => by
  unfold Cl
  cases h : lt.contains i with
  | false => rw [h] at hq; exact ⟨q, hq⟩
  | true =>
    rw [h] at hq
    simp only [if_true] at hq ⊢
    rw [hq]
    exact gw_of_below (hb.trans ((below_gw w' q).mono hb.size))
theorem Cl.early {i : Nat} (h : lt.contains i = false) (w w' : World) : Cl w0 lt i w = Cl w0 lt i w' := by unfold Cl; rw [h]; rfl
theorem yields_defers {o : Oper} {v : Value} {a : Act} {ds : List Deferred} (h : YieldsIn P ops C o v ⟨a.tmps, ds⟩) : YieldsIn P ops C o v a := by
  have e : (⟨a.tmps, ds⟩ : Act).eval = a.eval := by funext x; cases x <;> rfl
  rcases h with ⟨hw, hq⟩ | ⟨hw, hv⟩
  · exact .inl ⟨hw, fun w hC => by have := hq w hC; unfold Oper.quietAt at this ⊢; rw [e] at this; exact this⟩
  · exact .inr ⟨hw, hv⟩
theorem yields_upd {o : Oper} {v u : Value} {a : Act} {x : Option Tmp} {ds : List Deferred} (hs : ∀ cs b, o.op ≠ .select cs b) (hl : ∀ d ∈ o.looksAt ops, x ≠ some d) (h : YieldsIn P ops C o v (upd a x u ds)) : YieldsIn P ops C o v a :=
  yields_agree hs (agree_put' a x u) hl (yields_defers h)
theorem yields_upd' {o : Oper} {v u : Value} {a : Act} {x : Option Tmp} {ds : List Deferred} (hs : ∀ cs b, o.op ≠ .select cs b) (hl : ∀ d ∈ o.looksAt ops, x ≠ some d) (h : YieldsIn P ops C o v a) : YieldsIn P ops C o v (upd a x u ds) := by
  have h1 := yields_agree hs (agree_put a x u) hl h
  refine yields_defers (a := upd a x u ds) (ds := (a.put x u).defers) ?_
  exact h1
theorem yields_unique {o : Oper} {v v' : Value} {a : Act} (hr : isRead o = true) (hC : ∃ w, C w) (h : YieldsIn P ops C o v a) (h' : YieldsIn P ops C o v' a) : v = v' := by
  obtain ⟨w, hw⟩ := hC
  rcases h with ⟨g, hq⟩ | ⟨g, hv⟩ <;> rcases h' with ⟨g', hq'⟩ | ⟨g', hv'⟩
  · have h1 := hq w hw; have h2 := hq' w hw
    unfold Oper.quietAt at h1 h2
    rcases read_kinds (P := P) hr a.eval w with ⟨u, w', e⟩ | ⟨x, w', e⟩
    · rw [e] at h1 h2
      exact h1.2.symm.trans h2.2
    · rw [e] at h1; exact h1.elim
  · rw [g] at g'; cases g'
  · rw [g] at g'; cases g'
  · rw [hv, hv']
theorem quiet_one {o : Oper} {Q : Act → Prop} {a : Act} : wpQuiet P ops C Q [o] a ↔ ∃ v, YieldsIn P ops C o v a ∧ Q (a.put o.dst v) := by
  unfold wpQuiet
  constructor
  · intro h
    by_cases hw : Region.wanted o (yielded ops a.tmps) = true
    · rw [if_pos hw] at h
      obtain ⟨v, h1, h2⟩ := h
      exact ⟨v, .inl ⟨hw, h1⟩, h2⟩
    · rw [if_neg hw] at h
      exact ⟨undef, .inr ⟨by simpa using hw, rfl⟩, h⟩
  · rintro ⟨v, ⟨hw, hq⟩ | ⟨hw, rfl⟩, hQ⟩
    · rw [if_pos hw]; exact ⟨v, hq, hQ⟩
    · rw [if_neg (by rw [hw]; exact Bool.false_ne_true)]; exact hQ

theorem gw_self (w : World) : gw w ⟨w.drawn, #[]⟩ = w := by unfold gw; simp
theorem below_alloc (w : World) (o : Obj) : Below w.heap.size w (w.alloc o) := Below.alloc (Below.refl _ _) (Nat.le_refl _) o

structure Ind (l : List Oper) (late : Bool) (ox oi : Oper) : Prop where
  lx : ∀ d ∈ ox.looksAt l.toArray, oi.dst ≠ some d
  li : ∀ d ∈ oi.looksAt l.toArray, ox.dst ≠ some d
  dd : ∀ d, ox.dst = some d → oi.dst ≠ some d
  cc : isCall oi = true → isRead ox = true
  la : late = true → isRead ox = true
theorem Ind.dd' {late : Bool} {ox oi : Oper} (h : Ind l late ox oi) : ∀ d, oi.dst = some d → ox.dst ≠ some d := fun d hd he => h.dd d he hd

def Grows (F : (Nat → Prop) → Act → World → Prop) : Prop := ∀ S a w w', Below w.heap.size w w' → F S a w → F S a w'

theorem Mix.grow (hF : Grows F) : ∀ (R : List Nat) (S : Nat → Prop) (a : Act) (w w' : World), Below w.heap.size w w' → Mix P l w0 lt F R S a w → Mix P l w0 lt F R S a w'
  | [], S, a, w, w', hb, h => hF S a w w' hb h
  | i :: R, S, a, w, w', hb, h => by
    unfold Mix at h ⊢
    rw [true_and] at h ⊢
    cases ho : l[i]? with
    | none => rw [ho] at h; exact h
    | some o =>
      rw [ho] at h
      simp only at h ⊢
      by_cases hr : isRead o = true
      · rw [if_pos hr] at h ⊢
        obtain ⟨v, hy, hm⟩ := quiet_one.1 h
        exact quiet_one.2 ⟨v, yields_sub hr (Cl.sub hb) hy, Mix.grow hF R S _ w w' hb hm⟩
      · rw [if_neg hr] at h ⊢
        by_cases hc : isCall o = true
        · rw [if_pos hc] at h ⊢
          intro p Qs hQ
          obtain ⟨p', e⟩ := gw_of_below (hb.trans ((below_gw w' p).mono hb.size))
          rw [e] at hQ ⊢
          exact h p' Qs hQ
        · rw [if_neg hc] at h ⊢
          by_cases hw : Region.wanted o (yielded l.toArray a.tmps) = true
          · rw [if_pos hw] at h ⊢
            obtain ⟨c, t, k, hrun, hm⟩ := h
            exact ⟨c, t, k, hrun, fun b w'' hb' hk hS => hm b w'' (hb.trans (hb'.mono hb.size)) hk hS⟩
          · rw [if_neg hw] at h ⊢
            exact Mix.grow hF R S _ w w' hb h

theorem or_swap (A B C : Prop) : ((A ∨ B) ∨ C) = ((A ∨ C) ∨ B) := propext ⟨fun h => by rcases h with (h | h) | h <;> simp [h], fun h => by rcases h with (h | h) | h <;> simp [h]⟩
theorem mval_inj {k k' : Option Nat} {b : Nat} (h : mval k b = mval k' b) : k = k' := by
  cases k <;> cases k' <;> simp [mval] at h <;> simp [h]
theorem alloc_inj {w : World} {c c' : Array Value} {t t' : TypeId} (h : w.alloc (.cells c t) = w.alloc (.cells c' t')) : c = c' ∧ t = t' := by
  have h1 : (w.alloc (.cells c t)).heap[w.heap.size]? = some (.cells c t) := blk_new w c t
  have h2 : (w.alloc (.cells c' t')).heap[w.heap.size]? = some (.cells c' t') := blk_new w c' t'
  rw [h, h2] at h1
  simp at h1
  exact ⟨h1.1.symm, h1.2.symm⟩

theorem Mix.cons_read {i : Nat} {R : List Nat} {S : Nat → Prop} {a : Act} {w : World} {o : Oper} (ho : l[i]? = some o) (hr : isRead o = true) :
    Mix P l w0 lt F (i :: R) S a w ↔ ∃ v, YieldsIn P l.toArray (Cl w0 lt i w) o v a ∧ Mix P l w0 lt F R S (a.put o.dst v) w := by
  rw [Mix, true_and, ho]; simp only [hr, if_true]; exact quiet_one
theorem Mix.cons_call {i : Nat} {R : List Nat} {S : Nat → Prop} {a : Act} {w : World} {o : Oper} (ho : l[i]? = some o) (hr : isRead o = false) (hc : isCall o = true) :
    Mix P l w0 lt F (i :: R) S a w ↔ ∀ p Qs, (∀ a' w', Below (gw w p).heap.size (gw w p) w' → Mix P l w0 lt F R (fun b => S b ∨ ((gw w p).heap.size ≤ b ∧ b < w'.heap.size)) a' w' → Qs Exit.normal a' w') → wpList P l.toArray Qs [o] a (gw w p) := by
  rw [Mix, true_and, ho]; simp only [hr, hc, if_true, Bool.false_eq_true, if_false]
theorem Mix.cons_make {i : Nat} {R : List Nat} {S : Nat → Prop} {a : Act} {w : World} {o : Oper} (ho : l[i]? = some o) (hr : isRead o = false) (hc : isCall o = false) (hw : Region.wanted o (yielded l.toArray a.tmps) = true) :
    Mix P l w0 lt F (i :: R) S a w ↔ ∃ c t k, (∀ w, (execOp a.eval o).run P w = .ok (.value (mval k w.heap.size)) (w.alloc (.cells c t))) ∧
        ∀ b w', Below w.heap.size w w' → blk w' b c t → ¬ S b → Mix P l w0 lt F R (fun k => S k ∨ k = b) (a.put o.dst (mval k b)) w' := by
  rw [Mix, true_and, ho]; simp only [hr, hc, Bool.false_eq_true, if_false]; rw [if_pos hw]
theorem Mix.cons_skip {i : Nat} {R : List Nat} {S : Nat → Prop} {a : Act} {w : World} {o : Oper} (ho : l[i]? = some o) (hr : isRead o = false) (hc : isCall o = false) (hw : ¬ Region.wanted o (yielded l.toArray a.tmps) = true) :
    Mix P l w0 lt F (i :: R) S a w ↔ Mix P l w0 lt F R S (a.put o.dst undef) w := by
  rw [Mix, true_and, ho]; simp only [hr, hc, Bool.false_eq_true, if_false]; rw [if_neg hw]

def OutC (P : Program) (l : List Oper) (w0 : World) (lt : List Nat) (F : (Nat → Prop) → Act → World → Prop) (R : List Nat) (S : Nat → Prop) (W : World) (e : Exit) (a' : Act) (w' : World) : Prop :=
  e = .normal ∧ Below W.heap.size W w' ∧ Mix P l w0 lt F R (fun b => S b ∨ (W.heap.size ≤ b ∧ b < w'.heap.size)) a' w'

theorem Mix.read {i : Nat} {oi : Oper} (hi : l[i]? = some oi) (hri : isRead oi = true) : ∀ (pre post : List Nat) (S : Nat → Prop) (a : Act) (w : World), (∀ x ∈ pre, ∃ ox, l[x]? = some ox ∧ (isRead ox = true ∨ isCall ox = true ∨ isMake ox = true) ∧ Ind l (lt.contains i) ox oi) → (∀ b, S b → b < w.heap.size) →
    Mix P l w0 lt F (pre ++ i :: post) S a w → ∃ v, YieldsIn P l.toArray (Cl w0 lt i w) oi v a ∧ Mix P l w0 lt F (pre ++ post) S (a.put oi.dst v) w
  | [], post, S, a, w, _, _, h => (Mix.cons_read hi hri).1 h
  | x :: pre, post, S, a, w, hp, hS, h => by
    obtain ⟨ox, hx, hk, I⟩ := hp x (List.mem_cons_self ..)
    have hp' : ∀ x ∈ pre, ∃ ox, l[x]? = some ox ∧ (isRead ox = true ∨ isCall ox = true ∨ isMake ox = true) ∧ Ind l (lt.contains i) ox oi := fun y hy => hp y (List.mem_cons_of_mem _ hy)
    have hsi := not_select (.inl hri)
    have hsx := not_select hk
    have hC : ∃ w' : World, Cl w0 lt i w w' := ⟨_, ⟨0, #[]⟩, rfl⟩
    have early : isRead ox = false → lt.contains i = false := fun h => by
      cases hl : lt.contains i with
      | false => rfl
      | true => rw [I.la hl] at h; cases h
    simp only [List.cons_append] at h ⊢
    cases hrx : isRead ox with
    | true =>
      obtain ⟨vx, yx, hm⟩ := (Mix.cons_read hx hrx).1 h
      obtain ⟨v, yv, hm'⟩ := Mix.read hi hri pre post S _ w hp' hS hm
      refine ⟨v, yields_agree hsi (agree_put' a ox.dst vx) I.li yv, (Mix.cons_read hx hrx).2 ⟨vx, yields_agree hsx (agree_put a oi.dst v) I.lx yx, ?_⟩⟩
      rw [put_comm a I.dd'] ; exact hm'
    | false =>
      cases hcx : isCall ox with
      | true =>
        have h := (Mix.cons_call hx hrx hcx).1 h
        have hS' : ∀ p w', Below (gw w p).heap.size (gw w p) w' → ∀ b, (S b ∨ ((gw w p).heap.size ≤ b ∧ b < w'.heap.size)) → b < w'.heap.size := fun p w' hb b hb' => by
          have := hb.size; simp at this
          rcases hb' with h1 | h1
          · have := hS b h1; omega
          · exact h1.2
        have out : ∀ p, wpList P l.toArray (OutC P l w0 lt F (pre ++ i :: post) S (gw w p)) [ox] a (gw w p) := fun p => h p _ fun a' w' hb hm => ⟨rfl, hb, hm⟩
        obtain ⟨u, ds, w', _, hb, hm⟩ := one_out (fun e a w k => k.1) (out ⟨w.drawn, #[]⟩)
        obtain ⟨v, yv, _⟩ := Mix.read hi hri pre post _ _ w' hp' (hS' _ _ hb) hm
        rw [Cl.early (early hrx) w' w] at yv
        have yv' := yields_upd hsi I.li yv
        refine ⟨v, yv', (Mix.cons_call hx hrx hcx).2 fun p Qs hQ => ?_⟩
        refine one_move hsx (agree_put a oi.dst v) I.lx (fun e a w k => k.1) (fun u ds w' k => ?_) (out p)
        obtain ⟨_, hb, hm⟩ := k
        obtain ⟨v2, y2, hm2⟩ := Mix.read hi hri pre post _ _ w' hp' (hS' _ _ hb) hm
        rw [Cl.early (early hrx) w' w] at y2
        have e2 : v2 = v := yields_unique hri hC (yields_upd hsi I.li y2) yv'
        subst e2
        refine hQ _ _ hb ?_
        rw [upd_comm a I.dd]; exact hm2
      | false =>
        by_cases hw : Region.wanted ox (yielded l.toArray a.tmps) = true
        · obtain ⟨c, t, k, hrun, hm⟩ := (Mix.cons_make hx hrx hcx hw).1 h
          have hS' : ∀ b w', Below w.heap.size w w' → blk w' b c t → ∀ k, (S k ∨ k = b) → k < w'.heap.size := fun b w' hb hk k hk' => by
            have := hb.size
            rcases hk' with h1 | h1
            · have := hS k h1; omega
            · rw [h1]; exact blk_lt hk
          obtain ⟨v, yv, _⟩ := Mix.read hi hri pre post _ _ _ hp' (hS' w.heap.size _ (below_alloc w _) (blk_new _ _ _)) (hm w.heap.size _ (below_alloc w _) (blk_new _ _ _) fun k => Nat.lt_irrefl _ (hS _ k))
          rw [Cl.early (early hrx) _ w] at yv
          have yv' := yields_agree hsi (agree_put' a ox.dst _) I.li yv
          refine ⟨v, yv', (Mix.cons_make hx hrx hcx (by rw [(agree_put a oi.dst v).wanted ox I.lx]; exact hw)).2 ⟨c, t, k, fun w => by rw [(agree_put a oi.dst v).exec ox hsx I.lx]; exact hrun w, fun b w' hb hk hSb => ?_⟩⟩
          obtain ⟨v2, y2, hm2⟩ := Mix.read hi hri pre post _ _ w' hp' (hS' b w' hb hk) (hm b w' hb hk hSb)
          rw [Cl.early (early hrx) w' w] at y2
          have e2 : v2 = v := yields_unique hri hC (yields_agree hsi (agree_put' a ox.dst _) I.li y2) yv'
          subst e2
          rw [put_comm a I.dd']; exact hm2
        · have hm := (Mix.cons_skip hx hrx hcx hw).1 h
          obtain ⟨v, yv, hm'⟩ := Mix.read hi hri pre post S _ w hp' hS hm
          refine ⟨v, yields_agree hsi (agree_put' a ox.dst _) I.li yv, (Mix.cons_skip hx hrx hcx (by rw [(agree_put a oi.dst v).wanted ox I.lx]; exact hw)).2 ?_⟩
          rw [put_comm a I.dd']; exact hm'

theorem Mix.call {i : Nat} {oi : Oper} (hi : l[i]? = some oi) (hri : isRead oi = false) (hci : isCall oi = true) : ∀ (pre post : List Nat) (S : Nat → Prop) (a : Act) (w : World), (∀ x ∈ pre, ∃ ox, l[x]? = some ox ∧ (isRead ox = true ∨ isCall ox = true ∨ isMake ox = true) ∧ Ind l (lt.contains i) ox oi) →
    Mix P l w0 lt F (pre ++ i :: post) S a w → ∀ p, wpList P l.toArray (OutC P l w0 lt F (pre ++ post) S (gw w p)) [oi] a (gw w p)
  | [], post, S, a, w, _, h => fun p => (Mix.cons_call hi hri hci).1 h p _ fun a' w' hb hm => ⟨rfl, hb, hm⟩
  | x :: pre, post, S, a, w, hp, h => by
    intro p
    obtain ⟨ox, hx, hk, I⟩ := hp x (List.mem_cons_self ..)
    have hrx := I.cc hci
    obtain ⟨vx, yx, hm⟩ := (Mix.cons_read hx hrx).1 h
    have h1 := Mix.call hi hri hci pre post S _ w (fun y hy => hp y (List.mem_cons_of_mem _ hy)) hm p
    refine one_move (not_select (.inr (.inl hci))) (agree_put' a ox.dst vx) I.li (fun e a w k => k.1) (fun u ds w' k => ?_) h1
    obtain ⟨_, hb, hm'⟩ := k
    refine ⟨rfl, hb, (Mix.cons_read hx hrx).2 ⟨vx, yields_sub hrx (Cl.sub ((below_gw w p).trans (hb.mono (by simp)))) (yields_upd' (not_select (.inl hrx)) I.lx yx), ?_⟩⟩
    rw [← upd_comm a I.dd']; exact hm'

theorem Mix.make (hF : Grows F) {i : Nat} {oi : Oper} (hi : l[i]? = some oi) (hri : isRead oi = false) (hci : isCall oi = false) (hmi : isMake oi = true) : ∀ (pre post : List Nat) (S : Nat → Prop) (a : Act) (w : World), (∀ x ∈ pre, ∃ ox, l[x]? = some ox ∧ (isRead ox = true ∨ isCall ox = true ∨ isMake ox = true) ∧ Ind l (lt.contains i) ox oi) → (∀ b, S b → b < w.heap.size) →
    Mix P l w0 lt F (pre ++ i :: post) S a w →
    (Region.wanted oi (yielded l.toArray a.tmps) = true → ∃ c t k, (∀ w, (execOp a.eval oi).run P w = .ok (.value (mval k w.heap.size)) (w.alloc (.cells c t))) ∧
        ∀ b w', Below w.heap.size w w' → blk w' b c t → ¬ S b → Mix P l w0 lt F (pre ++ post) (fun k => S k ∨ k = b) (a.put oi.dst (mval k b)) w') ∧
    (¬ Region.wanted oi (yielded l.toArray a.tmps) = true → Mix P l w0 lt F (pre ++ post) S (a.put oi.dst undef) w)
  | [], post, S, a, w, _, _, h => ⟨fun hw => (Mix.cons_make hi hri hci hw).1 h, fun hw => (Mix.cons_skip hi hri hci hw).1 h⟩
  | x :: pre, post, S, a, w, hp, hS, h => by
    obtain ⟨ox, hx, hk, I⟩ := hp x (List.mem_cons_self ..)
    have hp' : ∀ x ∈ pre, ∃ ox, l[x]? = some ox ∧ (isRead ox = true ∨ isCall ox = true ∨ isMake ox = true) ∧ Ind l (lt.contains i) ox oi := fun y hy => hp y (List.mem_cons_of_mem _ hy)
    have hsi := not_select (.inr (.inr hmi))
    have hsx := not_select hk
    simp only [List.cons_append] at h ⊢
    cases hrx : isRead ox with
    | true =>
      obtain ⟨vx, yx, hm⟩ := (Mix.cons_read hx hrx).1 h
      obtain ⟨h1, h2⟩ := Mix.make hF hi hri hci hmi pre post S _ w hp' hS hm
      rw [(agree_put a ox.dst vx).wanted oi I.li] at h1 h2
      refine ⟨fun hw => ?_, fun hw => (Mix.cons_read hx hrx).2 ⟨vx, yields_agree hsx (agree_put a oi.dst _) I.lx yx, ?_⟩⟩
      · obtain ⟨c, t, k, hrun, hmm⟩ := h1 hw
        refine ⟨c, t, k, fun w => by have := hrun w; rw [(agree_put a ox.dst vx).exec oi hsi I.li] at this; exact this, fun b w' hb hkb hSb => (Mix.cons_read hx hrx).2 ⟨vx, yields_sub hrx (Cl.sub hb) (yields_agree hsx (agree_put a oi.dst _) I.lx yx), ?_⟩⟩
        rw [put_comm a I.dd']; exact hmm b w' hb hkb hSb
      · rw [put_comm a I.dd']; exact h2 hw
    | false =>
      cases hcx : isCall ox with
      | true =>
        have h := (Mix.cons_call hx hrx hcx).1 h
        have hS' : ∀ p w', Below (gw w p).heap.size (gw w p) w' → ∀ b, (S b ∨ ((gw w p).heap.size ≤ b ∧ b < w'.heap.size)) → b < w'.heap.size := fun p w' hb b hb' => by
          have := hb.size; simp at this
          rcases hb' with h1 | h1
          · have := hS b h1; omega
          · exact h1.2
        have out : ∀ p, wpList P l.toArray (OutC P l w0 lt F (pre ++ i :: post) S (gw w p)) [ox] a (gw w p) := fun p => h p _ fun a' w' hb hm => ⟨rfl, hb, hm⟩
        have wnt : ∀ u ds, Region.wanted oi (yielded l.toArray (upd a ox.dst u ds).tmps) = Region.wanted oi (yielded l.toArray a.tmps) := fun u ds => (agree_put a ox.dst u).wanted oi I.li
        have exe : ∀ u ds, execOp (upd a ox.dst u ds).eval oi = execOp a.eval oi := fun u ds => by
          rw [← (agree_put a ox.dst u).exec oi hsi I.li]
          have e : (upd a ox.dst u ds).eval = (a.put ox.dst u).eval := by funext x; cases x <;> rfl
          rw [e]
        obtain ⟨u0, ds0, w1, _, hb1, hm1⟩ := one_out (fun e a w k => k.1) (out ⟨w.drawn, #[]⟩)
        have hA := Mix.make hF hi hri hci hmi pre post _ _ w1 hp' (hS' _ _ hb1) hm1
        rw [wnt, exe] at hA
        refine ⟨fun hw => ?_, fun hw => (Mix.cons_call hx hrx hcx).2 fun p Qs hQ => ?_⟩
        · obtain ⟨c, t, k, hrun, _⟩ := hA.1 hw
          refine ⟨c, t, k, hrun, fun b w' hb hkb hSb => (Mix.cons_call hx hrx hcx).2 fun p Qs hQ => ?_⟩
          obtain ⟨p', e⟩ := gw_of_below (hb.trans ((below_gw w' p).mono hb.size))
          have hkb' : blk (gw w' p) b c t := blk_gw hkb
          rw [e] at hQ hkb' ⊢
          refine one_move hsx (agree_put a oi.dst _) I.lx (fun e a w k => k.1) (fun u ds w2 k2 => ?_) (out p')
          obtain ⟨_, hb2, hm2⟩ := k2
          have hB := Mix.make hF hi hri hci hmi pre post _ _ w2 hp' (hS' _ _ hb2) hm2
          rw [wnt, exe] at hB
          obtain ⟨c', t', k', hrun', hmm⟩ := hB.1 hw
          have hr := hrun w; rw [hrun' w] at hr
          simp only [Result.ok.injEq, Next.value.injEq] at hr
          obtain rfl := mval_inj hr.1
          obtain ⟨rfl, rfl⟩ := alloc_inj hr.2
          refine hQ _ _ hb2 ?_
          have hfin := hmm b w2 (Below.refl _ _) (blk_below hb2 hkb') (fun hs => by
            rcases hs with hs | hs
            · exact hSb hs
            · have := blk_lt hkb'; omega)
          rw [upd_comm a I.dd]
          have es : (fun k => (S k ∨ ((gw w p').heap.size ≤ k ∧ k < w2.heap.size)) ∨ k = b) = (fun k => (S k ∨ k = b) ∨ ((gw w p').heap.size ≤ k ∧ k < w2.heap.size)) := by
            exact funext fun k => or_swap ..
          rw [es] at hfin; exact hfin
        · refine one_move hsx (agree_put a oi.dst _) I.lx (fun e a w k => k.1) (fun u ds w2 k2 => ?_) (out p)
          obtain ⟨_, hb2, hm2⟩ := k2
          have hB := Mix.make hF hi hri hci hmi pre post _ _ w2 hp' (hS' _ _ hb2) hm2
          rw [wnt, exe] at hB
          refine hQ _ _ hb2 ?_
          rw [upd_comm a I.dd]; exact hB.2 hw
      | false =>
        by_cases hwx : Region.wanted ox (yielded l.toArray a.tmps) = true
        · obtain ⟨c, t, k, hrun, hm⟩ := (Mix.cons_make hx hrx hcx hwx).1 h
          have hS' : ∀ b w', Below w.heap.size w w' → blk w' b c t → ∀ k, (S k ∨ k = b) → k < w'.heap.size := fun b w' hb hk k hk' => by
            have := hb.size
            rcases hk' with h1 | h1
            · have := hS k h1; omega
            · rw [h1]; exact blk_lt hk
          have wnt : ∀ v, Region.wanted oi (yielded l.toArray (a.put ox.dst v).tmps) = Region.wanted oi (yielded l.toArray a.tmps) := fun v => (agree_put a ox.dst v).wanted oi I.li
          have exe : ∀ v, execOp (a.put ox.dst v).eval oi = execOp a.eval oi := fun v => (agree_put a ox.dst v).exec oi hsi I.li
          have hA := Mix.make hF hi hri hci hmi pre post _ _ _ hp' (hS' w.heap.size _ (below_alloc w _) (blk_new _ _ _)) (hm w.heap.size _ (below_alloc w _) (blk_new _ _ _) fun k => Nat.lt_irrefl _ (hS _ k))
          rw [wnt, exe] at hA
          have toX : ∀ v', Region.wanted ox (yielded l.toArray (a.put oi.dst v').tmps) = true := fun v' => by rw [(agree_put a oi.dst v').wanted ox I.lx]; exact hwx
          refine ⟨fun hw => ?_, fun hw => (Mix.cons_make hx hrx hcx (toX _)).2 ⟨c, t, k, fun w => by rw [(agree_put a oi.dst _).exec ox hsx I.lx]; exact hrun w, fun bx w2 hb2 hkx hSx => ?_⟩⟩
          · obtain ⟨c1, t1, k1, hrun1, _⟩ := hA.1 hw
            refine ⟨c1, t1, k1, hrun1, fun b w' hb hkb hSb => (Mix.cons_make hx hrx hcx (toX _)).2 ⟨c, t, k, fun w => by rw [(agree_put a oi.dst _).exec ox hsx I.lx]; exact hrun w, fun bx w2 hb2 hkx hSx => ?_⟩⟩
            have hbb := hb.trans (hb2.mono hb.size)
            have hB := Mix.make hF hi hri hci hmi pre post _ _ w2 hp' (hS' bx w2 hbb hkx) (hm bx w2 hbb hkx fun h => hSx (.inl h))
            rw [wnt, exe] at hB
            obtain ⟨c', t', k', hrun', hmm⟩ := hB.1 hw
            have hr := hrun1 w; rw [hrun' w] at hr
            simp only [Result.ok.injEq, Next.value.injEq] at hr
            obtain rfl := mval_inj hr.1
            obtain ⟨rfl, rfl⟩ := alloc_inj hr.2
            have hfin := hmm b w2 (Below.refl _ _) (blk_below hb2 hkb) (fun hs => by
              rcases hs with hs | hs
              · exact hSb hs
              · exact hSx (.inr hs.symm))
            rw [put_comm a I.dd']
            have es : (fun k => (S k ∨ k = bx) ∨ k = b) = (fun k => (S k ∨ k = b) ∨ k = bx) := by
              exact funext fun k => or_swap ..
            rw [es] at hfin; exact hfin
          · have hB := Mix.make hF hi hri hci hmi pre post _ _ w2 hp' (hS' bx w2 hb2 hkx) (hm bx w2 hb2 hkx hSx)
            rw [wnt, exe] at hB
            rw [put_comm a I.dd']; exact hB.2 hw
        · have hm := (Mix.cons_skip hx hrx hcx hwx).1 h
          obtain ⟨h1, h2⟩ := Mix.make hF hi hri hci hmi pre post S _ w hp' hS hm
          rw [(agree_put a ox.dst undef).wanted oi I.li] at h1 h2
          have toX : ∀ v', ¬ Region.wanted ox (yielded l.toArray (a.put oi.dst v').tmps) = true := fun v' => by rw [(agree_put a oi.dst v').wanted ox I.lx]; exact hwx
          refine ⟨fun hw => ?_, fun hw => (Mix.cons_skip hx hrx hcx (toX _)).2 ?_⟩
          · obtain ⟨c, t, k, hrun, hmm⟩ := h1 hw
            refine ⟨c, t, k, fun w => by have := hrun w; rw [(agree_put a ox.dst undef).exec oi hsi I.li] at this; exact this, fun b w' hb hkb hSb => (Mix.cons_skip hx hrx hcx (toX _)).2 ?_⟩
            rw [put_comm a I.dd']; exact hmm b w' hb hkb hSb
          · rw [put_comm a I.dd']; exact h2 hw
theorem waits {ms : List Nat} {n : Nat} {listed : Array Bool} (hms : msOk l ms = true) (inv : HeadInv .any l.toArray n listed) : ∀ (i : Nat) (o : Oper), l[i]? = some o → (∀ e ∈ o.after, Region.binds .any e = true → listed.getD e.on false = true) → ∀ j, j < l.length → waitB ms i j = true → backB .any l = true → listed.getD j false = true := by
  intro i
  induction i using Nat.strongRecOn with
  | _ i ih =>
    intro o ho hall j hj hw hback
    have h1 := List.all_eq_true.1 hms i (List.mem_range.2 (List.getElem?_eq_some_iff.1 ho).1)
    simp only [ho] at h1
    have h2 := List.all_eq_true.1 h1 j (List.mem_range.2 hj)
    rw [hw] at h2
    simp only [Bool.not_true, Bool.false_or] at h2
    obtain ⟨e, he, h3⟩ := Array.any_eq_true'.1 h2
    simp only [Bool.and_eq_true, Bool.or_eq_true, beq_iff_eq] at h3
    obtain ⟨hb, h3⟩ := h3
    have hl := hall e he hb
    rcases h3 with h3 | h3
    · rw [← h3]; exact hl
    · have hlt : e.on < i := backB_spec hback ho he hb
      have hon : e.on < l.length := Nat.lt_trans hlt (List.getElem?_eq_some_iff.1 ho).1
      have hoe : l[e.on]? = some l[e.on] := List.getElem?_eq_getElem hon
      exact ih e.on hlt _ hoe (fun e' he' hb' => inv.closed e.on _ (by simp [hon]) hl e' he' hb') j hj h3 hback

structure MStand (P : Program) (l : List Oper) (w0 : World) (lt : List Nat) (F : (Nat → Prop) → Act → World → Prop) (n : Nat) (ms : List Nat) (R : List Nat) (S : Nat → Prop) (listed : Array Bool) (a : Act) (w : World) : Prop where
  size : listed.size = l.length
  inv : HeadInv .any l.toArray n listed
  rest : ∀ i, i ∈ R ↔ (i < n ∧ listed.getD i true = false)
  once : R.Nodup
  pairs : pairsB l ms lt R = true
  mix : Mix P l w0 lt F R S a w
  taken : ∀ b, S b → b < w.heap.size
  grown : ∃ q, w = gw w0 q

theorem pairsB_split {ms : List Nat} : ∀ {pre : List Nat} {i : Nat} {post : List Nat}, pairsB l ms lt (pre ++ i :: post) = true → (∀ x ∈ pre, okB l ms lt x i = true) ∧ pairsB l ms lt (pre ++ post) = true
  | [], i, post, h => by simp only [List.nil_append, pairsB, Bool.and_eq_true] at h; exact ⟨fun x hx => (by cases hx), h.2⟩
  | x :: pre, i, post, h => by
    simp only [List.cons_append, pairsB, Bool.and_eq_true] at h ⊢
    obtain ⟨h1, h2⟩ := pairsB_split h.2
    have h3 := List.all_eq_true.1 h.1
    refine ⟨fun y hy => ?_, List.all_eq_true.2 fun y hy => h3 y ?_, h2⟩
    · rcases List.mem_cons.1 hy with rfl | hy
      · exact h3 i (by simp)
      · exact h1 y hy
    · rcases List.mem_append.1 hy with hy | hy <;> simp [hy]

theorem wp_weaken {o : Oper} {a : Act} {w : World} {K : Act → World → Prop} {Q1 Q2 : Exit → Act → World → Prop} (hn : ∀ e a w, Q1 e a w → e = .normal) (hK : ∀ a w, Q1 .normal a w → K a w) (h : wpList P ops Q1 [o] a w) :
    if Region.wanted o (yielded ops a.tmps) then o.wp P a w K Q2 ∨ (o.asks P a w ∧ LetsOut Q2) else K (a.put o.dst undef) w := by
  have nl : ¬ LetsOut Q1 := fun ⟨a, w, k⟩ => by have := hn _ _ _ k; cases this
  unfold wpList at h
  by_cases hw : Region.wanted o (yielded ops a.tmps) = true
  · rw [if_pos hw] at h ⊢
    rcases h with h | ⟨_, k⟩
    · refine .inl ?_
      unfold Oper.wp at h ⊢
      generalize (execOp a.eval o).run P w = r at h ⊢
      cases r with
      | ok nx w' =>
        cases nx <;> simp only [Oper.upon] at h ⊢
        case value v => exact hK _ _ h
        case skip => exact hK _ _ h
        case defer d => exact hK _ _ h
        case enter f args =>
          refine Calls.mono h fun e w'' he => ?_
          cases e with
          | returned v => exact hK _ _ he
          | panicked chain => have := hn _ _ _ he; cases this
          | outgrown => exact absurd he nl
        case row row args => exact Rows.mono h fun v w'' he => hK _ _ he
      | halt x w' =>
        cases x <;> simp only [Oper.upon] at h ⊢
        have := hn _ _ _ h; cases this
    · exact absurd k nl
  · rw [if_neg hw] at h ⊢
    exact hK _ _ h

theorem mix_any {n : Nat} {ms ord : List Nat} {Q : Exit → Act → World → Prop} (hF : Grows F) (hB : mixB l n ms lt ord = true) (hT : ∀ S a w, F S a w → wpList P l.toArray Q (l.drop n) a w) :
    ∀ (f : Nat) (R : List Nat) (S : Nat → Prop) (listed : Array Bool) (a : Act) (w : World), MStand P l w0 lt F n ms R S listed a w → R.length = f → wpAny P .any l.toArray Q (f + (l.length - n)) listed a w := by
  unfold mixB at hB
  simp only [Bool.and_eq_true, decide_eq_true_eq, Bool.or_eq_true] at hB
  obtain ⟨⟨⟨⟨⟨⟨⟨⟨hn, hback⟩, hsc⟩, hms⟩, hlen⟩, hnd⟩, hkinds⟩, _⟩, hseq⟩ := hB
  intro f
  induction f with
  | zero =>
    intro R S listed a w M hf
    obtain rfl := List.eq_nil_of_length_eq_zero hf
    have all : ∀ i, i < n → listed.getD i true = true := fun i hi => by
      false_or_by_contra
      rename_i hne
      have := (M.rest i).2 ⟨hi, by simpa using hne⟩
      cases this
    have eL : listed = headDone n l.length := by
      apply Array.ext_getElem?
      intro k
      by_cases hk : k < l.length
      · have hk' : k < listed.size := by rw [M.size]; exact hk
        have e1 : (headDone n l.length)[k]? = some (decide (k < n)) := by simp [headDone, hk]
        rw [e1, Array.getElem?_eq_getElem hk']
        by_cases hkn : k < n
        · have := all k hkn
          simp [hk'] at this
          simp [this, hkn]
        · have := M.inv.tail k (by omega) (by simpa using hk)
          simp [hk'] at this
          simp [this, hkn]
      · rw [Array.getElem?_eq_none (by rw [M.size]; omega), Array.getElem?_eq_none (by simp [headDone]; omega)]
    have H := hT _ _ _ M.mix
    rw [Nat.zero_add]
    have := wpAny_of_seq (P := P) (md := .any) (Q' := Q) (l.drop n) n listed a w (fun j => by simp [List.getElem?_drop]) (by rw [eL]; simpa using hseq) H
    simpa using this
  | succ f ih =>
    intro R S listed a w M hf
    obtain ⟨i0, hi0⟩ := List.exists_mem_of_ne_nil R (fun h => by rw [h] at hf; simp at hf)
    obtain ⟨hin0, hun0⟩ := (M.rest i0).1 hi0
    have headOnly : ∀ j, j ∈ Region.ready .any l.toArray listed → j < n := fun j hj => by
      rcases hsc with h | ⟨hs, hc⟩
      · obtain ⟨_, o, ho, _⟩ := mem_ready.1 hj
        have : j < l.length := by have := (Array.getElem?_eq_some_iff.1 ho).1; simpa using this
        omega
      · false_or_by_contra
        rename_i hnj
        obtain ⟨_, o, ho, _⟩ := mem_ready.1 hj
        have hjl : j < l.length := by have := (Array.getElem?_eq_some_iff.1 ho).1; simpa using this
        exact tail_waits hs hc (by simp; omega) M.inv _ i0 rfl hin0 hun0 j (by omega) hj
    have some_ready : Region.ready .any l.toArray listed ≠ [] := by
      have ex : ∀ k, k < n → listed.getD k true = false → ∃ j, j ∈ Region.ready .any l.toArray listed := by
        intro k
        induction k using Nat.strongRecOn with
        | _ k ihk =>
          intro hk hunk
          have hkl : k < l.length := by omega
          have hok : l[k]? = some l[k] := List.getElem?_eq_getElem hkl
          by_cases hall : ∀ e ∈ (l[k]).after, Region.binds .any e = true → listed.getD e.on false = true
          · exact ⟨k, mem_ready.2 ⟨hunk, l[k], by simp [hkl], hall⟩⟩
          · obtain ⟨e, he⟩ := Classical.not_forall.1 hall
            obtain ⟨he1, he2⟩ := Classical.not_imp.1 he
            obtain ⟨hb, hf'⟩ := Classical.not_imp.1 he2
            have hlt := backB_spec hback hok he1 hb
            exact ihk e.on hlt (by omega) (getD_in (by rw [M.size]; omega) (by simpa using hf'))
      obtain ⟨j, hj⟩ := ex i0 hin0 hun0
      intro h; rw [h] at hj; cases hj
    rw [show f + 1 + (l.length - n) = (f + (l.length - n)) + 1 from by omega]
    refine ⟨fun h0 => absurd h0 some_ready, fun i hi => ?_⟩
    have hin := headOnly i hi
    obtain ⟨hun, oi, ho, hall⟩ := mem_ready.1 hi
    have hol : l[i]? = some oi := by simpa using ho
    have hisz : i < listed.size := by rw [M.size]; omega
    obtain ⟨pre, post, hR⟩ := List.append_of_mem ((M.rest i).2 ⟨hin, hun⟩)
    subst hR
    obtain ⟨hok, hpp⟩ := pairsB_split M.pairs
    have kind : ∀ x o, x < n → l[x]? = some o → (isRead o = true ∨ isCall o = true ∨ isMake o = true) := fun x o hx hxo => by
      -- every number below n is in the order
      have hmem : x ∈ ord := by
        false_or_by_contra
        rename_i hxn
        have hsub : ∀ y ∈ x :: ord, y ∈ List.range n := fun y hy => by
          rcases List.mem_cons.1 hy with rfl | hy
          · exact List.mem_range.2 hx
          · have := List.all_eq_true.1 hkinds y hy
            simp only [Bool.and_eq_true, decide_eq_true_eq] at this
            exact List.mem_range.2 this.1
        have := (List.nodup_cons.2 ⟨hxn, hnd⟩).length_le_of_subset hsub
        simp [hlen] at this
        omega
      have := List.all_eq_true.1 hkinds x hmem
      simp only [hxo, Bool.and_eq_true, Bool.or_eq_true] at this
      rcases this.2 with (h | h) | h
      · exact .inl h
      · exact .inr (.inl h)
      · exact .inr (.inr h)
    have hkx : ∀ x ∈ pre, ∃ ox, l[x]? = some ox ∧ (isRead ox = true ∨ isCall ox = true ∨ isMake ox = true) ∧ Ind l (lt.contains i) ox oi := fun x hx => by
      obtain ⟨hxn, hxu⟩ := (M.rest x).1 (by simp [hx])
      have hxl : x < l.length := by omega
      have hxo : l[x]? = some l[x] := List.getElem?_eq_getElem hxl
      refine ⟨l[x], hxo, kind x _ hxn hxo, ?_⟩
      have nw : waitB ms i x = false := by
        cases hwb : waitB ms i x with
        | false => rfl
        | true =>
          have := waits hms M.inv i oi hol hall x hxl hwb hback
          have h5 : x < listed.size := by rw [M.size]; exact hxl
          simp [h5] at this hxu
          rw [this] at hxu; cases hxu
      have h := hok x hx
      unfold okB at h
      rw [hxo, hol] at h
      simp only [nw, Bool.false_or, Bool.and_eq_true] at h
      obtain ⟨⟨⟨h1, h2⟩, h3⟩, h4⟩ := h
      refine ⟨fun d hd he => ?_, fun d hd he => ?_, fun d hd he => ?_, fun hci => ?_, fun hla => ?_⟩
      · rw [he] at h1; simp [hd] at h1
      · rw [he] at h2; simp [hd] at h2
      · rw [he] at h1; simp [hd] at h1
      · rw [hci] at h3; simpa using h3
      · rw [hla] at h4; simpa using h4
    have hf' : (pre ++ post).length = f := by simp at hf ⊢; omega
    have next : ∀ S' a' w', Mix P l w0 lt F (pre ++ post) S' a' w' → (∀ b, S' b → b < w'.heap.size) → (∃ q, w' = gw w0 q) → MStand P l w0 lt F n ms (pre ++ post) S' (listed.setIfInBounds i true) a' w' := fun S' a' w' hm ht hg => by
      have hno := M.once
      refine ⟨by simp [M.size], M.inv.set hi hin, fun k => ?_, ?_, hpp, hm, ht, hg⟩
      · by_cases hki : k = i
        · subst hki
          have h1 : k ∉ pre ++ post := by
            rw [List.nodup_append] at hno
            intro hk
            rcases List.mem_append.1 hk with hk | hk
            · exact hno.2.2 k hk k (by simp) rfl
            · exact (List.nodup_cons.1 hno.2.1).1 hk
          exact ⟨fun h => absurd h h1, fun ⟨_, h⟩ => by simp [hisz] at h⟩
        · rw [getD_set_ne true (Ne.symm hki), ← M.rest k]
          simp [hki]
      · exact (List.Sublist.append_left (List.sublist_cons_self i post) pre).nodup hno
    obtain ⟨q0, hq0⟩ := M.grown
    have grown' : ∀ w', Below w.heap.size w w' → ∃ q, w' = gw w0 q := fun w' hb => gw_of_below (by
      have h1 : Below w0.heap.size w0 w := by rw [hq0]; exact below_gw w0 q0
      exact h1.trans (hb.mono h1.size))
    unfold wpOp
    rw [ho]
    simp only
    rcases hkd : isRead oi with _ | _
    · rcases hcd : isCall oi with _ | _
      · have hmd : isMake oi = true := by
          rcases kind i oi hin hol with h | h | h
          · rw [h] at hkd; cases hkd
          · rw [h] at hcd; cases hcd
          · exact h
        obtain ⟨h1, h2⟩ := Mix.make hF hol hkd hcd hmd pre post S a w hkx M.taken M.mix
        by_cases hw : Region.wanted oi (yielded l.toArray a.tmps) = true
        · rw [if_pos hw]
          obtain ⟨c, t, k, hrun, hm⟩ := h1 hw
          refine .inl ?_
          unfold Oper.wp
          rw [hrun w]
          simp only [Oper.upon]
          refine ih _ _ _ _ _ (next _ _ _ (hm w.heap.size _ (below_alloc w _) (blk_new _ _ _) fun k => Nat.lt_irrefl _ (M.taken _ k)) (fun b hb => ?_) (grown' _ (below_alloc w _))) hf'
          have := (below_alloc w (.cells c t)).size
          rcases hb with hb | hb
          · have := M.taken b hb; omega
          · rw [hb]; exact blk_lt (blk_new w c t)
        · rw [if_neg hw]
          exact ih _ _ _ _ _ (next _ _ _ (h2 hw) M.taken M.grown) hf'
      · have h1 := Mix.call hol hkd hcd pre post S a w hkx M.mix ⟨w.drawn, #[]⟩
        rw [gw_self] at h1
        refine wp_weaken (fun e a w k => k.1) (fun a' w' k => ?_) h1
        obtain ⟨_, hb, hm⟩ := k
        refine ih _ _ _ _ _ (next _ _ _ hm (fun b hb' => ?_) (grown' _ hb)) hf'
        rcases hb' with h | h
        · have := M.taken b h; have := hb.size; omega
        · exact h.2
    · obtain ⟨v, hy, hm⟩ := Mix.read hol hkd pre post S a w hkx M.taken M.mix
      have hst := next _ _ _ hm M.taken M.grown
      rcases hy with ⟨hw, hq⟩ | ⟨hw, rfl⟩
      · rw [if_pos hw]
        refine .inl ?_
        have h1 := hq w (by
          unfold Cl
          cases lt.contains i with
          | false => exact M.grown
          | true => exact ⟨⟨w.drawn, #[]⟩, (gw_self w).symm⟩)
        unfold Oper.quietAt at h1
        unfold Oper.wp
        rcases read_kinds (P := P) hkd a.eval w with ⟨u, w', e⟩ | ⟨x, w', e⟩
        · rw [e] at h1 ⊢
          obtain ⟨rfl, rfl⟩ := h1
          exact ih _ _ _ _ _ hst hf'
        · rw [e] at h1; exact h1.elim
      · rw [if_neg (by rw [hw]; exact Bool.false_ne_true)]
        exact ih _ _ _ _ _ hst hf'

theorem wp_mix {a : Act} {w : World} {id : Nat} {Q : Exit → Act → World → Prop} (n : Nat) (ms lt ord : List Nat) (hmix : P.follows .mixedOrders = true) (hB : mixB l n ms lt ord = true)
    (h : Mix P l w lt (fun S a w' => ∀ p, wpList P l.toArray Q (l.drop n) a (gw w' p)) ord (fun b => b < w.heap.size) a w) : (Code.region id l.toArray true).wp P Q a w := by
  have hB' := hB
  unfold mixB at hB'
  simp only [Bool.and_eq_true, decide_eq_true_eq, Bool.or_eq_true] at hB'
  obtain ⟨⟨⟨⟨⟨⟨⟨⟨hn, hback⟩, hsc⟩, hms⟩, hlen⟩, hnd⟩, hkinds⟩, hpairs⟩, hseq⟩ := hB'
  have hF : Grows (fun (S : Nat → Prop) a w' => ∀ p, wpList P l.toArray Q (l.drop n) a (gw w' p)) := fun S a w1 w2 hb hh p => by
    obtain ⟨p', e⟩ := gw_of_below (hb.trans ((below_gw w2 p).mono hb.size))
    simp only [e]; exact hh p'
  refine wp_region_any hmix ?_
  have hall : ∀ i, i < n → i ∈ ord := fun i hi => by
    false_or_by_contra
    rename_i hxn
    have hsub : ∀ y ∈ i :: ord, y ∈ List.range n := fun y hy => by
      rcases List.mem_cons.1 hy with rfl | hy
      · exact List.mem_range.2 hi
      · have := List.all_eq_true.1 hkinds y hy
        simp only [Bool.and_eq_true, decide_eq_true_eq] at this
        exact List.mem_range.2 this.1
    have := (List.nodup_cons.2 ⟨hxn, hnd⟩).length_le_of_subset hsub
    simp [hlen] at this
    omega
  have gd : ∀ i, i < l.length → (Array.replicate l.toArray.size false).getD i true = false := fun i hi => getD_in (by simpa using hi) (getD_replicate_false _ _)
  have hb0 : Below w.heap.size w { w with drawn := w.drawn + 1 } := ⟨rfl, rfl, rfl, Nat.le_refl _, fun _ _ => rfl⟩
  have M0 : MStand P l w lt (fun S a w' => ∀ p, wpList P l.toArray Q (l.drop n) a (gw w' p)) n ms ord (fun b => b < w.heap.size) (Array.replicate l.toArray.size false) a { w with drawn := w.drawn + 1 } := by
    refine ⟨by simp, ⟨by simp, fun j oj _ hl => (by rw [getD_replicate_false] at hl; cases hl), fun t _ ht => gd t (by simpa using ht)⟩, fun i => ⟨fun hi => ?_, fun hi => hall i hi.1⟩, hnd, hpairs, Mix.grow hF _ _ _ _ _ hb0 h, fun b hb => hb, ⟨⟨w.drawn + 1, #[]⟩, by unfold gw; simp⟩⟩
    have := List.all_eq_true.1 hkinds i hi
    simp only [Bool.and_eq_true, decide_eq_true_eq] at this
    exact ⟨this.1, gd i (by omega)⟩
  have := mix_any hF hB (fun S a w k => by have := k ⟨w.drawn, #[]⟩; rw [gw_self] at this; exact this) n ord _ _ a _ M0 hlen
  have e : n + (l.length - n) = l.toArray.size := by simp; omega
  rw [e] at this; exact this

/-! The steps. -/
theorem mix_early {i : Nat} {R : List Nat} {S : Nat → Prop} {a : Act} {w : World} {o : Oper} (ho : l[i]? = some o) (hr : isRead o = true) (hl : lt.contains i = false) (h : wpQuiet P l.toArray (fun w' => ∃ q, w' = gw w0 q) (fun a' => Mix P l w0 lt F R S a' w) [o] a) : Mix P l w0 lt F (i :: R) S a w := by
  refine (Mix.cons_read ho hr).2 ?_
  have e : Cl w0 lt i w = fun w' => ∃ q, w' = gw w0 q := by unfold Cl; rw [hl]; rfl
  rw [e]; exact quiet_one.1 h
theorem mix_late {i : Nat} {R : List Nat} {S : Nat → Prop} {a : Act} {w : World} {o : Oper} (ho : l[i]? = some o) (hr : isRead o = true) (hl : lt.contains i = true) (h : wpQuiet P l.toArray (fun w' => ∃ q, w' = gw w q) (fun a' => Mix P l w0 lt F R S a' w) [o] a) : Mix P l w0 lt F (i :: R) S a w := by
  refine (Mix.cons_read ho hr).2 ?_
  have e : Cl w0 lt i w = fun w' => ∃ q, w' = gw w q := by unfold Cl; rw [hl]; rfl
  rw [e]; exact quiet_one.1 h
theorem mix_call {i : Nat} {R : List Nat} {S : Nat → Prop} {a : Act} {w : World} {o : Oper} (ho : l[i]? = some o) (hr : isRead o = false) (hc : isCall o = true) (h : ∀ p Qs, (∀ a' w', Below (gw w p).heap.size (gw w p) w' → Mix P l w0 lt F R (fun b => S b ∨ ((gw w p).heap.size ≤ b ∧ b < w'.heap.size)) a' w' → Qs Exit.normal a' w') → wpList P l.toArray Qs [o] a (gw w p)) : Mix P l w0 lt F (i :: R) S a w := (Mix.cons_call ho hr hc).2 h
theorem mix_make {i : Nat} {R : List Nat} {S : Nat → Prop} {a : Act} {w : World} {o : Oper} (c : Array Value) (t : TypeId) (k : Option Nat) (ho : l[i]? = some o) (hr : isRead o = false) (hc : isCall o = false) (hw : Region.wanted o (yielded l.toArray a.tmps) = true)
    (hrun : ∀ w, (execOp a.eval o).run P w = .ok (.value (mval k w.heap.size)) (w.alloc (.cells c t))) (h : ∀ b w', Below w.heap.size w w' → blk w' b c t → ¬ S b → Mix P l w0 lt F R (fun k => S k ∨ k = b) (a.put o.dst (mval k b)) w') : Mix P l w0 lt F (i :: R) S a w := (Mix.cons_make ho hr hc hw).2 ⟨c, t, k, hrun, h⟩
theorem mix_skip {i : Nat} {R : List Nat} {S : Nat → Prop} {a : Act} {w : World} {o : Oper} (ho : l[i]? = some o) (hr : isRead o = false) (hc : isCall o = false) (hw : Region.wanted o (yielded l.toArray a.tmps) = false) (h : Mix P l w0 lt F R S (a.put o.dst undef) w) : Mix P l w0 lt F (i :: R) S a w := (Mix.cons_skip ho hr hc (by rw [hw]; exact Bool.false_ne_true)).2 h
theorem mix_end {S : Nat → Prop} {a : Act} {w : World} (h : F S a w) : Mix P l w0 lt F [] S a w := h

end

end

end Go.Proofs.YtdmcdicphohlfaaGreat

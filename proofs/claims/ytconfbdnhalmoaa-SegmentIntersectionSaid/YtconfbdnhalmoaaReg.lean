/- Worlds that have grown by a call, as a function of the world before; and regions that draw their order, all of whose operations but a forced tail leave such worlds alone: one walk in the order of the text. No program is imported. -/
import Derived.WalkKit
import Derived.BigQuiet
import Derived.Deep.QuietTactic
import Derived.StillTail
import Derived.Below
import Derived.IntWalk
import Derived.Laws.NewBlocks
set_option linter.unusedVariables false
namespace Go.Proofs.Ytconfbdnhalmoaa

/-! ### A region with a forced tail -/
section
variable {P : Program} {md : Region.Mode}

/-- Every operation waits only for earlier ones. -/
def backB (md : Region.Mode) (l : List Oper) : Bool :=
  (List.range l.length).all fun j => match l[j]? with
    | some o => o.after.all fun e => !Region.binds md e || decide (e.on < j)
    | none => true
/-- The first n operations are guarded by the first n only. -/
def guardB (l : List Oper) (n : Nat) : Bool := (l.take n).all fun o => match o.guard with | some (j, _) => decide (j < n) | none => true
/-- The first n have come up, the others have not. -/
def headDone (n m : Nat) : Array Bool := ((List.range m).map fun i => decide (i < n)).toArray
def tailB (l : List Oper) (n : Nat) : Bool :=
  decide (n < l.length) && backB .any l && guardB l n && Region.sinkB .any l.toArray n && Region.chainB .any l.toArray n && Region.lexB .any (l.take n).toArray && Region.seqB .any l.toArray (l.length - n) n (headDone n l.length)

theorem backB_spec {l : List Oper} (h : backB md l = true) {j : Nat} {o : Oper} (ho : l[j]? = some o) {e : Edge} (he : e ∈ o.after) (hb : Region.binds md e = true) : e.on < j := by
  have hj : j < l.length := (List.getElem?_eq_some_iff.1 ho).1
  have h1 := List.all_eq_true.1 h j (List.mem_range.2 hj)
  simp only [ho] at h1
  have h2 := Array.all_eq_true_iff_forall_mem.1 h1 e he
  simpa [hb] using h2

theorem any_more {ops : Array Oper} {Q : Exit → Act → World → Prop} : ∀ (f : Nat) (listed : Array Bool) (a : Act) (w : World), wpAny P md ops Q f listed a w → wpAny P md ops Q (f + 1) listed a w
  | 0, listed, a, w, h => ⟨fun _ => h.2, fun i hi => by rw [h.1] at hi; cases hi⟩
  | f + 1, listed, a, w, h => ⟨h.1, fun i hi => wpOp_mono (fun a' w' h' => any_more f _ a' w' h') (h.2 i hi)⟩
theorem any_more_by {ops : Array Oper} {Q : Exit → Act → World → Prop} {g : Nat} {listed : Array Bool} {a : Act} {w : World} (h : wpAny P md ops Q g listed a w) : ∀ f, wpAny P md ops Q (f + g) listed a w
  | 0 => by rw [Nat.zero_add]; exact h
  | f + 1 => by rw [show f + 1 + g = (f + g) + 1 from by omega]; exact any_more _ _ _ _ (any_more_by h f)

/-- What has come up among the first n, in both books. -/
structure Books (l : List Oper) (n : Nat) (listed lh : Array Bool) : Prop where
  big : listed.size = l.length
  small : lh.size = n
  same : ∀ k, k < n → listed[k]? = lh[k]?
theorem Books.getD {l : List Oper} {n : Nat} {listed lh : Array Bool} (B : Books l n listed lh) {k : Nat} (hk : k < n) (d : Bool) : listed.getD k d = lh.getD k d := by
  have h := B.same k hk
  simp only [Array.getD_eq_getD_getElem?, h]
theorem Books.set {l : List Oper} {n : Nat} {listed lh : Array Bool} (B : Books l n listed lh) (hn : n < l.length) {i : Nat} (hi : i < n) : Books l n (listed.setIfInBounds i true) (lh.setIfInBounds i true) :=
  ⟨by simp [B.big], by simp [B.small], fun k hk => by
    rw [Array.getElem?_setIfInBounds, Array.getElem?_setIfInBounds, B.same k hk, B.big, B.small]
    by_cases h : i = k
    · simp [h, hk, show k < l.length from by omega]
    · simp [h]⟩

/-- Where nothing of the head may come up, all of the head has. -/
theorem head_all {l : List Oper} {n : Nat} {lh : Array Bool} (hback : backB md l = true) (hn : n < l.length) (hs : lh.size = n) (h : Region.ready md (l.take n).toArray lh = []) : ∀ (d i : Nat), i < d → i < n → lh.getD i false = true := by
  intro d
  induction d with
  | zero => intro i hi; omega
  | succ d ih =>
    intro i hi hin
    by_cases hid : i < d
    · exact ih i hid hin
    · false_or_by_contra
      rename_i hne
      have hf : lh.getD i false = false := by simpa using hne
      have hl : i < l.length := by omega
      have ho : l[i]? = some l[i] := List.getElem?_eq_getElem hl
      have hm : i ∈ Region.ready md (l.take n).toArray lh := mem_ready.2 ⟨getD_in (by omega) hf, l[i], by simp [hin, ho], fun e he hb => by
        have := backB_spec hback ho he hb
        exact ih e.on (by omega) (by omega)⟩
      rw [h] at hm; cases hm

theorem any_of_head {C : World → Prop} {l : List Oper} {n g : Nat} {Q' : Exit → Act → World → Prop} {T : Act → World → Prop} (hn : n < l.length) (hback : backB md l = true) (hs : Region.sinkB md l.toArray n = true) (hc : Region.chainB md l.toArray n = true)
    (hT : ∀ (listed : Array Bool) a w, listed.size = l.length → (∀ k, k < n → listed.getD k false = true) → (∀ t, n ≤ t → t < l.length → listed.getD t true = false) → T a w → wpAny P md l.toArray Q' g listed a w)
    (hg : ∀ (o : Oper) (tmps : Array Value), o ∈ l.take n → Region.wanted o (yielded l.toArray tmps) = Region.wanted o (yielded (l.take n).toArray tmps)) :
    ∀ (f : Nat) (listed lh : Array Bool) (a : Act) (w : World), Books l n listed lh → HeadInv md l.toArray n listed → C w →
      wpAnyQ P md (l.take n).toArray C (fun a' => ∀ w', C w' → T a' w') f lh a → wpAny P md l.toArray Q' (f + g) listed a w := by
  have done : ∀ (f : Nat) (listed lh : Array Bool) (a : Act) (w : World), Books l n listed lh → HeadInv md l.toArray n listed → Region.ready md (l.take n).toArray lh = [] → T a w → wpAny P md l.toArray Q' (f + g) listed a w :=
    fun f listed lh a w B inv hr ht => any_more_by (hT listed a w B.big (fun k hk => by rw [B.getD hk]; exact head_all hback hn B.small hr n k hk hk) (fun t h1 h2 => inv.tail t h1 (by simpa using h2)) ht) f
  intro f
  induction f with
  | zero => intro listed lh a w B inv hw h; exact done 0 listed lh a w B inv h.1 (h.2 w hw)
  | succ f ih =>
    intro listed lh a w B inv hw h
    by_cases hr : Region.ready md (l.take n).toArray lh = []
    · exact done (f + 1) listed lh a w B inv hr (h.1 hr w hw)
    · -- something of the head is open: nothing of the tail may come up
      obtain ⟨i0, hi0⟩ := List.exists_mem_of_ne_nil _ hr
      have hi0' := mem_ready.1 hi0
      have hin0 : i0 < n := by
        obtain ⟨_, o, ho, _⟩ := hi0'
        have := (Array.getElem?_eq_some_iff.1 ho).1
        simp at this; omega
      have hun : listed.getD i0 true = false := by rw [B.getD hin0]; exact hi0'.1
      have both : ∀ j, j ∈ Region.ready md l.toArray listed → j < n ∧ j ∈ Region.ready md (l.take n).toArray lh := by
        intro j hj
        have hjn : j < n := by
          false_or_by_contra
          exact tail_waits hs hc (by simpa using hn) inv _ i0 rfl hin0 hun j (by omega) hj
        obtain ⟨h1, o, ho, h2⟩ := mem_ready.1 hj
        have ho' : l[j]? = some o := by simpa using ho
        exact ⟨hjn, mem_ready.2 ⟨by rw [← B.getD hjn]; exact h1, o, by simp [hjn, ho'], fun e he hb => by
          have := backB_spec hback ho' he hb
          rw [← B.getD (by omega)]; exact h2 e he hb⟩⟩
      have back : i0 ∈ Region.ready md l.toArray listed := by
        obtain ⟨h1, o, ho, h2⟩ := hi0'
        have ho' : l[i0]? = some o := by simpa [hin0] using ho
        exact mem_ready.2 ⟨hun, o, by simpa using ho', fun e he hb => by
          have := backB_spec hback ho' he hb
          rw [B.getD (by omega)]; exact h2 e he hb⟩
      rw [show f + 1 + g = (f + g) + 1 from by omega]
      refine ⟨fun h0 => (by rw [h0] at back; cases back), fun j hj => ?_⟩
      obtain ⟨hjn, hj'⟩ := both j hj
      obtain ⟨_, o, ho, _⟩ := mem_ready.1 hj
      have ho' : l[j]? = some o := by simpa using ho
      have hoh : (l.take n).toArray[j]? = some o := by simp [hjn, ho']
      have hmem : o ∈ l.take n := by
        have := List.mem_of_getElem? (l := l.take n) (i := j) (a := o) (by simpa using hoh)
        exact this
      have step := wpOp_of_qOp (Q' := Q') hw (K' := fun a' w' => wpAny P md l.toArray Q' (f + g) (listed.setIfInBounds j true) a' w')
        (fun a' w' hw' h' => ih _ _ a' w' (B.set hn hjn) (inv.set hj hjn) hw' h') (h.2 j hj')
      unfold wpOp at step ⊢
      rw [hoh] at step
      rw [ho]
      simp only at step ⊢
      rw [hg o a.tmps hmem]
      exact step

theorem wanted_head {l : List Oper} {n : Nat} (hgB : guardB l n = true) (o : Oper) (tmps : Array Value) (ho : o ∈ l.take n) : Region.wanted o (yielded l.toArray tmps) = Region.wanted o (yielded (l.take n).toArray tmps) := by
  have h := List.all_eq_true.1 hgB o ho
  unfold Region.wanted
  cases hgd : o.guard with
  | none => rfl
  | some x =>
    obtain ⟨j, b⟩ := x
    rw [hgd] at h
    have hj : j < n := by simpa using h
    simp only
    unfold yielded
    simp [hj]

theorem quiet_head {C : World → Prop} {Q : Act → Prop} {ops ops' : Array Oper} : ∀ (r : List Oper) (a : Act), (∀ o ∈ r, ∀ tmps, Region.wanted o (yielded ops tmps) = Region.wanted o (yielded ops' tmps)) → wpQuiet P ops C Q r a → wpQuiet P ops' C Q r a
  | [], _, _, h => h
  | o :: r, a, hg, h => by
    unfold wpQuiet at h ⊢
    rw [← hg o (List.mem_cons_self ..) a.tmps]
    split
    · rename_i hw
      rw [if_pos hw] at h
      exact Oper.quiet_mono (fun a' h' => quiet_head r a' (fun o' ho' => hg o' (List.mem_cons_of_mem _ ho')) h') h
    · rename_i hw
      rw [if_neg hw] at h
      exact quiet_head r _ (fun o' ho' => hg o' (List.mem_cons_of_mem _ ho')) h

/-- One walk of the head in the order of the text, every operation quiet in the class; then the tail. -/
theorem wp_region_tail {C : World → Prop} {id : Nat} {Q : Exit → Act → World → Prop} {a : Act} {w : World} {l : List Oper} (n : Nat) (hm : P.follows .mixedOrders = true) (hB : tailB l n = true) (hC : C { w with drawn := w.drawn + 1 })
    (h : wpQuiet P l.toArray C (fun a' => ∀ w', C w' → wpList P l.toArray Q (l.drop n) a' w') (l.take n) a) : (Code.region id l.toArray true).wp P Q a w := by
  unfold tailB at hB
  simp only [Bool.and_eq_true, decide_eq_true_eq] at hB
  obtain ⟨⟨⟨⟨⟨⟨hn, hback⟩, hgB⟩, hs⟩, hc⟩, hlex⟩, hseq⟩ := hB
  unfold Region.lexB at hlex
  rw [Bool.and_eq_true] at hlex
  have hlen : (l.take n).length = n := by simp; omega
  refine wp_region_any hm ?_
  have inv0 : HeadInv .any l.toArray n (Array.replicate l.toArray.size false) :=
    ⟨by simp, fun j oj _ hl => (by rw [getD_replicate_false] at hl; cases hl), fun t _ ht => getD_in (by simpa using ht) (getD_replicate_false _ _)⟩
  have B0 : Books l n (Array.replicate l.toArray.size false) (Array.replicate (l.take n).toArray.size false) :=
    ⟨by simp, by simp; omega, fun k hk => by simp [show k < l.length from by omega, show k < min n l.length from by omega]⟩
  have hq := quiet_head (l.take n) a (fun o ho tmps => wanted_head hgB o tmps ho) h
  have hQ := wpAnyQ_lex (C := C) (md := .any) hlex.1 (l.take n) 0 (Array.replicate (l.take n).toArray.size false) a (by simp) (by simpa using hlex.2) hq
  have H := any_of_head (P := P) (md := .any) (g := l.length - n) (Q' := Q) (T := wpList P l.toArray Q (l.drop n)) hn hback hs hc
    (fun listed a' w' hz hh ht hT => by
      have e : listed = headDone n l.length := by
        apply Array.ext_getElem?
        intro k
        by_cases hk : k < l.length
        · have hk' : k < listed.size := by omega
          have e1 : (headDone n l.length)[k]? = some (decide (k < n)) := by simp [headDone, hk]
          rw [e1, Array.getElem?_eq_getElem hk']
          by_cases hkn : k < n
          · have := hh k hkn
            simp [hk'] at this
            simp [this, hkn]
          · have := ht k (by omega) hk
            simp [hk'] at this
            simp [this, hkn]
        · rw [Array.getElem?_eq_none (by omega), Array.getElem?_eq_none (by simp [headDone]; omega)]
      have := wpAny_of_seq (P := P) (md := .any) (Q' := Q) (l.drop n) n listed a' w' (fun j => by simp [List.getElem?_drop]) (by rw [e]; simpa using hseq) hT
      simpa using this)
    (fun o tmps ho => wanted_head hgB o tmps ho) (l.take n).length _ _ a _ B0 inv0 hC hQ
  rw [hlen, show n + (l.length - n) = l.toArray.size from by simp; omega] at H
  exact H
end

/-! ### A world that has grown -/
open Go.RowKit
/-- How far a world has grown: the count of its draws, and the blocks that have come. -/
structure Gw where
  d : Nat
  os : Array Obj
  deriving Inhabited
def gw (w : World) (p : Gw) : World := { w with drawn := p.d, heap := w.heap ++ p.os }

theorem below_gw (w : World) (p : Gw) : Below w.heap.size w (gw w p) :=
  ⟨rfl, rfl, rfl, by simp [gw], fun k hk => by simp [gw, Array.getElem?_append, hk]⟩
theorem gw_of_below {w w' : World} (h : Below w.heap.size w w') : ∃ p, w' = gw w p := by
  refine ⟨⟨w'.drawn, w'.heap.extract w.heap.size w'.heap.size⟩, ?_⟩
  have e : w'.heap = w.heap ++ w'.heap.extract w.heap.size w'.heap.size := by
    apply Array.ext_getElem?
    intro k
    rcases Nat.lt_or_ge k w.heap.size with hk | hk
    · rw [Array.getElem?_append_left hk]; exact h.block k hk
    · rw [Array.getElem?_append_right hk, Array.getElem?_extract]
      rcases Nat.lt_or_ge k w'.heap.size with h2 | h2
      · rw [if_pos (by omega)]; congr 1; omega
      · rw [if_neg (by omega), Array.getElem?_eq_none h2]
  have h1 := h.os; have h2 := h.tape; have h3 := h.output
  cases w; cases w'
  simp only at e h1 h2 h3
  subst h1 h2 h3
  simp only [gw]
  congr 1
@[simp, go_sem] theorem size_gw (w : World) (p : Gw) : (gw w p).heap.size = w.heap.size + p.os.size := by simp [gw]
theorem cell_gw {w : World} {a : Addr} (p : Gw) (h : a.block < w.heap.size) : (gw w p).cell? a = w.cell? a := (below_gw w p).cell h
theorem frozen_gw {w : World} {a : Addr} (p : Gw) (h : a.block < w.heap.size) : (gw w p).frozen? a = w.frozen? a := (below_gw w p).frozen h
theorem Below.gw {B : Nat} {a w : World} (h : Below B a w) (hB : B ≤ w.heap.size) (p : Gw) : Below B a (gw w p) := h.trans ((below_gw w p).mono hB)
theorem bgw {B : Nat} {a w : World} (h : Below B a w) (hB : B ≤ w.heap.size) (p : Gw) : Below B a (gw w p) := h.trans ((below_gw w p).mono hB)
theorem drewN_gw (w : World) (n : Nat) : w.drewN n = gw w ⟨w.drawn + n, #[]⟩ := by
  induction n with
  | zero => simp [gw, World.drewN]
  | succ n ih => simp [gw, World.drewN] at ih ⊢ <;> simp [ih, World.drew] <;> omega
/-- Is block b there? The rules below reckon it without side conditions: so a rule that asks it asks one thing only. -/
def older (b : Nat) (w : World) : Bool := decide (b < w.heap.size)
theorem older_iff {b : Nat} {w : World} : older b w = true ↔ b < w.heap.size := by simp [older]
/-- Is block b one of those that came with this growth? -/
def newer (b : Nat) (w : World) (p : Gw) : Bool := decide (¬ b < w.heap.size ∧ b < w.heap.size + p.os.size)
@[go_sem] theorem older_gw (b : Nat) (w : World) (p : Gw) : older b (gw w p) = (older b w || newer b w p) := by
  unfold older newer
  rw [size_gw, Bool.eq_iff_iff]
  simp; omega
@[go_sem] theorem older_alloc (b : Nat) (w : World) (o : Obj) : older b (w.alloc o) = (older b w || decide (b = w.heap.size)) := by
  unfold older
  rw [Bool.eq_iff_iff]
  simp; omega
@[go_sem] theorem older_set (b : Nat) (w : World) (a : Addr) (v : Value) : older b (w.setCell a v) = older b w := by
  unfold older; simp [World.setCell]
@[go_sem] theorem older_drew (b : Nat) (w : World) : older b w.drew = older b w := rfl
theorem older_of_cell {w : World} {b o : Nat} {s : Option Nat} {v : Value} (h : w.cell? ⟨b, o, s⟩ = some v) : older b w = true := older_iff.2 (World.block_lt_of_cell? w ⟨b, o, s⟩ h)

@[go_sem] theorem cell_gw' {w : World} {b : Nat} {o : Nat} {s : Option Nat} (p : Gw) (h : older b w = true) : (gw w p).cell? ⟨b, o, s⟩ = w.cell? ⟨b, o, s⟩ := cell_gw p (older_iff.1 h)
@[go_sem] theorem frozen_gw' {w : World} {b : Nat} {o : Nat} {s : Option Nat} (p : Gw) (h : older b w = true) : (gw w p).frozen? ⟨b, o, s⟩ = w.frozen? ⟨b, o, s⟩ := frozen_gw p (older_iff.1 h)
@[go_sem] theorem cell_alloc' {w : World} {b : Nat} {o : Nat} {s : Option Nat} (x : Obj) (h : older b w = true) : (w.alloc x).cell? ⟨b, o, s⟩ = w.cell? ⟨b, o, s⟩ := World.cell?_alloc_lt w x ⟨b, o, s⟩ (older_iff.1 h)
@[go_sem] theorem frozen_alloc' {w : World} {b : Nat} {o : Nat} {s : Option Nat} (x : Obj) (h : older b w = true) : (w.alloc x).frozen? ⟨b, o, s⟩ = w.frozen? ⟨b, o, s⟩ := World.frozen?_alloc_old _ _ _ (by have := older_iff.1 h; show b ≠ w.heap.size; omega)
@[go_sem] theorem setCell_alloc' {w : World} {b : Nat} {i : Nat} (o : Obj) (v : Value) (h : older b w = true) : (w.alloc o).setCell ⟨b, i, none⟩ v = (w.setCell ⟨b, i, none⟩ v).alloc o := World.setCell_alloc_past o b i v (older_iff.1 h)

/-- A store into an old block goes through the growth. -/
@[go_sem] theorem setCell_gw' {w : World} {b : Nat} {o : Nat} {s : Option Nat} (v : Value) (p : Gw) (h : older b w = true) : (gw w p).setCell ⟨b, o, s⟩ v = gw (w.setCell ⟨b, o, s⟩ v) p := by
  have h' := older_iff.1 h
  simp only [gw, World.setCell]
  congr 1
  apply Array.ext_getElem?
  intro k
  simp only [Array.getElem?_modify, Array.getElem?_append, Array.size_modify]
  by_cases hk : k < w.heap.size
  · simp [hk]
  · have : b ≠ k := by omega
    simp [hk, this]
attribute [irreducible] gw older newer

/-- Block b holds the cells c, none of them frozen. -/
def blk (w : World) (b : Nat) (c : Array Value) (t : TypeId) : Prop := w.heap[b]? = some (.cells c t)
theorem blk_lt {w : World} {b : Nat} {c : Array Value} {t : TypeId} (h : blk w b c t) : b < w.heap.size := (Array.getElem?_eq_some_iff.1 h).1
theorem blk_older {w : World} {b : Nat} {c : Array Value} {t : TypeId} (h : blk w b c t) : older b w = true := older_iff.2 (blk_lt h)
theorem blk_cell {w : World} {b : Nat} {c : Array Value} {t : TypeId} (h : blk w b c t) (i : Nat) : w.cell? ⟨b, i, none⟩ = c[i]? := by
  unfold blk at h; simp [World.cell?, h]
theorem blk_free {w : World} {b : Nat} {c : Array Value} {t : TypeId} (h : blk w b c t) (i : Nat) : w.frozen? ⟨b, i, none⟩ = false := by
  unfold blk at h; simp [World.frozen?, h]
theorem blk_of {w : World} {b : Nat} {c c' : Array Value} {t : TypeId} (h : blk w b c' t) (e : c' = c) : blk w b c t := e ▸ h
theorem blk_gw {w : World} {b : Nat} {c : Array Value} {t : TypeId} {p : Gw} (h : blk w b c t) : blk (gw w p) b c t :=
  ((below_gw w p).block b (blk_lt h)).trans h
theorem blk_below {w w' : World} {b : Nat} {c : Array Value} {t : TypeId} (hb : Below w.heap.size w w') (h : blk w b c t) : blk w' b c t := (hb.block b (blk_lt h)).trans h
theorem blk_alloc {w : World} {b : Nat} {c : Array Value} {t : TypeId} {o : Obj} (h : blk w b c t) : blk (w.alloc o) b c t := by
  have := blk_lt h
  unfold blk World.alloc at *
  simp only [Array.getElem?_push]; rw [if_neg (by omega)]; exact h
theorem blk_drew {w : World} {b : Nat} {c : Array Value} {t : TypeId} (h : blk w b c t) : blk w.drew b c t := h
theorem blk_new (w : World) (c : Array Value) (t : TypeId) : blk (w.alloc (.cells c t)) w.heap.size c t := by
  unfold blk World.alloc; simp
theorem blk_at {w : World} {b : Nat} {c : Array Value} {t : TypeId} (h : b = w.heap.size) : blk (w.alloc (.cells c t)) b c t := h ▸ blk_new w c t
theorem blk_top {W X : World} {c : Array Value} {t : TypeId} (h : W = X.alloc (.cells c t)) : blk W X.heap.size c t := h ▸ blk_new X c t
theorem blk_set {w : World} {b i : Nat} {c : Array Value} {t : TypeId} {v : Value} (h : blk w b c t) : blk (w.setCell ⟨b, i, none⟩ v) b (c.setIfInBounds i v) t := by
  unfold blk World.setCell at *
  simp [Array.getElem?_modify, h]
theorem blk_other {w : World} {b b' i : Nat} {c : Array Value} {t : TypeId} {v : Value} (hne : b' ≠ b) (h : blk w b c t) : blk (w.setCell ⟨b', i, none⟩ v) b c t := by
  unfold blk World.setCell at *
  simp only [Array.getElem?_modify]; rw [if_neg hne]; exact h

section
variable {P : Program}
theorem wp_region_gw {id : Nat} {Q : Exit → Act → World → Prop} {a : Act} {w : World} {l : List Oper} (hm : P.follows .mixedOrders = true) (hB : Region.lexB .any l.toArray = true)
    (h : wpQuiet P l.toArray (fun w' => ∃ p, w' = gw w p) (fun a' => ∀ w', (∃ p, w' = gw w p) → Q .normal a' w') l a) : (Code.region id l.toArray true).wp P Q a w :=
  wp_region_quiet (C := fun w' => ∃ p, w' = gw w p) hm hB (gw_of_below ⟨rfl, rfl, rfl, Nat.le_refl _, fun _ _ => rfl⟩) (by simpa using h)
theorem wp_region_gw_tail {id : Nat} {Q : Exit → Act → World → Prop} {a : Act} {w : World} {l : List Oper} (n : Nat) (hm : P.follows .mixedOrders = true) (hB : tailB l n = true)
    (h : wpQuiet P l.toArray (fun w' => ∃ p, w' = gw w p) (fun a' => ∀ w', (∃ p, w' = gw w p) → wpList P l.toArray Q (l.drop n) a' w') (l.take n) a) : (Code.region id l.toArray true).wp P Q a w :=
  wp_region_tail (C := fun w' => ∃ p, w' = gw w p) n hm hB (gw_of_below ⟨rfl, rfl, rfl, Nat.le_refl _, fun _ _ => rfl⟩) h

/-- A callee's contract, met in a world that has grown. -/
theorem gw_call {f : FuncId} {args : Array Value} {w : World} {p : Gw} {v : Value}
    (h : Calls P f args (gw w p) fun e w' => e = .returned v ∧ Below (gw w p).heap.size (gw w p) w') : Calls P f args (gw w p) fun e w'' => e = .returned v ∧ ∃ q, w'' = gw w q :=
  h.mono fun _ _ ⟨he, hb⟩ => ⟨he, gw_of_below ((below_gw w p).trans (hb.mono (by simp)))⟩
/-- .. and in whatever world. -/
theorem gw_at {f : FuncId} {args : Array Value} {w : World} {v : Value}
    (h : Calls P f args w fun e w' => e = .returned v ∧ Below w.heap.size w w') : Calls P f args w fun e w'' => e = .returned v ∧ ∃ q, w'' = gw w q :=
  h.mono fun _ _ ⟨he, hb⟩ => ⟨he, gw_of_below hb⟩
end

/-- A callee's answer, known to be this Bool. -/
theorem boolIs {P : Program} {f : FuncId} {args : Array Value} {w : World} {x b : Bool} (h : Calls P f args w fun e w' => e = .returned (.bool x) ∧ Below w.heap.size w w') (hx : x = b) : Calls P f args w fun e w' => e = .returned (.bool b) ∧ Below w.heap.size w w' := hx ▸ h

/-- The world gets a name. -/
theorem wp_named {P : Program} {c : Code} {Q : Exit → Act → World → Prop} {a : Act} {w : World} (h : ∀ W, W = w → c.wp P Q a W) : c.wp P Q a w := h w rfl

/-! ### min, max of three -/
theorem three_min (P : Program) (ts : Array TypeId) (t : TypeId) (k k' k'' : IntKind) (x y z : Int) (w : World) : (Builtin.min_ ts t #[.int k x, .int k' y, .int k'' z]).run P w = .ok (.int k (if z < (if y < x then y else x) then z else (if y < x then y else x))) w := by
  simp [Builtin.min_, Builtin.min2]
theorem three_max (P : Program) (ts : Array TypeId) (t : TypeId) (k k' k'' : IntKind) (x y z : Int) (w : World) : (Builtin.max_ ts t #[.int k x, .int k' y, .int k'' z]).run P w = .ok (.int k (if (if x < y then y else x) < z then z else (if x < y then y else x))) w := by
  simp [Builtin.max_, Builtin.max2]
@[go_sem] theorem run_min3 (P : Program) (ts : Array TypeId) (t : TypeId) (k k' k'' : IntKind) (x y z : Int) (w : World) : (Builtin.min_ ts t #[.int k x, .int k' y, .int k'' z]).run P w = .ok (.int k (min (min x y) z)) w := by
  rw [three_min]
  congr 2
  split <;> split at * <;> omega
@[go_sem] theorem run_max3 (P : Program) (ts : Array TypeId) (t : TypeId) (k k' k'' : IntKind) (x y z : Int) (w : World) : (Builtin.max_ ts t #[.int k x, .int k' y, .int k'' z]).run P w = .ok (.int k (max (max x y) z)) w := by
  rw [three_max]
  congr 2
  split <;> split at * <;> omega

end Go.Proofs.Ytconfbdnhalmoaa

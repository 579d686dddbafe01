/- Slices of numbers among a statement's arguments. No program is imported.
Slices of bytes and strings in memory; append from whatever slice. No program is imported.
Slices of points: append of a slice of points to an own row; their parts. No program is imported.
append(literal of no element, xs...): a new row or nothing. And append as one of the calls of a drawn region. No program is imported.
Slices of structs among a statement's arguments, however deep: their elements' cells, and what each element's cells say. No program is imported.
append of one struct to an own row, and such a row as elements. No program is imported. -/
import Derived.Test.YtiecpebckmihgaaGreatKi1
import Derived.ChangeSlices
import Derived.Deep.SlicePairs
import Derived.Laws.AppendOwnNone
import Derived.Laws.BytesArg
import Derived.Deep.AppendSrc
import Derived.Lib.AppendStr
import Derived.Deep.Upon
import Derived.Test.YtiecpebckmihgaaGreatKi2
import Derived.Deep.Slices
import Derived.Maps.AppendAt

set_option linter.unusedVariables false
namespace Go.Proofs.YtiecpebckmihgaaGreat
open Go.RowKit

section
open Go.ChangeShapes Go.WideShapes Go.Deep
end

end Go.Proofs.YtiecpebckmihgaaGreat

set_option linter.unusedVariables false
namespace Go.Proofs.YtiecpebckmihgaaGreat
open Go.RowKit

def yv (bs : List Int) : List Value := bs.map (Value.int .u8)
@[simp] theorem yv_length (bs : List Int) : (yv bs).length = bs.length := by simp [yv]
abbrev Byts (w : World) (A : Option Addr) (bs : List Int) : Prop := Cs w A (yv bs)
theorem Byts.open {w : World} {A : Option Addr} {bs : List Int} (h : Byts w A bs) (h0 : 0 < bs.length) : ∃ b off, A = some ⟨b, off, none⟩ ∧ ∀ i (h : i < bs.length), w.cell? ⟨b, off + i, none⟩ = some (.int .u8 bs[i]) := by
  obtain ⟨b, off, hA, hc⟩ := Cs.open h (by simpa using h0)
  exact ⟨b, off, hA, fun i hi => by rw [hc i (by simpa using hi)]; simp [yv]⟩
theorem cs_at {w : World} {ad : Addr} {xs : List Value} (h : Cs w (some ad) xs) : ∀ j u, xs[j]? = some u → w.cell? (ad.add j) = some u := fun j u hj => by
  obtain ⟨hl, e⟩ := List.getElem?_eq_some_iff.1 hj
  obtain ⟨b, off, hA, hc⟩ := Cs.open h (by omega)
  obtain rfl := Option.some.inj hA
  have := hc j hl
  rw [e] at this
  rw [← this]
  unfold Addr.add; split
  · rename_i h0; subst h0; rfl
  · rfl

theorem Cs.take {w : World} {A : Option Addr} {xs : List Value} (m : Nat) (h : Cs w A xs) : Cs w A (xs.take m) := by
  rcases h with rfl | ⟨b, off, rfl, hc⟩
  · exact .inl (by simp)
  · exact .inr ⟨b, off, rfl, fun i hi => by
      have hi' : i < xs.length := by have := List.length_take_le' m xs; omega
      rw [List.getElem_take]; exact hc i hi'⟩
theorem Cs.drop {w : World} {A : Option Addr} {xs : List Value} (m : Nat) (h : Cs w A xs) : Cs w (A.map (fun x => x.add m)) (xs.drop m) := by
  rcases h with rfl | ⟨b, off, rfl, hc⟩
  · exact .inl (by simp)
  · refine .inr ⟨b, off + m, ?_, fun i hi => ?_⟩
    · simp only [Option.map, Addr.add]; split
      · rename_i h0; rw [h0]; rfl
      · rfl
    · have hi' : m + i < xs.length := by rw [List.length_drop] at hi; omega
      rw [List.getElem_drop, Nat.add_assoc]; exact hc (m + i) hi'
theorem Byts.take {w : World} {A : Option Addr} {bs : List Int} (m : Nat) (h : Byts w A bs) : Byts w A (bs.take m) := by
  have := Cs.take m h; rw [yv, ← List.map_take] at this; exact this
theorem Byts.drop {w : World} {A : Option Addr} {bs : List Int} (m : Nat) (h : Byts w A bs) : Byts w (A.map (fun x => x.add m)) (bs.drop m) := by
  have := Cs.drop m h; rw [yv, ← List.map_drop] at this; exact this
def nums (s : ByteArray) : List Int := s.data.toList.map fun b => (b.toNat : Int)
@[simp] theorem nums_length (s : ByteArray) : (nums s).length = s.size := by rw [nums, List.length_map, Array.length_toList]; rfl
end Go.Proofs.YtiecpebckmihgaaGreat

set_option linter.unusedVariables false
namespace Go.Proofs.YtiecpebckmihgaaGreat
open Go.RowKit

end Go.Proofs.YtiecpebckmihgaaGreat

set_option linter.unusedVariables false
namespace Go.Proofs.YtiecpebckmihgaaGreat
open Go.RowKit

def Fresh (B : Nat) (w : World) (A : Option Addr) (e : TypeId) (xs : List Value) : Prop := xs = [] ∨ ∃ b cur, A = some ⟨b, 0, none⟩ ∧ B ≤ b ∧ blk w b cur e ∧ ∀ i (h : i < xs.length), cur[i]? = some xs[i]
theorem Fresh.cs {B : Nat} {w : World} {A : Option Addr} {e : TypeId} {xs : List Value} (h : Fresh B w A e xs) : Cs w A xs := by
  rcases h with h | ⟨b, cur, rfl, _, k, hc⟩
  · exact .inl h
  · exact Cs.of_blk k hc
theorem wpList_app0 {P : Program} {w : World} {ops : Array Oper} {rest : List Oper} {o : Oper} {a : Act} {Q : Exit → Act → World → Prop} (hg : o.guard = none) (s x : Operand) (t : TypeId)
    (ho : o.op = .call { callee := .builtin .append, args := #[s, x], argTypes := #[t, t] })
    (e : TypeId) (i : TypeInfo) (z : Value) (sz bytes : Nat) (ht : P.underlying t = some (.slice e)) (hi : P.info? e = some i) (hz : i.zero = some z) (hsize : i.size = sz) (hby : i.bytes = bytes) (hzs : z.cells.size = sz) (hsz : 0 < sz)
    (ab : Addr) (hs : a.eval s = .slice (some ab) 0 0) (X : Option Addr) (m c : Nat) (news : List Value) (hx : a.eval x = .slice X m c) (hnil : X = none → c = 0) (hmc : m ≤ c) (hl : news.length = m * sz) (hcs : Cs w X news)
    (h63 : m ≤ maxLen) (hbytes : m * bytes ≤ 140737488355328)
    (h : ∀ A' cap' w', m ≤ cap' → cap' ≤ maxLen → (A' = none → cap' = 0) → Fresh w.heap.size w' A' e news → Below w.heap.size w w' → wpList P ops Q rest (a.put o.dst (.slice A' m cap')) w') : wpList P ops Q (o :: rest) a w := by
  refine wpList_plain hg fun K hK' => ?_
  rcases Nat.eq_zero_or_pos m with h0 | h0
  · subst h0
    have hn : news = [] := List.eq_nil_of_length_eq_zero (by omega)
    subst hn
    have hsrc : Src P i.size t (.slice X 0 c) 0 [] w := by
      cases X with
      | none => exact Src.ofNil w ht c
      | some ad => exact Src.ofSlice w ht ad 0 c [] (by simp) (fun j u hj => by simp at hj) (fun u hu => by cases hu)
    have hrun := run_append_nothing (P := P) w t t o.type e i ht hi (some ab) 0 0 (Nat.le_refl _) (.slice X 0 c) hsrc
    unfold Oper.wp
    simp [execOp, ho, resolve, invoke, builtin, hs, hx, hrun, Result.andThen]
    exact hK' _ _ (h (some ab) 0 w (Nat.le_refl _) (by decide) (fun h => by cases h) (.inl rfl) (Below.refl _ _))
  · cases X with
    | none => have := hnil rfl; omega
    | some ad =>
      have hfit : Builtin.nextslicecap (0 + m) 0 * i.bytes ≤ 281474976710656 := by rw [hby]; exact growslice_fits (by omega) (by rw [Nat.zero_add]; exact hbytes)
      have hml : maxLen ≤ 9223372036854775807 := by decide
      have hrun := run_append_grow (P := P) (w := w) t o.type e i z ht hi hz ab 0 0 [] (by simp) (fun j u hj => by simp at hj) ad m c news (by rw [hsize]; exact hl) (cs_at hcs) (by omega) (by omega) hfit
      rw [Nat.zero_add] at hrun
      have hge := grownCap_ge w m 0 e
      unfold Oper.wp
      simp [execOp, ho, resolve, invoke, builtin, hs, hx, hrun, Result.andThen]
      refine hK' _ _ (h (some ⟨w.heap.size, 0, none⟩) _ _ hge (grownCap_le_maxLen w m 0 e h63) (fun h => by cases h) ?_ (Below.alloc (Below.drew (Below.refl _ _)) (Nat.le_refl _) _))
      refine .inr ⟨w.heap.size, _, rfl, Nat.le_refl _, blk_new w.drew _ e, fun j hj => ?_⟩
      simp [Array.getElem?_append, hj]

def Sm (b : Nat) (W W' : World) : Prop := W'.heap.size = W.heap.size ∧ W'.heap[b]? = W.heap[b]?
theorem sm_refl (b : Nat) (W : World) : Sm b W W := ⟨rfl, rfl⟩
theorem sm_gw {b : Nat} {W W' : World} {q : Gw} (h : Sm b W W') : Sm b (gw W q) (gw W' q) := by
  obtain ⟨h1, h2⟩ := h
  refine ⟨by simp [gw, h1], ?_⟩
  simp only [gw, Array.getElem?_append, h1, h2]
theorem sm_set {b c i : Nat} {v : Value} {W W' : World} (h : Sm b W W') (hn : b ≠ c) : Sm b W (W'.setCell ⟨c, i, none⟩ v) :=
  ⟨by rw [← h.1]; simp, by rw [← h.2]; exact Below.heap_setCell _ _ _ _ hn⟩
theorem sm_alloc {b : Nat} {w : World} {o o' : Obj} (hn : b ≠ w.heap.size) : Sm b (w.alloc o) (w.alloc o') :=
  ⟨by simp, by show (w.heap.push o')[b]? = (w.heap.push o)[b]?; rw [Array.getElem?_push, Array.getElem?_push, if_neg hn, if_neg hn]⟩
theorem blk_sm {b : Nat} {W W' : World} {c : Array Value} {t : TypeId} (h : Sm b W W') (k : blk W b c t) : blk W' b c t := h.2.trans k

theorem pts_sm {b off : Nat} {W W' : World} {ps : List (Int × Int)} (h : Sm b W W') (k : Pts W (some ⟨b, off, none⟩) ps) : Pts W' (some ⟨b, off, none⟩) ps := by
  rcases k with k | ⟨b', off', e, hc⟩
  · exact .inl k
  · cases e
    have e : ∀ i, W'.cell? ⟨b, i, none⟩ = W.cell? ⟨b, i, none⟩ := fun i => by unfold World.cell?; rw [h.2]
    exact .inr ⟨b, off, rfl, fun i hi => by rw [e, e]; exact hc i hi⟩

end Go.Proofs.YtiecpebckmihgaaGreat

set_option linter.unusedVariables false
namespace Go.Proofs.YtiecpebckmihgaaGreat
open Go.RowKit

def Els {F : Type} (w : World) (n : Nat) (Q : List Value → F → Prop) (A : Option Addr) (fs : List F) : Prop :=
  fs = [] ∨ ∃ b off, A = some ⟨b, off, none⟩ ∧ ∀ i (h : i < fs.length), ∃ cs : List Value, cs.length = n ∧ (∀ j, j < n → w.cell? ⟨b, off + i * n + j, none⟩ = cs[j]?) ∧ Q cs fs[i]

section
open Go.ChangeShapes Go.WideShapes Go.Deep
variable {H : Type} {enc : TypeId × Value → H} {P : Program} {w : World} {base : Nat} {spare : Nat → Bool} {held : Bool}
theorem len_2 {α : Type} {l : List α} (h : l.length = 2) : ∃ a b, l = [a, b] := by
  match l, h with
  | [a, b], _ => exact ⟨a, b, rfl⟩
end

theorem Els.to {F : Type} {w w' : World} {n : Nat} {Q Q' : List Value → F → Prop} {A : Option Addr} {fs : List F} (h : Els w n Q A fs) (hn : 0 < n) (hQ : ∀ cs f, Q cs f → Q' cs f) (hb : Below w.heap.size w w') : Els w' n Q' A fs := by
  rcases h with h | ⟨b, off, hA, hc⟩
  · exact .inl h
  · refine .inr ⟨b, off, hA, fun i hi => ?_⟩
    obtain ⟨cs, k1, k2, k3⟩ := hc i hi
    have k4 := k2 0 hn
    rw [List.getElem?_eq_getElem (by omega)] at k4
    have hlt := World.block_lt_of_cell? w ⟨b, off + i * n + 0, none⟩ k4
    exact ⟨cs, k1, fun j hj => (hb.cell (p := ⟨b, off + i * n + j, none⟩) hlt).trans (k2 j hj), hQ _ _ k3⟩

end Go.Proofs.YtiecpebckmihgaaGreat

set_option linter.unusedVariables false
namespace Go.Proofs.YtiecpebckmihgaaGreat
open Go.RowKit

theorem wpList_appM {P : Program} {w : World} {ops : Array Oper} {rest : List Oper} {o : Oper} {a : Act} {Q : Exit → Act → World → Prop} (hg : o.guard = none) (s x : Operand) (t : TypeId)
    (ho : o.op = .call { callee := .builtin .append, args := #[s, x], argTypes := #[t, t] })
    (B : Nat) (e : TypeId) (i : TypeInfo) (z : Value) (sz bytes : Nat) (ht : P.underlying t = some (.slice e)) (hi : P.info? e = some i) (hz : i.zero = some z) (hsize : i.size = sz) (hby : i.bytes = bytes) (hzs : z.cells.size = sz) (hsz : 0 < sz)
    (v : Value) (n : Nat) (xs : List Value) (hs : a.eval s = v) (hown : w.ownsRow B e sz v n xs) (b : Nat) (ys : List Value) (te : TypeId) (hx : a.eval x = .slice (some ⟨b, 0, none⟩) 1 1) (hyl : ys.length = sz) (hy : blk w b ys.toArray te) (h1 : ∀ u ∈ ys, u.oneCell' = true)
    (h63 : n + 1 ≤ maxLen) (hbytes : (n + 1) * bytes ≤ 140737488355328) (hB : B ≤ w.heap.size)
    (h : ∀ v' w', w'.ownsRow B e sz v' (n + 1) (xs ++ ys) → Below B w w' → wpList P ops Q rest (a.put o.dst v') w') : wpList P ops Q (o :: rest) a w := by
  refine wpList_append_own_at w hg s x t ho B e i z sz bytes ht hi hz hsize hby hzs hsz v n xs hs hown ⟨b, 0, none⟩ 1 1 ys hx (by omega) (fun j u hj => ?_) h1 h63 hbytes hB (fun v' w' h2 h3 _ _ => h v' w' h2 ?_)
  · have hlt := (List.getElem?_eq_some_iff.1 hj).1
    have e : Addr.add ⟨b, 0, none⟩ j = ⟨b, j, none⟩ := by
      unfold Addr.add; split
      · rename_i h0; rw [h0]
      · simp
    rw [e, blk_cell hy]; simpa using hj
  · refine ⟨h3.os, h3.tape, h3.output, h3.size, fun k hk => h3.block k (by omega) fun hk' => ?_⟩
    obtain ⟨_, ⟨rfl, _⟩ | ⟨g, cap, cur, rfl, hBg, _⟩⟩ := hown
    · simp [Value.ownBlock] at hk'
    · simp [Value.ownBlock] at hk'; omega

theorem flat_get {F : Type} {c : F → List Value} {sz : Nat} (hc : ∀ f, (c f).length = sz) : ∀ (l : List F) (i : Nat) (h : i < l.length) (j : Nat), j < sz → (l.flatMap c)[i * sz + j]? = (c l[i])[j]?
  | [], i, h, _, _ => by simp at h
  | f :: l, 0, h, j, hj => by
    rw [List.flatMap_cons, Nat.zero_mul, Nat.zero_add, List.getElem?_append_left (by rw [hc]; exact hj)]; rfl
  | f :: l, i + 1, h, j, hj => by
    rw [List.flatMap_cons, List.getElem?_append_right (by rw [hc, Nat.succ_mul]; omega), hc, show (i + 1) * sz + j - sz = i * sz + j from by rw [Nat.succ_mul]; omega]
    exact flat_get hc l i (by simpa using h) j hj
theorem flat_len {F : Type} {c : F → List Value} {sz : Nat} (hc : ∀ f, (c f).length = sz) (l : List F) : (l.flatMap c).length = l.length * sz := by
  induction l with
  | nil => simp
  | cons f l ih => rw [List.flatMap_cons, List.length_append, hc, ih, List.length_cons, Nat.succ_mul, Nat.add_comm]

theorem owns_els {F : Type} {c : F → List Value} {sz : Nat} (hc : ∀ f, (c f).length = sz) (hs : 0 < sz) {w : World} {B : Nat} {e : TypeId} {v : Value} {n : Nat} {l : List F} (h : w.ownsRow B e sz v n (l.flatMap c)) :
    ∃ A cap, v = .slice A l.length cap ∧ n = l.length ∧ l.length ≤ cap ∧ cap ≤ maxLen ∧ Els w sz (fun cs f => cs = c f) A l ∧ (A = none → cap = 0) := by
  have hn : n = l.length := by
    obtain ⟨hl, _⟩ := h
    rw [flat_len hc] at hl
    exact Nat.eq_of_mul_eq_mul_right hs hl.symm
  subst hn
  obtain ⟨hl, ⟨rfl, h0⟩ | ⟨g, cap, cur, rfl, hb, hh, hn, hm, hcz, ht⟩⟩ := h
  · have : l = [] := List.eq_nil_of_length_eq_zero h0
    subst this
    exact ⟨none, 0, rfl, rfl, Nat.le_refl _, by decide, .inl rfl, fun _ => rfl⟩
  · refine ⟨_, cap, rfl, rfl, hn, hm, ?_, fun h => by cases h⟩
    refine .inr ⟨g, 0, rfl, fun i hi => ⟨c l[i], hc _, fun j hj => ?_, rfl⟩⟩
    have hk : blk w g cur e := hh
    rw [Nat.zero_add, blk_cell hk, ← flat_get hc l i hi j hj, ← ht, List.getElem?_take]
    have : i * sz + j < l.length * sz := by
      have : (i + 1) * sz ≤ l.length * sz := Nat.mul_le_mul_right _ hi
      rw [Nat.succ_mul] at this; omega
    rw [if_pos this]; simp

end Go.Proofs.YtiecpebckmihgaaGreat

/- Slices of numbers among a statement's arguments. No program is imported.
Slices of bytes and strings in memory; append from whatever slice. No program is imported.
Slices of points: append of a slice of points to an own row; their parts. No program is imported.
append(literal of no element, xs...): a new row or nothing. And append as one of the calls of a drawn region. No program is imported.
Slices of structs among a statement's arguments, however deep: their elements' cells, and what each element's cells say. No program is imported.
append of one struct to an own row, and such a row as elements. No program is imported. -/
import Derived.Test.YtdmcdicphohlfaaGreatKi1
import Derived.ChangeSlices
import Derived.Deep.SlicePairs
import Derived.Laws.AppendOwnNone
import Derived.Laws.BytesArg
import Derived.Deep.AppendSrc
import Derived.Lib.AppendStr
import Derived.Deep.Upon
import Derived.Test.YtdmcdicphohlfaaGreatKi2
import Derived.Deep.Slices
import Derived.Maps.AppendAt

set_option linter.unusedVariables false
namespace Go.Proofs.YtdmcdicphohlfaaGreat
open Go.RowKit

section
open Go.ChangeShapes Go.WideShapes Go.Deep
end

end Go.Proofs.YtdmcdicphohlfaaGreat

set_option linter.unusedVariables false
namespace Go.Proofs.YtdmcdicphohlfaaGreat
open Go.RowKit

def yv (bs : List Int) : List Value := bs.map (Value.int .u8)
@[simp] theorem yv_length (bs : List Int) : (yv bs).length = bs.length := by simp [yv]
abbrev Byts (w : World) (A : Option Addr) (bs : List Int) : Prop := Cs w A (yv bs)
theorem Byts.open {w : World} {A : Option Addr} {bs : List Int} (h : Byts w A bs) (h0 : 0 < bs.length) : ∃ b off, A = some ⟨b, off, none⟩ ∧ ∀ i (h : i < bs.length), w.cell? ⟨b, off + i, none⟩ = some (.int .u8 bs[i]) := by
  obtain ⟨b, off, hA, hc⟩ := Cs.open h (by simpa using h0)
  exact ⟨b, off, hA, fun i hi => by rw [hc i (by simpa using hi)]; simp [yv]⟩
theorem Cs.take {w : World} {A : Option Addr} {xs : List Value} (m : Nat) (h : Cs w A xs) : Cs w A (xs.take m) := by
  rcases h with rfl | ⟨b, off, rfl, hc⟩
  · exact .inl (by simp)
  · exact .inr ⟨b, off, rfl, fun i hi => by
      have hi' : i < xs.length := by have := List.length_take_le' m xs; omega
      rw [List.getElem_take]; exact hc i hi'⟩
theorem Cs.drop {w : World} {A : Option Addr} {xs : List Value} (m : Nat) (h : Cs w A xs) : Cs w (A.map (fun x => x.add m)) (xs.drop m) := by
  rcases h with rfl | ⟨b, off, rfl, hc⟩
  · exact .inl (by simp)
  · refine .inr ⟨b, off + m, ?_, fun i hi => ?_⟩
    · simp only [Option.map, Addr.add]; split
      · rename_i h0; rw [h0]; rfl
      · rfl
    · have hi' : m + i < xs.length := by rw [List.length_drop] at hi; omega
      rw [List.getElem_drop, Nat.add_assoc]; exact hc (m + i) hi'
theorem Byts.take {w : World} {A : Option Addr} {bs : List Int} (m : Nat) (h : Byts w A bs) : Byts w A (bs.take m) := by
  have := Cs.take m h; rw [yv, ← List.map_take] at this; exact this
theorem Byts.drop {w : World} {A : Option Addr} {bs : List Int} (m : Nat) (h : Byts w A bs) : Byts w (A.map (fun x => x.add m)) (bs.drop m) := by
  have := Cs.drop m h; rw [yv, ← List.map_drop] at this; exact this
def nums (s : ByteArray) : List Int := s.data.toList.map fun b => (b.toNat : Int)
@[simp] theorem nums_length (s : ByteArray) : (nums s).length = s.size := by rw [nums, List.length_map, Array.length_toList]; rfl
end Go.Proofs.YtdmcdicphohlfaaGreat

set_option linter.unusedVariables false
namespace Go.Proofs.YtdmcdicphohlfaaGreat
open Go.RowKit

theorem pv_one : ∀ (qs : List (Int × Int)) (u : Value), u ∈ pv qs → u.oneCell' = true
  | [], u, h => by simp [pv] at h
  | p :: qs, u, h => by
    simp only [pv, List.mem_cons] at h
    rcases h with rfl | rfl | h
    · rfl
    · rfl
    · exact pv_one qs u h
theorem pts_news {w : World} {ad : Addr} {qs : List (Int × Int)} (h : Pts w (some ad) qs) : ∀ j u, (pv qs)[j]? = some u → w.cell? (ad.add j) = some u := fun j u hj => by
  obtain ⟨hl, e⟩ := List.getElem?_eq_some_iff.1 hj
  rw [pv_length] at hl
  obtain ⟨b, off, hA, hc⟩ := Pts.open h (by omega)
  obtain rfl := Option.some.inj hA
  have e3 : (⟨b, off, none⟩ : Addr).add j = ⟨b, off + j, none⟩ := by
    simp only [Addr.add]; split
    · rename_i h0; rw [h0]; rfl
    · rfl
  rw [e3]
  obtain ⟨g1, g2⟩ := pv_get qs (j / 2) (by omega)
  obtain ⟨c1, c2⟩ := hc (j / 2) (by omega)
  rcases Nat.mod_two_eq_zero_or_one j with hm | hm
  · have e2 : j / 2 * 2 = j := by omega
    rw [e2] at g1 c1
    rw [g1] at hj
    cases hj
    exact c1
  · have e2 : j / 2 * 2 + 1 = j := by omega
    rw [e2] at g2
    rw [Nat.add_assoc, e2] at c2
    rw [g2] at hj
    cases hj
    exact c2
theorem wpList_appQ {P : Program} {w : World} {ops : Array Oper} {rest : List Oper} {o : Oper} {a : Act} {Q : Exit → Act → World → Prop} (hg : o.guard = none) (s x : Operand) (t : TypeId)
    (ho : o.op = .call { callee := .builtin .append, args := #[s, x], argTypes := #[t, t] })
    (B : Nat) (e : TypeId) (i : TypeInfo) (z : Value) (bytes : Nat) (ht : P.underlying t = some (.slice e)) (hi : P.info? e = some i) (hz : i.zero = some z) (hsize : i.size = 2) (hby : i.bytes = bytes) (hzs : z.cells.size = 2)
    (v : Value) (n : Nat) (xs : List Value) (hs : a.eval s = v) (hown : w.ownsRow B e 2 v n xs) (X : Option Addr) (m c : Nat) (qs : List (Int × Int)) (hx : a.eval x = .slice X m c) (hnil : X = none → c = 0) (hl : qs.length = m) (hps : Pts w X qs)
    (h63 : n + m ≤ maxLen) (hbytes : (n + m) * bytes ≤ 140737488355328) (hB : B ≤ w.heap.size)
    (h : ∀ v' w', w'.ownsRow B e 2 v' (n + m) (xs ++ pv qs) → Below B w w' → wpList P ops Q rest (a.put o.dst v') w') : wpList P ops Q (o :: rest) a w := by
  cases X with
  | none =>
    obtain rfl := hnil rfl
    have hn : qs = [] := by
      rcases hps with h | ⟨b, off, hA, _⟩
      · exact h
      · cases hA
    subst hn
    simp at hl; subst hl
    refine wpList_plain hg fun K hK' => ?_
    have hrun := run_append_owned_none (P := P) w B t o.type e i 2 ht hi v n xs hown
    unfold Oper.wp
    simp [execOp, ho, resolve, invoke, builtin, hs, hx, hrun, Result.andThen]
    exact hK' _ _ (h v w (by simpa [pv] using hown) (Below.refl _ _))
  | some ad =>
    refine wpList_append_own w hg s x t ho B e i z 2 bytes ht hi hz hsize hby hzs (by decide) v n xs hs hown ad m c (pv qs) hx (by rw [pv_length, hl]) (pts_news hps) (pv_one qs) h63 hbytes hB (fun v' w' h2 h3 _ => h v' w' h2 ?_)
    refine ⟨h3.os, h3.tape, h3.output, h3.size, fun k hk => h3.block k (by omega) fun hk' => ?_⟩
    obtain ⟨_, ⟨rfl, _⟩ | ⟨g, cap, cur, rfl, hBg, _⟩⟩ := hown
    · simp [Value.ownBlock] at hk'
    · simp [Value.ownBlock] at hk'; omega
end Go.Proofs.YtdmcdicphohlfaaGreat

set_option linter.unusedVariables false
namespace Go.Proofs.YtdmcdicphohlfaaGreat
open Go.RowKit

def Fresh (B : Nat) (w : World) (A : Option Addr) (e : TypeId) (xs : List Value) : Prop := xs = [] ∨ ∃ b cur, A = some ⟨b, 0, none⟩ ∧ B ≤ b ∧ blk w b cur e ∧ ∀ i (h : i < xs.length), cur[i]? = some xs[i]
theorem Fresh.cs {B : Nat} {w : World} {A : Option Addr} {e : TypeId} {xs : List Value} (h : Fresh B w A e xs) : Cs w A xs := by
  rcases h with h | ⟨b, cur, rfl, _, k, hc⟩
  · exact .inl h
  · exact Cs.of_blk k hc
def Sm (b : Nat) (W W' : World) : Prop := W'.heap.size = W.heap.size ∧ W'.heap[b]? = W.heap[b]?
theorem sm_refl (b : Nat) (W : World) : Sm b W W := ⟨rfl, rfl⟩
theorem sm_gw {b : Nat} {W W' : World} {q : Gw} (h : Sm b W W') : Sm b (gw W q) (gw W' q) := by
  obtain ⟨h1, h2⟩ := h
  refine ⟨by simp [gw, h1], ?_⟩
  simp only [gw, Array.getElem?_append, h1, h2]
theorem sm_set {b c i : Nat} {v : Value} {W W' : World} (h : Sm b W W') (hn : b ≠ c) : Sm b W (W'.setCell ⟨c, i, none⟩ v) :=
  ⟨by rw [← h.1]; simp, by rw [← h.2]; exact Below.heap_setCell _ _ _ _ hn⟩
theorem blk_sm {b : Nat} {W W' : World} {c : Array Value} {t : TypeId} (h : Sm b W W') (k : blk W b c t) : blk W' b c t := h.2.trans k

end Go.Proofs.YtdmcdicphohlfaaGreat

set_option linter.unusedVariables false
namespace Go.Proofs.YtdmcdicphohlfaaGreat
open Go.RowKit

def Els {F : Type} (w : World) (n : Nat) (Q : List Value → F → Prop) (A : Option Addr) (fs : List F) : Prop :=
  fs = [] ∨ ∃ b off, A = some ⟨b, off, none⟩ ∧ ∀ i (h : i < fs.length), ∃ cs : List Value, cs.length = n ∧ (∀ j, j < n → w.cell? ⟨b, off + i * n + j, none⟩ = cs[j]?) ∧ Q cs fs[i]

theorem list_choice {F : Type} {R : Nat → F → Prop} : ∀ n, (∀ i, i < n → ∃ f, R i f) → ∃ fs : List F, fs.length = n ∧ ∀ i (h : i < fs.length), R i fs[i]
  | 0, _ => ⟨[], rfl, fun i h => by simp at h⟩
  | n + 1, h => by
    obtain ⟨fs, hl, hf⟩ := list_choice n fun i hi => h i (by omega)
    obtain ⟨f, hr⟩ := h n (by omega)
    refine ⟨fs ++ [f], by simp [hl], fun i hi => ?_⟩
    rw [List.length_append, List.length_singleton] at hi
    by_cases c : i < fs.length
    · rw [List.getElem_append_left c]; exact hf i c
    · have e : i = fs.length := by omega
      subst e
      rw [List.getElem_append_right (by omega)]
      simp only [Nat.sub_self, List.getElem_singleton]
      rw [hl]; exact hr

section
open Go.ChangeShapes Go.WideShapes Go.Deep
variable {H : Type} {enc : TypeId × Value → H} {P : Program} {w : World} {base : Nat} {spare : Nat → Bool} {held : Bool}
theorem rd_els {F : Type} {t e : TypeId} {fuel : Nat} {cs : List Value} {x : DataW H × List MemPlace} (n : Nat) (Q : List Value → F → Prop) (ht : P.underlying t = some (.slice e)) (hn : P.cellsOf e = n) (h1 : 0 < n)
    (hQ : ∀ m ci y, DataW.trod enc P w base spare held m e ci = some y → ∃ f, Q ci f) (h : DataW.trod enc P w base spare held fuel t cs = some x) :
    ∃ (A : Option Addr) (cap : Nat) (fs : List F), cs = [.slice A fs.length cap] ∧ fs.length ≤ cap ∧ cap ≤ maxLen ∧ Els w n Q A fs ∧ (A = none → cap = 0) := by
  rcases open_slice ht h with ⟨rfl, _⟩ | ⟨a, len, cap, m, n', D, Pl, rfl, hb, hl, hm, hmm, _, hx⟩
  · exact ⟨none, 0, [], rfl, Nat.le_refl _, by decide, .inl rfl, fun _ => rfl⟩
  rw [hn] at hx
  have hlm : len ≤ m := by rw [hmm]; split <;> omega
  obtain ⟨fs, hfl, hf⟩ := list_choice (R := fun i f => ∃ ci : List Value, ci.length = n ∧ (∀ j, j < n → w.cell? ((a.add (i * n)).add j) = ci[j]?) ∧ Q ci f) len fun i hi => by
    obtain ⟨ci, g1, g2⟩ := hx i (by omega)
    obtain ⟨_, g3, g4⟩ := World.cells?_some g1
    obtain ⟨f, hf⟩ := hQ _ _ _ g2
    exact ⟨f, ci, g3, g4, hf⟩
  refine ⟨some a, cap, fs, by rw [hfl], by omega, hm, ?_, fun h => by cases h⟩
  rcases Nat.eq_zero_or_pos fs.length with h0 | h0
  · exact .inl (List.eq_nil_of_length_eq_zero h0)
  obtain ⟨b, off, spot⟩ := a
  have hspot : spot = none := by
    obtain ⟨ci, k1, k2, _⟩ := hf 0 h0
    have k3 := k2 0 h1
    rw [Nat.zero_mul] at k3
    have e : (Addr.add (Addr.add ⟨b, off, spot⟩ 0) 0) = ⟨b, off, spot⟩ := rfl
    rw [e, List.getElem?_eq_getElem (by omega)] at k3
    unfold World.cell? at k3
    split at k3
    · split at k3
      · cases k3
      · rename_i hs; simpa using hs
    · cases k3
  subst hspot
  refine .inr ⟨b, off, rfl, fun i hi => ?_⟩
  obtain ⟨ci, k1, k2, k3⟩ := hf i hi
  refine ⟨ci, k1, fun j hj => ?_, k3⟩
  rw [← k2 j hj]
  have e : ∀ (o k : Nat), Addr.add ⟨b, o, none⟩ k = ⟨b, o + k, none⟩ := fun o k => by
    unfold Addr.add; split
    · rename_i hk; rw [hk]; rfl
    · rfl
  rw [e, e]

theorem len_2 {α : Type} {l : List α} (h : l.length = 2) : ∃ a b, l = [a, b] := by
  match l, h with
  | [a, b], _ => exact ⟨a, b, rfl⟩
theorem rd_pts {t e : TypeId} {f0 f1 : Field} {fuel : Nat} {cs : List Value} {x : DataW H × List MemPlace} (ht : P.underlying t = some (.slice e)) (he : P.underlying e = some (.struct #[f0, f1])) (ce : P.cellsOf e = 2) (o0 : f0.offset = 0) (o1 : f1.offset = 1) (c0 : P.cellsOf f0.type = 1) (c1 : P.cellsOf f1.type = 1)
    (i0 : P.underlying f0.type = some (.int .i64)) (i1 : P.underlying f1.type = some (.int .i64)) (h : DataW.trod enc P w base spare held fuel t cs = some x) :
    ∃ (A : Option Addr) (cap : Nat) (ps : List (Int × Int)), cs = [.slice A ps.length cap] ∧ ps.length ≤ cap ∧ cap ≤ maxLen ∧ Pts w A ps ∧ (A = none → cap = 0) := by
  obtain ⟨A, cap, ps, rfl, h1, h2, h3, h4⟩ := rd_els 2 (fun ci (p : Int × Int) => ci = [.int .i64 p.1, .int .i64 p.2]) ht ce (by decide) (fun m ci y hy => by
    obtain ⟨xs, n, _, _, hl, _, hf⟩ := DataW.trod_struct he hy
    rw [ce] at hl
    obtain ⟨a, b, rfl⟩ := len_2 hl
    have g0 := hf 0 f0 rfl
    have g1 := hf 1 f1 rfl
    rw [o0, c0] at g0
    rw [o1, c1] at g1
    have hx : xs.length = 2 := by assumption
    obtain ⟨z0, z1, rfl⟩ := len_2 hx
    obtain ⟨u, e0, _⟩ := DataW.trod_int i0 g0
    obtain ⟨v, e1, _⟩ := DataW.trod_int i1 g1
    simp at e0 e1
    exact ⟨(u, v), by rw [e0, e1]⟩) h
  refine ⟨A, cap, ps, rfl, h1, h2, ?_, h4⟩
  rcases h3 with h3 | ⟨b, off, rfl, hc⟩
  · exact .inl h3
  · refine .inr ⟨b, off, rfl, fun i hi => ?_⟩
    obtain ⟨ci, _, k, rfl⟩ := hc i hi
    exact ⟨k 0 (by decide), k 1 (by decide)⟩

theorem rd_struct {t : TypeId} {fs : Array Field} {fuel : Nat} {cs : List Value} {x : DataW H × List MemPlace} (ht : P.underlying t = some (.struct fs)) (h : DataW.trod enc P w base spare held fuel t cs = some x) :
    cs.length = P.cellsOf t ∧ ∀ (i : Nat) (f : Field), fs[i]? = some f → ∃ n y, DataW.trod enc P w base spare held n f.type ((cs.drop f.offset).take (P.cellsOf f.type)) = some y := by
  obtain ⟨xs, n, _, _, hl, hx, hf⟩ := DataW.trod_struct ht h
  refine ⟨hl, fun i f hi => ?_⟩
  have hlt := (Array.getElem?_eq_some_iff.1 hi).1
  exact ⟨n, xs[i]'(by omega), by rw [hf i f hi, List.getElem?_eq_getElem (by omega)]⟩
theorem rd_int {t : TypeId} {k : IntKind} {fuel : Nat} {cs : List Value} {x : DataW H × List MemPlace} (ht : P.underlying t = some (.int k)) (h : DataW.trod enc P w base spare held fuel t cs = some x) : ∃ n, cs = [.int k n] := by
  obtain ⟨n, e, _⟩ := DataW.trod_int ht h; exact ⟨n, e⟩
theorem rd_bool {t : TypeId} {fuel : Nat} {cs : List Value} {x : DataW H × List MemPlace} (ht : P.underlying t = some .bool) (h : DataW.trod enc P w base spare held fuel t cs = some x) : ∃ b, cs = [.bool b] := by
  obtain ⟨n, e, _⟩ := DataW.trod_bool ht h; exact ⟨n, e⟩
end

theorem Els.to {F : Type} {w w' : World} {n : Nat} {Q Q' : List Value → F → Prop} {A : Option Addr} {fs : List F} (h : Els w n Q A fs) (hn : 0 < n) (hQ : ∀ cs f, Q cs f → Q' cs f) (hb : Below w.heap.size w w') : Els w' n Q' A fs := by
  rcases h with h | ⟨b, off, hA, hc⟩
  · exact .inl h
  · refine .inr ⟨b, off, hA, fun i hi => ?_⟩
    obtain ⟨cs, k1, k2, k3⟩ := hc i hi
    have k4 := k2 0 hn
    rw [List.getElem?_eq_getElem (by omega)] at k4
    have hlt := World.block_lt_of_cell? w ⟨b, off + i * n + 0, none⟩ k4
    exact ⟨cs, k1, fun j hj => (hb.cell (p := ⟨b, off + i * n + j, none⟩) hlt).trans (k2 j hj), hQ _ _ k3⟩

end Go.Proofs.YtdmcdicphohlfaaGreat

set_option linter.unusedVariables false
namespace Go.Proofs.YtdmcdicphohlfaaGreat
open Go.RowKit

theorem wpList_appM {P : Program} {w : World} {ops : Array Oper} {rest : List Oper} {o : Oper} {a : Act} {Q : Exit → Act → World → Prop} (hg : o.guard = none) (s x : Operand) (t : TypeId)
    (ho : o.op = .call { callee := .builtin .append, args := #[s, x], argTypes := #[t, t] })
    (B : Nat) (e : TypeId) (i : TypeInfo) (z : Value) (sz bytes : Nat) (ht : P.underlying t = some (.slice e)) (hi : P.info? e = some i) (hz : i.zero = some z) (hsize : i.size = sz) (hby : i.bytes = bytes) (hzs : z.cells.size = sz) (hsz : 0 < sz)
    (v : Value) (n : Nat) (xs : List Value) (hs : a.eval s = v) (hown : w.ownsRow B e sz v n xs) (b : Nat) (ys : List Value) (te : TypeId) (hx : a.eval x = .slice (some ⟨b, 0, none⟩) 1 1) (hyl : ys.length = sz) (hy : blk w b ys.toArray te) (h1 : ∀ u ∈ ys, u.oneCell' = true)
    (h63 : n + 1 ≤ maxLen) (hbytes : (n + 1) * bytes ≤ 140737488355328) (hB : B ≤ w.heap.size)
    (h : ∀ v' w', w'.ownsRow B e sz v' (n + 1) (xs ++ ys) → Below B w w' → wpList P ops Q rest (a.put o.dst v') w') : wpList P ops Q (o :: rest) a w := by
  refine wpList_append_own_at w hg s x t ho B e i z sz bytes ht hi hz hsize hby hzs hsz v n xs hs hown ⟨b, 0, none⟩ 1 1 ys hx (by omega) (fun j u hj => ?_) h1 h63 hbytes hB (fun v' w' h2 h3 _ _ => h v' w' h2 ?_)
  · have hlt := (List.getElem?_eq_some_iff.1 hj).1
    have e : Addr.add ⟨b, 0, none⟩ j = ⟨b, j, none⟩ := by
      unfold Addr.add; split
      · rename_i h0; rw [h0]
      · simp
    rw [e, blk_cell hy]; simpa using hj
  · refine ⟨h3.os, h3.tape, h3.output, h3.size, fun k hk => h3.block k (by omega) fun hk' => ?_⟩
    obtain ⟨_, ⟨rfl, _⟩ | ⟨g, cap, cur, rfl, hBg, _⟩⟩ := hown
    · simp [Value.ownBlock] at hk'
    · simp [Value.ownBlock] at hk'; omega

theorem flat_get {F : Type} {c : F → List Value} {sz : Nat} (hc : ∀ f, (c f).length = sz) : ∀ (l : List F) (i : Nat) (h : i < l.length) (j : Nat), j < sz → (l.flatMap c)[i * sz + j]? = (c l[i])[j]?
  | [], i, h, _, _ => by simp at h
  | f :: l, 0, h, j, hj => by
    rw [List.flatMap_cons, Nat.zero_mul, Nat.zero_add, List.getElem?_append_left (by rw [hc]; exact hj)]; rfl
  | f :: l, i + 1, h, j, hj => by
    rw [List.flatMap_cons, List.getElem?_append_right (by rw [hc, Nat.succ_mul]; omega), hc, show (i + 1) * sz + j - sz = i * sz + j from by rw [Nat.succ_mul]; omega]
    exact flat_get hc l i (by simpa using h) j hj
theorem flat_len {F : Type} {c : F → List Value} {sz : Nat} (hc : ∀ f, (c f).length = sz) (l : List F) : (l.flatMap c).length = l.length * sz := by
  induction l with
  | nil => simp
  | cons f l ih => rw [List.flatMap_cons, List.length_append, hc, ih, List.length_cons, Nat.succ_mul, Nat.add_comm]

theorem owns_els {F : Type} {c : F → List Value} {sz : Nat} (hc : ∀ f, (c f).length = sz) (hs : 0 < sz) {w : World} {B : Nat} {e : TypeId} {v : Value} {n : Nat} {l : List F} (h : w.ownsRow B e sz v n (l.flatMap c)) :
    ∃ A cap, v = .slice A l.length cap ∧ n = l.length ∧ l.length ≤ cap ∧ cap ≤ maxLen ∧ Els w sz (fun cs f => cs = c f) A l ∧ (A = none → cap = 0) := by
  have hn : n = l.length := by
    obtain ⟨hl, _⟩ := h
    rw [flat_len hc] at hl
    exact Nat.eq_of_mul_eq_mul_right hs hl.symm
  subst hn
  obtain ⟨hl, ⟨rfl, h0⟩ | ⟨g, cap, cur, rfl, hb, hh, hn, hm, hcz, ht⟩⟩ := h
  · have : l = [] := List.eq_nil_of_length_eq_zero h0
    subst this
    exact ⟨none, 0, rfl, rfl, Nat.le_refl _, by decide, .inl rfl, fun _ => rfl⟩
  · refine ⟨_, cap, rfl, rfl, hn, hm, ?_, fun h => by cases h⟩
    refine .inr ⟨g, 0, rfl, fun i hi => ⟨c l[i], hc _, fun j hj => ?_, rfl⟩⟩
    have hk : blk w g cur e := hh
    rw [Nat.zero_add, blk_cell hk, ← flat_get hc l i hi j hj, ← ht, List.getElem?_take]
    have : i * sz + j < l.length * sz := by
      have : (i + 1) * sz ≤ l.length * sz := Nat.mul_le_mul_right _ hi
      rw [Nat.succ_mul] at this; omega
    rw [if_pos this]; simp

end Go.Proofs.YtdmcdicphohlfaaGreat

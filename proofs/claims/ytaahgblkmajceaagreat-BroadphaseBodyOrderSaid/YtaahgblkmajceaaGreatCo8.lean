/- Contracts of the reference of chapter 11, continued: nextCorner.
Contracts of the reference of chapter 11, continued: ends.
Own rows of points: a literal, one element appended, what lies beside it. Functions of the convex hull.
Contracts of the reference of chapter 11, continued: ConvexHull. -/
import Derived.Test.YtaahgblkmajceaaGreatCo7
import Derived.Maps.AppendAt
import Derived.OwnWalk

set_option linter.unusedVariables false
namespace Go.Proofs.YtaahgblkmajceaaGreat
open Go.RowKit Fx

def sideP (p q r : Pt) : Prop := 0 < dt p q r ∨ (dt p q r = 0 ∧ d2 p r ≤ d2 p q)
theorem nx_true {S : List Pt} {p q : Pt} : nxOK S p q = true ↔ q ≠ p ∧ ∀ j (h : j < S.length), sideP p q S[j] := by
  unfold nxOK sideP
  simp only [Bool.and_eq_true, decide_eq_true_eq, List.all_eq_true, Bool.or_eq_true]
  constructor
  · rintro ⟨h1, h2⟩; exact ⟨h1, fun j h => h2 _ (List.getElem_mem h)⟩
  · rintro ⟨h1, h2⟩; exact ⟨h1, fun r hr => by obtain ⟨j, hj, rfl⟩ := List.mem_iff_getElem.1 hr; exact h2 j hj⟩
theorem nxt_first {S : List Pt} {p : Pt} {k : Nat} (hk : k < S.length) (h0 : ∀ j (h : j < S.length), j < k → nxOK S p S[j] = false) (h1 : nxOK S p S[k] = true) : nxt S p = S[k] := by
  unfold nxt
  have : S.find? (nxOK S p) = some S[k] := List.find?_eq_some_iff_getElem.2 ⟨h1, k, hk, rfl, fun j hj => by rw [h0 j (by omega) hj]; rfl⟩
  rw [this]; rfl
theorem nxt_none {S : List Pt} {p : Pt} (h0 : ∀ j (h : j < S.length), nxOK S p S[j] = false) : nxt S p = p := by
  unfold nxt
  have : S.find? (nxOK S p) = none := List.find?_eq_none.2 fun x hx => by obtain ⟨j, hj, rfl⟩ := List.mem_iff_getElem.1 hx; rw [h0 j hj]; simp
  rw [this]; rfl
theorem side_iff {p q r : Pt} (hp : inrP p) (hq : inrP q) (hr : inrP r) : (or3 p q r = 1 → sideP p q r) ∧ (or3 p q r = 0 → (sideP p q r ↔ dist2 p.1 p.2 r.1 r.2 ≤ dist2 p.1 p.2 q.1 q.2)) ∧ (or3 p q r ≠ 1 → or3 p q r ≠ 0 → ¬ sideP p q r) := by
  rw [or3_dt hp hq hr, dist2_d2 hp hr, dist2_d2 hp hq]
  unfold sideP
  generalize dt p q r = n
  unfold sgn
  split
  · simp; omega
  · split
    · simp; omega
    · simp; omega

end Go.Proofs.YtaahgblkmajceaaGreat

set_option linter.unusedVariables false
namespace Go.Proofs.YtaahgblkmajceaaGreat
open Go.RowKit Fx

def endL (ps : List Pt) : Nat → Pt
  | 0 => hp' ps 0
  | k + 1 => if (hp' ps k).1 < (endL ps k).1 ∨ ((hp' ps k).1 = (endL ps k).1 ∧ (hp' ps k).2 < (endL ps k).2) then hp' ps k else endL ps k
def endH (ps : List Pt) : Nat → Pt
  | 0 => hp' ps 0
  | k + 1 => if (endH ps k).1 < (hp' ps k).1 ∨ ((endH ps k).1 = (hp' ps k).1 ∧ (endH ps k).2 < (hp' ps k).2) then hp' ps k else endH ps k
def lowP (ps : List Pt) : Pt := endL ps ps.length
def highP (ps : List Pt) : Pt := endH ps ps.length
def colP (ps : List Pt) : Bool := decide (∀ q ∈ ps, or3 (lowP ps) (highP ps) q = 0)
theorem colP_iff {ps : List Pt} : colP ps = true ↔ ∀ j (h : j < ps.length), or3 (lowP ps) (highP ps) ps[j] = 0 := by
  unfold colP
  rw [decide_eq_true_iff]
  constructor
  · intro h j hj; exact h _ (List.getElem_mem hj)
  · intro h q hq; obtain ⟨j, hj, rfl⟩ := List.mem_iff_getElem.1 hq; exact h j hj

end Go.Proofs.YtaahgblkmajceaaGreat

set_option linter.unusedVariables false
namespace Go.Proofs.YtaahgblkmajceaaGreat
open Go.RowKit Fx

theorem pv_append : ∀ a b : List (Int × Int), pv (a ++ b) = pv a ++ pv b
  | [], b => rfl
  | p :: a, b => by simp [pv, pv_append a b]
theorem info_vec : (Tryz.prog.info? 32).map (fun i => (i.zero, i.size, i.bytes)) = some (some (.agg #[.int .i64 0, .int .i64 0]), 2, 16) := by kernel_rfl
theorem owns_lit2 {w : World} {b : Nat} {e : TypeId} {ps : List (Int × Int)} {B n : Nat} (h : blk w b (pv ps).toArray e) (hn : ps.length = n) (hB : B ≤ b) (hm : n ≤ maxLen) : w.ownsRow B e 2 (.slice (some ⟨b, 0, none⟩) n n) n (pv ps) := by
  subst hn
  exact ⟨by simp, .inr ⟨b, ps.length, (pv ps).toArray, rfl, hB, h, Nat.le_refl _, hm, by simp, by simp [List.take_of_length_le]⟩⟩
theorem owns_pts {w : World} {B : Nat} {e : TypeId} {v : Value} {n : Nat} {ps : List (Int × Int)} (h : w.ownsRow B e 2 v n (pv ps)) : ∃ A cap, v = .slice A ps.length cap ∧ n = ps.length ∧ ps.length ≤ cap ∧ cap ≤ maxLen ∧ Pts w A ps := by
  obtain ⟨hl, ⟨rfl, rfl⟩ | ⟨g, cap, cur, rfl, hb, hh, hn, hm, hc, ht⟩⟩ := h
  · have h0 : ps = [] := by cases ps with | nil => rfl | cons p ps => simp [pv] at hl
    subst h0
    exact ⟨none, 0, rfl, rfl, Nat.le_refl _, by decide, .inl rfl⟩
  · rw [pv_length] at hl
    have hnl : n = ps.length := by omega
    subst hnl
    refine ⟨some ⟨g, 0, none⟩, cap, rfl, rfl, hn, hm, .inr ⟨g, 0, rfl, fun i hi => ?_⟩⟩
    obtain ⟨g1, g2⟩ := pv_get ps i hi
    have key : ∀ j u, j < ps.length * 2 → (pv ps)[j]? = some u → cur[j]? = some u := fun j u hj hu => by
      rw [← ht, List.getElem?_take, if_pos hj] at hu
      simpa using hu
    have hh' : blk w g cur e := hh
    rw [Nat.zero_add, blk_cell hh', blk_cell hh']
    exact ⟨key _ _ (by omega) g1, key _ _ (by omega) g2⟩
theorem blk_grown {w w' : World} {row : Option Nat} (hg : w.grownBy w' row) {k : Nat} {c : Array Value} {t : TypeId} (h : blk w k c t) (hne : row ≠ some k) : blk w' k c t :=
  (hg.block k (blk_lt h) (fun e => hne e.symm)).trans h
theorem wpList_app2 {P : Program} {w : World} {ops : Array Oper} {rest : List Oper} {o : Oper} {a : Act} {Q : Exit → Act → World → Prop} (hg : o.guard = none) (s x : Operand) (t : TypeId)
    (ho : o.op = .call { callee := .builtin .append, args := #[s, x], argTypes := #[t, t] })
    (B : Nat) (e : TypeId) (i : TypeInfo) (z : Value) (bytes : Nat) (ht : P.underlying t = some (.slice e)) (hi : P.info? e = some i) (hz : i.zero = some z) (hsize : i.size = 2) (hby : i.bytes = bytes) (hzs : z.cells.size = 2)
    (v : Value) (n : Nat) (xs : List Value) (hs : a.eval s = v) (hown : w.ownsRow B e 2 v n xs) (b : Nat) (y1 y2 : Value) (te : TypeId) (hx : a.eval x = .slice (some ⟨b, 0, none⟩) 1 1) (hy : blk w b #[y1, y2] te) (h1 : y1.oneCell' = true) (h2 : y2.oneCell' = true)
    (h63 : n + 1 ≤ maxLen) (hbytes : (n + 1) * bytes ≤ 140737488355328) (hB : B ≤ w.heap.size)
    (h : ∀ v' w', w'.ownsRow B e 2 v' (n + 1) (xs ++ [y1, y2]) → Below B w w' → w.grownBy w' v.ownBlock → (v'.ownBlock = v.ownBlock ∨ v'.ownBlock = some w.heap.size) → wpList P ops Q rest (a.put o.dst v') w') : wpList P ops Q (o :: rest) a w := by
  refine wpList_append_own_at w hg s x t ho B e i z 2 bytes ht hi hz hsize hby hzs (by decide) v n xs hs hown ⟨b, 0, none⟩ 1 1 [y1, y2] hx rfl (fun j u hj => ?_) (fun u hu => ?_) h63 hbytes hB (fun v' w' h2 h3 _ h5 => h v' w' h2 ?_ h3 h5)
  · match j, hj with
    | 0, hj => simp at hj; subst hj; simpa [Addr.add] using blk_cell hy 0
    | 1, hj => simp at hj; subst hj; simpa [Addr.add] using blk_cell hy 1
  · simp at hu; rcases hu with rfl | rfl <;> assumption
  · refine ⟨h3.os, h3.tape, h3.output, h3.size, fun k hk => h3.block k (by omega) fun hk' => ?_⟩
    obtain ⟨_, ⟨rfl, _⟩ | ⟨g, cap, cur, rfl, hBg, _⟩⟩ := hown
    · simp [Value.ownBlock] at hk'
    · simp [Value.ownBlock] at hk'; omega

/-- ConvexHull of the reference. -/
def hullP (ps : List Pt) : List Pt :=
  if ps.length < 1 ∨ 64 < ps.length ∨ ¬ (∀ p ∈ ps, inrP p) then []
  else if colP ps = true then (if lowP ps = highP ps then [lowP ps] else [lowP ps, highP ps])
  else hloop ps (lowP ps) (ps.length + 1) (nxt ps (lowP ps)) [lowP ps]
theorem nxt_inr {ps : List Pt} (hin : ∀ q ∈ ps, inrP q) {p : Pt} (hp : inrP p) : inrP (nxt ps p) := by
  unfold nxt
  cases e : ps.find? (nxOK ps p) with
  | none => exact hp
  | some q => exact hin _ (List.mem_of_find?_eq_some e)
theorem endL_mem {ps : List Pt} (h0 : 0 < ps.length) : ∀ k, endL ps k ∈ ps
  | 0 => hp_mem 0 h0
  | k + 1 => by
    show (if _ then _ else _) ∈ ps
    split
    · exact hp_mem k h0
    · exact endL_mem h0 k
theorem endH_mem {ps : List Pt} (h0 : 0 < ps.length) : ∀ k, endH ps k ∈ ps
  | 0 => hp_mem 0 h0
  | k + 1 => by
    show (if _ then _ else _) ∈ ps
    split
    · exact hp_mem k h0
    · exact endH_mem h0 k
def lenOf : Value → Nat
  | .slice _ n _ => n
  | _ => 0

end Go.Proofs.YtaahgblkmajceaaGreat

set_option linter.unusedVariables false
namespace Go.Proofs.YtaahgblkmajceaaGreat
open Go.RowKit Fx

def HullR (w : World) (R : List Pt) (e : Ending) (w' : World) : Prop := (∃ A' cap', e = .returned (.slice A' R.length cap') ∧ R.length ≤ cap' ∧ cap' ≤ maxLen ∧ Pts w' A' R) ∧ Below w.heap.size w w'

theorem hloop_stop {S : List Pt} {x0 : Pt} {k : Nat} {v : Pt} {out : List Pt} (h : ¬ (v ≠ x0 ∧ out.length ≤ S.length)) : hloop S x0 k v out = out := by
  cases k with
  | zero => rfl
  | succ k => unfold hloop; rw [if_neg h]
theorem hloop_go {S : List Pt} {x0 : Pt} {k : Nat} {v : Pt} {out : List Pt} (h1 : v ≠ x0) (h2 : out.length ≤ S.length) : hloop S x0 (k + 1) v out = hloop S x0 k (nxt S v) (out ++ [v]) := by
  rw [hloop, if_pos ⟨h1, h2⟩]

end Go.Proofs.YtaahgblkmajceaaGreat

/- Contracts of the reference of chapter 12: validation.
Contracts of the reference of chapter 12, continued: equality, copies, transformed vertices.
Contracts of the reference of chapter 12, continued: copies, bounds, bounding radius.
Contracts of the reference of chapter 12, continued: bounds, support, containment.
Contracts of the reference of chapter 12, continued: support, containment. -/
import Derived.Test.YtpdhfhcfjdnlpaaMa5
import Derived.Test.YtpdhfhcfjdnlpaaCo3
import Derived.Test.YtpdhfhcfjdnlpaaCo5
import Derived.Test.YtpdhfhcfjdnlpaaSh1
import Derived.Test.YtpdhfhcfjdnlpaaKi1
import Derived.Test.YtpdhfhcfjdnlpaaKi3

set_option linter.unusedVariables false
namespace Go.Proofs.Ytpdhfhcfjdnlpaa
open Go.RowKit Fx

def in20 (x : Int) : Bool := decide (-1048576 ≤ x) && decide (x ≤ 1048576)
theorem in20_inr {p : Int × Int} : inrP p ↔ in20 p.1 = true ∧ in20 p.2 = true := by
  unfold inrP in20; simp only [Bool.and_eq_true, decide_eq_true_eq]; exact ⟨fun h => ⟨⟨h.1, h.2.1⟩, h.2.2.1, h.2.2.2⟩, fun h => ⟨h.1.1, h.1.2, h.2.1, h.2.2⟩⟩

end Go.Proofs.Ytpdhfhcfjdnlpaa

set_option linter.unusedVariables false
namespace Go.Proofs.Ytpdhfhcfjdnlpaa
open Go.RowKit Fx

/-- Equal. -/
def eqS (K R : Int) (ps : List (Int × Int)) (K' R' : Int) (qs : List (Int × Int)) : Bool := decide (K = K') && decide (R = R') && decide (ps = qs)

theorem map_take {f : Int × Int → Int × Int} {ps : List (Int × Int)} {k : Nat} (h : k < ps.length) : (ps.map f).take (k + 1) = (ps.map f).take k ++ [f ps[k]] := by
  rw [List.take_add_one, List.getElem?_map, List.getElem?_eq_getElem h]; rfl
theorem blk_to {w w' : World} {b : Nat} {c : Array Value} {t : TypeId} (h : blk w b c t) (hb : Below w.heap.size w w') : blk w' b c t := (hb.block b (blk_lt h)).trans h

end Go.Proofs.Ytpdhfhcfjdnlpaa

set_option linter.unusedVariables false
namespace Go.Proofs.Ytpdhfhcfjdnlpaa
open Go.RowKit Fx

/-- A shape handed back: its own vertices. -/
def ShapeR (w : World) (K R : Int) (ps : List (Int × Int)) (e : Ending) (w' : World) : Prop := (∃ A' cap', e = .returned (.agg #[.int .i64 K, .int .i64 R, .slice A' ps.length cap']) ∧ ps.length ≤ cap' ∧ cap' ≤ maxLen ∧ Pts w' A' ps ∧ (ps = [] ∨ ∃ b off, A' = some ⟨b, off, none⟩ ∧ w.heap.size ≤ b)) ∧ Below w.heap.size w w'

end Go.Proofs.Ytpdhfhcfjdnlpaa

set_option linter.unusedVariables false
namespace Go.Proofs.Ytpdhfhcfjdnlpaa
open Go.RowKit Fx

/-- The box of a list's beginning. -/
def bxk (L : List (Int × Int)) (k : Nat) : Bx := Bx.pts (L.take (max k 1))
theorem bxk_step {L : List (Int × Int)} (hs : ∀ p ∈ L, sat p.1 = p.1 ∧ sat p.2 = p.2) {k : Nat} (h : k < L.length) : bxk L (k + 1) = ⟨min (bxk L k).x0 L[k].1, min (bxk L k).y0 L[k].2, max (bxk L k).x1 L[k].1, max (bxk L k).y1 L[k].2⟩ := by
  obtain ⟨s1, s2⟩ := hs _ (List.getElem_mem h)
  rcases Nat.eq_zero_or_pos k with rfl | h0
  · show Bx.pts (L.take 1) = _
    unfold bxk
    rw [show max 0 1 = 1 from rfl, Bx.pts_one h]
    unfold Bx.one
    rw [s1, s2]
    simp
  · unfold bxk
    rw [show max (k + 1) 1 = k + 1 from by omega, show max k 1 = k from by omega, Bx.pts_succ (by omega) h]
    unfold Bx.step
    rw [s1, s2]
theorem bxk_zero {L : List (Int × Int)} (hs : ∀ p ∈ L, sat p.1 = p.1 ∧ sat p.2 = p.2) (h : 0 < L.length) : bxk L 0 = ⟨L[0].1, L[0].2, L[0].1, L[0].2⟩ := by
  obtain ⟨s1, s2⟩ := hs _ (List.getElem_mem h)
  unfold bxk
  rw [show max 0 1 = 1 from rfl, Bx.pts_one h]
  unfold Bx.one
  rw [s1, s2]
theorem bxk_end {L : List (Int × Int)} (h : 0 < L.length) : bxk L L.length = Bx.pts L := by
  unfold bxk; rw [show max L.length 1 = L.length from by omega, List.take_length]
theorem core_sat {ps : List (Int × Int)} {px py a : Int} : ∀ p ∈ ps.map (tr px py a), sat p.1 = p.1 ∧ sat p.2 = p.2 := fun p hp => by
  obtain ⟨q, _, rfl⟩ := List.mem_map.1 hp
  exact ⟨(add_sat' _ _).symm, (add_sat' _ _).symm⟩

end Go.Proofs.Ytpdhfhcfjdnlpaa

set_option linter.unusedVariables false
namespace Go.Proofs.Ytpdhfhcfjdnlpaa
open Go.RowKit Fx

theorem supP_at {L : List (Int × Int)} (dx dy : Int) (h : 0 < L.length) : ∃ j : Nat, j < L.length ∧ supP L dx dy = (j : Int) := by
  obtain ⟨j, hj, e, _⟩ := sup_spec L dx dy L.length h
  exact ⟨j, hj, by unfold supP; rw [e]⟩

theorem or3_sgn (p q : Int × Int) (x y : Int) : or3 p q (x, y) < 0 ↔ or3 p q (x, y) = -1 := by
  have := or_ge p.1 p.2 q.1 q.2 x y
  unfold or3; dsimp only; omega

end Go.Proofs.Ytpdhfhcfjdnlpaa

/- Plain mathematics of chapter 12: the Lean functions that the contracts of package shape and of its reference speak of. No program is imported.
Plain mathematics of shapes, continued: a rotated polygon of some area is not flat. No program is imported.
Plain mathematics of shapes, continued: what a shape contains lies in its box. No program is imported. -/
import Derived.Test.YtiecpebckmihgaaGreatMa4
import Derived.Test.YtiecpebckmihgaaGreatMa3
import Derived.Test.YtiecpebckmihgaaGreatMa2

set_option linter.unusedVariables false
namespace Go.Proofs.YtiecpebckmihgaaGreat.Fx

def cntok (K : Int) (n : Nat) : Bool := if K = 3 then decide (3 ≤ n) && decide (n ≤ 8) else decide ((n : Int) = K)
def radbad (K R : Int) : Bool := (decide (K = 3) && decide (R ≠ 0)) || (decide (K ≠ 3) && (decide (R < 2048) || decide (524288 < R)))
def capbad (K : Int) (ps : List Pt) : Bool := decide (K = 2) && decide (vlen (sub (hp' ps 1).1 (hp' ps 0).1) (sub (hp' ps 1).2 (hp' ps 0).2) < 4096)
def polbad (K : Int) (ps : List Pt) : Bool := decide (K = 3) && (!cvx ps || decide (shortP ps < 4096) || decide (areaP ps < 256))
def valS (K R : Int) (ps : List Pt) : Int :=
  if K < 1 ∨ 3 < K then 10 else if cntok K ps.length = false then 11 else if ¬ (∀ p ∈ ps, inrP p) then 6 else if radbad K R = true then 6 else if capbad K ps = true then 12 else if polbad K ps = true then 12 else 0
theorem valS_zero {K R : Int} {ps : List Pt} : valS K R ps = 0 ↔ (1 ≤ K ∧ K ≤ 3) ∧ cntok K ps.length = true ∧ (∀ p ∈ ps, inrP p) ∧ radbad K R = false ∧ capbad K ps = false ∧ polbad K ps = false := by
  unfold valS
  split
  · constructor
    · intro h; cases h
    · intro h; omega
  · rename_i h0
    split
    · rename_i h1; rw [h1]; constructor <;> intro h <;> simp at h
    · rename_i h1
      split
      · rename_i h2; constructor
        · intro h; cases h
        · intro h; exact absurd h.2.2.1 h2
      · rename_i h2
        split
        · rename_i h3; rw [h3]; constructor <;> intro h <;> simp at h
        · rename_i h3
          split
          · rename_i h4; rw [h4]; constructor <;> intro h <;> simp at h
          · rename_i h4
            split
            · rename_i h5; rw [h5]; constructor <;> intro h <;> simp at h
            · rename_i h5
              simp only [Bool.not_eq_true, Bool.not_eq_false, Classical.not_not] at h1 h2 h3 h4 h5
              exact ⟨fun _ => ⟨by omega, h1, h2, h3, h4, h5⟩, fun _ => rfl⟩
def tr (px py a : Int) (p : Pt) : Pt := (tpx px a p.1 p.2, tpy py a p.1 p.2)
def core (K R : Int) (ps : List Pt) (px py a : Int) : List Pt := if valS K R ps = 0 then ps.map (tr px py a) else []
theorem core_ok {K R : Int} {ps : List Pt} (px py a : Int) (h : valS K R ps = 0) : core K R ps px py a = ps.map (tr px py a) := if_pos h
theorem core_no {K R : Int} {ps : List Pt} (px py a : Int) (h : ¬ valS K R ps = 0) : core K R ps px py a = [] := if_neg h
theorem val_len {K R : Int} {ps : List Pt} (h : valS K R ps = 0) : 1 ≤ ps.length ∧ ps.length ≤ 8 ∧ (K = 1 → ps.length = 1) ∧ (K = 2 → ps.length = 2) ∧ (K = 3 → 3 ≤ ps.length) := by
  obtain ⟨h1, h2, _⟩ := valS_zero.1 h
  unfold cntok at h2
  split at h2
  · simp at h2; omega
  · simp at h2; omega
/-! ### A point that a closed walk of points keeps to its left lies in the walk's box, or all of them lie on one line -/
end Go.Proofs.YtiecpebckmihgaaGreat.Fx

set_option linter.unusedVariables false
namespace Go.Proofs.YtiecpebckmihgaaGreat.Fx

end Go.Proofs.YtiecpebckmihgaaGreat.Fx

set_option linter.unusedVariables false
namespace Go.Proofs.YtiecpebckmihgaaGreat.Fx

/-! ### What contains a point -/
/-! ### The statements' facts -/
end Go.Proofs.YtiecpebckmihgaaGreat.Fx

/- Plain mathematics of chapter 14: the Lean functions that the contracts of package sat and of its reference speak of; polygons that are separated along a normal have no common point. No program is imported. -/
import Derived.Test.YtiecpebckmihgaaGreatMa5
set_option linter.unusedVariables false
namespace Go.Proofs.YtiecpebckmihgaaGreat.Fx

def eOK (ps : List Pt) (i : Int) : Prop := 2 ≤ ps.length ∧ 0 ≤ i ∧ i < ps.length
instance (ps : List Pt) (i : Int) : Decidable (eOK ps i) := by unfold eOK; exact inferInstance
def eX (ps : List Pt) (k : Nat) : Int := sub (hp' ps (k + 1)).1 (hp' ps k).1
def eY (ps : List Pt) (k : Nat) : Int := sub (hp' ps (k + 1)).2 (hp' ps k).2
def eDir (ps : List Pt) (i : Int) : Pt := if eOK ps i then (unit (eX ps i.toNat) (vlen (eX ps i.toNat) (eY ps i.toNat)), unit (eY ps i.toNat) (vlen (eX ps i.toNat) (eY ps i.toNat))) else (0, 0)
def eNor (ps : List Pt) (i : Int) : Pt := if eOK ps i then (unit (eY ps i.toNat) (vlen (eY ps i.toNat) (-eX ps i.toNat)), unit (-eX ps i.toNat) (vlen (eY ps i.toNat) (-eX ps i.toNat))) else (0, 0)
def sepD (a : List Pt) (i : Nat) (b : List Pt) (k : Nat) : Int := dot (eNor a i).1 (eNor a i).2 (sub (hp' b k).1 (hp' a i).1) (sub (hp' b k).2 (hp' a i).2)
def sepm (a : List Pt) (i : Nat) (b : List Pt) : Nat → Int
  | 0 => sepD a i b 0
  | k + 1 => min (sepm a i b k) (sepD a i b (k + 1))
def sep (a : List Pt) (i : Nat) (b : List Pt) : Int := sepm a i b (b.length - 1)
def msf (a b : List Pt) : Nat → Int × Int
  | 0 => (0, sep a 0 b)
  | k + 1 => if (msf a b k).2 < sep a (k + 1) b then (((k + 1 : Nat) : Int), sep a (k + 1) b) else msf a b k
def msep (a b : List Pt) : Int × Int := if a.length < 2 ∨ b.length = 0 then (-1, 0) else msf a b (a.length - 1)
def incD (b : List Pt) (x y : Int) (k : Nat) : Int := dot (eNor b k).1 (eNor b k).2 x y
def incf (b : List Pt) (x y : Int) : Nat → Int × Int
  | 0 => (0, incD b x y 0)
  | k + 1 => if incD b x y (k + 1) < (incf b x y k).2 then (((k + 1 : Nat) : Int), incD b x y (k + 1)) else incf b x y k
def inc (b : List Pt) (x y : Int) : Int := if b.length < 2 then -1 else (incf b x y (b.length - 1)).1

theorem vlen_turn (x y : Int) : vlen y (-x) = vlen x y := by
  unfold vlen; rw [sat_neg]; congr 1; grind
theorem msf_spec (a b : List Pt) : ∀ k, ∃ j : Nat, j ≤ k ∧ msf a b k = ((j : Int), sep a j b) ∧ (∀ i, i ≤ k → sep a i b ≤ sep a j b) ∧ ∀ i, i < j → sep a i b < sep a j b
  | 0 => ⟨0, by omega, rfl, fun i hi => (show i = 0 by omega) ▸ Int.le_refl _, fun i hi => absurd hi (by omega)⟩
  | k + 1 => by
    obtain ⟨j, hj, e, h1, h2⟩ := msf_spec a b k
    by_cases c : (msf a b k).2 < sep a (k + 1) b
    · refine ⟨k + 1, by omega, if_pos c, fun i hi => ?_, fun i hi => ?_⟩
      · rw [e] at c
        rcases (by omega : i ≤ k ∨ i = k + 1) with d | rfl
        · have := h1 i d; omega
        · exact Int.le_refl _
      · rw [e] at c; have := h1 i (by omega); omega
    · refine ⟨j, by omega, (if_neg c).trans e, fun i hi => ?_, h2⟩
      rw [e] at c
      rcases (by omega : i ≤ k ∨ i = k + 1) with d | rfl
      · exact h1 i d
      · omega
theorem msep_spec {a b : List Pt} (ha : 2 ≤ a.length) (hb : 0 < b.length) : ∃ j : Nat, j < a.length ∧ msep a b = ((j : Int), sep a j b) ∧ (∀ i, i < a.length → sep a i b ≤ sep a j b) ∧ ∀ i, i < j → sep a i b < sep a j b := by
  obtain ⟨j, hj, e, h1, h2⟩ := msf_spec a b (a.length - 1)
  exact ⟨j, by omega, (if_neg (by omega)).trans e, fun i hi => h1 i (by omega), h2⟩
theorem msep_none {a b : List Pt} (h : a.length < 2 ∨ b.length = 0) : msep a b = (-1, 0) := if_pos h
theorem incf_spec (b : List Pt) (x y : Int) : ∀ k, ∃ j : Nat, j ≤ k ∧ incf b x y k = ((j : Int), incD b x y j) ∧ (∀ i, i ≤ k → incD b x y j ≤ incD b x y i) ∧ ∀ i, i < j → incD b x y j < incD b x y i
  | 0 => ⟨0, by omega, rfl, fun i hi => (show i = 0 by omega) ▸ Int.le_refl _, fun i hi => absurd hi (by omega)⟩
  | k + 1 => by
    obtain ⟨j, hj, e, h1, h2⟩ := incf_spec b x y k
    by_cases c : incD b x y (k + 1) < (incf b x y k).2
    · refine ⟨k + 1, by omega, if_pos c, fun i hi => ?_, fun i hi => ?_⟩
      · rw [e] at c
        rcases (by omega : i ≤ k ∨ i = k + 1) with d | rfl
        · have := h1 i d; omega
        · exact Int.le_refl _
      · rw [e] at c; have := h1 i (by omega); omega
    · refine ⟨j, by omega, (if_neg c).trans e, fun i hi => ?_, h2⟩
      rw [e] at c
      rcases (by omega : i ≤ k ∨ i = k + 1) with d | rfl
      · exact h1 i d
      · omega
theorem inc_spec {b : List Pt} (x y : Int) (hb : 2 ≤ b.length) : ∃ j : Nat, j < b.length ∧ inc b x y = (j : Int) ∧ (∀ i, i < b.length → incD b x y j ≤ incD b x y i) ∧ ∀ i, i < j → incD b x y j < incD b x y i := by
  obtain ⟨j, hj, e, h1, h2⟩ := incf_spec b x y (b.length - 1)
  refine ⟨j, by omega, ?_, fun i hi => h1 i (by omega), h2⟩
  unfold inc; rw [if_neg (by omega), e]
theorem inc_none {b : List Pt} (x y : Int) (h : b.length < 2) : inc b x y = -1 := if_pos h

theorem sub_self (x : Int) : sub x x = 0 := by unfold sub; rw [Int.sub_self]; exact sat_zero
end Go.Proofs.YtiecpebckmihgaaGreat.Fx

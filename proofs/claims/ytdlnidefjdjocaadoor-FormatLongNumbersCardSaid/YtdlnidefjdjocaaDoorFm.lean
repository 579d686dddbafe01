/- Plain mathematics of the text format: the Lean functions that the contracts of package format and of its reference speak of, and what the statements of chapter 8 say of numbers. Strings are lists of bytes. No program is imported. -/
import Derived.Test.YtdlnidefjdjocaaDoorByt
set_option linter.unusedVariables false
namespace Go.Proofs.YtdlnidefjdjocaaDoor.Fm
open Go

/-- Decimal digits, none for 0. -/
def dg (m : Nat) : List Int := if h : m = 0 then [] else dg (m / 10) ++ [((48 + m % 10 : Nat) : Int)]
termination_by m
decreasing_by omega
theorem dg_zero : dg 0 = [] := by unfold dg; simp
theorem dg_pos {m : Nat} (h : m ≠ 0) : dg m = dg (m / 10) ++ [((48 + m % 10 : Nat) : Int)] := by rw [dg]; simp [h]
def isD (x : Int) : Bool := decide (48 ≤ x) && decide (x ≤ 57)
theorem isD_iff {x : Int} : isD x = true ↔ 48 ≤ x ∧ x ≤ 57 := by simp [isD]
theorem dg_all : ∀ m : Nat, ∀ x ∈ dg m, isD x = true := by
  intro m
  induction m using Nat.strongRecOn with
  | _ m ih =>
    by_cases h : m = 0
    · rw [h, dg_zero]; intro x hx; cases hx
    · rw [dg_pos h]; intro x hx
      rcases List.mem_append.1 hx with hx | hx
      · exact ih (m / 10) (by omega) x hx
      · rw [isD_iff]; simp at hx; omega
theorem dg_head : ∀ m : Nat, m ≠ 0 → ∃ x r, dg m = x :: r ∧ 49 ≤ x ∧ x ≤ 57 := by
  intro m
  induction m using Nat.strongRecOn with
  | _ m ih =>
    intro h
    rw [dg_pos h]
    by_cases h0 : m / 10 = 0
    · rw [h0, dg_zero]
      exact ⟨((48 + m % 10 : Nat) : Int), [], rfl, by omega, by omega⟩
    · obtain ⟨x, r, e, hx⟩ := ih (m / 10) (by omega) h0
      exact ⟨x, r ++ [((48 + m % 10 : Nat) : Int)], by rw [e]; rfl, hx⟩
/-- The number that digits tell. -/
def val (s : List Int) : Nat := s.foldl (fun m b => 10 * m + (b - 48).toNat) 0
theorem val_snoc (s : List Int) (b : Int) : val (s ++ [b]) = 10 * val s + (b - 48).toNat := by simp [val]
theorem val_dg : ∀ m : Nat, val (dg m) = m := by
  intro m
  induction m using Nat.strongRecOn with
  | _ m ih =>
    by_cases h : m = 0
    · rw [h, dg_zero]; rfl
    · rw [dg_pos h, val_snoc, ih (m / 10) (by omega)]; omega
theorem val_take {s : List Int} {k : Nat} (h : k < s.length) : val (s.take (k + 1)) = 10 * val (s.take k) + (s[k] - 48).toNat := by
  rw [List.take_add_one, List.getElem?_eq_getElem h]; exact val_snoc _ _
theorem val_pos {s : List Int} (h : 0 < s.length) (h0 : 49 ≤ s[0]) : ∀ k, 1 ≤ k → k ≤ s.length → 1 ≤ val (s.take k)
  | 0, h1, _ => by omega
  | 1, _, _ => by rw [val_take (k := 0) h]; simp [val]; omega
  | k + 2, _, hk => by rw [val_take (by omega)]; have := val_pos h h0 (k + 1) (by omega) (by omega); omega
/-- Digits without a leading zero are the digits of their number. -/
theorem dg_val {s : List Int} (hd : ∀ x ∈ s, isD x = true) (h0 : ∀ h : 0 < s.length, 49 ≤ s[0]) : ∀ k, k ≤ s.length → dg (val (s.take k)) = s.take k
  | 0, _ => by simp [val, dg_zero]
  | k + 1, hk => by
    have hk' : k < s.length := by omega
    have hx := isD_iff.1 (hd _ (List.getElem_mem hk'))
    have hne : val (s.take (k + 1)) ≠ 0 := by have := val_pos (by omega) (h0 (by omega)) (k + 1) (by omega) hk; omega
    rw [dg_pos hne, val_take hk']
    rw [show (10 * val (s.take k) + (s[k] - 48).toNat) / 10 = val (s.take k) from by omega, show (10 * val (s.take k) + (s[k] - 48).toNat) % 10 = (s[k] - 48).toNat from by omega, dg_val hd h0 k (by omega)]
    rw [List.take_add_one, List.getElem?_eq_getElem hk']
    simp only [Option.toList]
    congr 2; omega
theorem dg_len : ∀ (k m : Nat), m < 10 ^ k → (dg m).length ≤ k
  | 0, m, h => by have : m = 0 := by simpa using h
                  rw [this, dg_zero]; simp
  | k + 1, m, h => by
    by_cases h0 : m = 0
    · rw [h0, dg_zero]; simp
    · rw [dg_pos h0, List.length_append]
      have := dg_len k (m / 10) (by rw [Nat.div_lt_iff_lt_mul (by omega)]; rw [Nat.pow_succ] at h; exact h)
      simp; omega
theorem val_ge {s : List Int} (h : 0 < s.length) (h0 : 49 ≤ s[0]) : ∀ k, 1 ≤ k → k ≤ s.length → 10 ^ (k - 1) ≤ val (s.take k)
  | 0, h1, _ => by omega
  | 1, _, _ => by have := val_pos h h0 1 (by omega) (by omega); simpa using this
  | k + 2, _, hk => by
    have := val_ge h h0 (k + 1) (by omega) (by omega)
    rw [val_take (by omega), show k + 2 - 1 = (k + 1 - 1) + 1 from by omega, Nat.pow_succ]; omega

/-- FormatInt. -/
def fmt (n : Int) : List Int := if n = 0 then [48] else if n < 0 then 45 :: dg n.natAbs else dg n.natAbs
/-- The digits behind a minus sign. -/
def body : List Int → List Int
  | [] => []
  | x :: s => if x = 45 then s else x :: s
def isInt (s : List Int) : Bool := s == [48] || (!(body s).isEmpty && (body s).all isD && (body s).head? != some 48)
def sval (s : List Int) : Int := if s.head? = some 45 then -(val (body s) : Int) else val (body s)
def prs (lim : Nat) (s : List Int) : Int × Int := if isInt s = true then (if lim < (sval s).natAbs then (0, 6) else (sval s, 0)) else (0, 3)

theorem body_cons {x : Int} {r : List Int} (h : ¬ x = 45) : body (x :: r) = x :: r := by
  show (if x = 45 then r else x :: r) = x :: r
  rw [if_neg h]
theorem isInt_iff {s : List Int} : isInt s = true ↔ s = [48] ∨ ((∃ h : 0 < (body s).length, (body s)[0] ≠ 48) ∧ ∀ x ∈ body s, isD x = true) := by
  unfold isInt
  cases hb : body s with
  | nil => simp
  | cons x r =>
    simp
    constructor
    · intro h; rcases h with h | h
      · exact .inl h
      · exact .inr ⟨h.2, h.1⟩
    · intro h; rcases h with h | h
      · exact .inl h
      · exact .inr ⟨h.2, h.1⟩
theorem body_dg {m : Nat} (h : m ≠ 0) : body (dg m) = dg m := by
  obtain ⟨x, r, e, h1, h2⟩ := dg_head m h
  rw [e]; exact body_cons (by omega)
theorem isInt_fmt (n : Int) : isInt (fmt n) = true ∧ sval (fmt n) = n := by
  unfold fmt
  by_cases h0 : n = 0
  · rw [if_pos h0, h0]; decide
  rw [if_neg h0]
  have hne : n.natAbs ≠ 0 := by omega
  obtain ⟨x, r, e, hx⟩ := dg_head n.natAbs hne
  have hv := val_dg n.natAbs
  have ha := dg_all n.natAbs
  by_cases hn : n < 0
  · rw [if_pos hn]
    have hb : body (45 :: dg n.natAbs) = dg n.natAbs := by simp [body]
    refine ⟨isInt_iff.2 (.inr ?_), ?_⟩
    · rw [hb]; refine ⟨⟨by rw [e]; simp, ?_⟩, ha⟩
      simp only [e, List.getElem_cons_zero]; omega
    · unfold sval; rw [hb, hv]; simp; omega
  · rw [if_neg hn]
    have hb := body_dg hne
    refine ⟨isInt_iff.2 (.inr ?_), ?_⟩
    · rw [hb]; refine ⟨⟨by rw [e]; simp, ?_⟩, ha⟩
      simp only [e, List.getElem_cons_zero]; omega
    · unfold sval; rw [hb, hv, e]; simp; rw [if_neg (by omega)]; omega
/-- What is in the format is what formatting its number gives. -/
theorem fmt_sval {s : List Int} (h : isInt s = true) : fmt (sval s) = s := by
  rcases isInt_iff.1 h with rfl | ⟨⟨h1, h2⟩, h3⟩
  · decide
  have hx := isD_iff.1 (h3 _ (List.getElem_mem h1))
  have h0 : ∀ h : 0 < (body s).length, 49 ≤ (body s)[0] := fun _ => by omega
  have hd := dg_val h3 h0 (body s).length (Nat.le_refl _)
  have hp := val_pos h1 (h0 h1) (body s).length h1 (Nat.le_refl _)
  rw [List.take_length] at hd hp
  cases s with
  | nil => simp [body] at h1
  | cons x r =>
    by_cases hm : x = 45
    · subst hm
      have hb : body (45 :: r) = r := by simp [body]
      have hs : sval (45 :: r) = -(val r : Int) := by unfold sval; rw [hb]; simp
      rw [hb] at hd hp
      rw [hs]; unfold fmt
      rw [if_neg (by omega), if_pos (by omega), show (-(val r : Int)).natAbs = val r from by omega, hd]
    · have hb : body (x :: r) = x :: r := body_cons hm
      have hs : sval (x :: r) = (val (x :: r) : Int) := by unfold sval; rw [hb]; simp [hm]
      rw [hb] at hd hp
      rw [hs]; unfold fmt
      rw [if_neg (by omega), if_neg (by omega), show ((val (x :: r) : Nat) : Int).natAbs = val (x :: r) from by omega, hd]

end Go.Proofs.YtdlnidefjdjocaaDoor.Fm

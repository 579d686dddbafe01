/- What the statements of chapter 8 say of numbers: parsing and formatting undo each other, with limits. No program is imported. -/
import Derived.Test.YtdlnidefjdjocaaDoorFm
set_option linter.unusedVariables false
namespace Go.Proofs.YtdlnidefjdjocaaDoor.Fm
open Go

theorem prs_fmt (lim : Nat) (n : Int) : prs lim (fmt n) = if lim < n.natAbs then (0, 6) else (n, 0) := by
  obtain ⟨h1, h2⟩ := isInt_fmt n
  unfold prs; rw [if_pos h1, h2]
theorem fmt_prs {lim : Nat} {s : List Int} {n : Int} (h : prs lim s = (n, 0)) : fmt n = s := by
  unfold prs at h
  by_cases h1 : isInt s = true
  · rw [if_pos h1] at h
    by_cases h2 : lim < (sval s).natAbs
    · rw [if_pos h2] at h; simp at h
    · rw [if_neg h2] at h; simp only [Prod.mk.injEq, and_true] at h; rw [← h]; exact fmt_sval h1
  · rw [if_neg h1] at h; simp at h
theorem fmt_last (n : Int) : (fmt n).getLast? ≠ some 117 := by
  have key : ∀ m : Nat, m ≠ 0 → ∃ x, (dg m).getLast? = some x ∧ x ≤ 57 := fun m h => by
    rw [dg_pos h]; exact ⟨((48 + m % 10 : Nat) : Int), by simp, by omega⟩
  unfold fmt
  by_cases h0 : n = 0
  · rw [if_pos h0]; simp
  rw [if_neg h0]
  obtain ⟨x, e, hx⟩ := key n.natAbs (by omega)
  by_cases hn : n < 0
  · rw [if_pos hn, List.getLast?_cons, e]; simp; omega
  · rw [if_neg hn, e]; simp; omega
theorem fmt_zero {n : Int} : fmt n = [48] ↔ n = 0 := by
  constructor
  · intro h
    have := (isInt_fmt n).2
    rw [h] at this
    rw [← this]; decide
  · intro h; rw [h]; rfl

/-- FormatFixed, ParseFixed. -/
def fmtF (x : Int) : List Int := if x ≠ 0 ∧ x.tmod 65536 = 0 then fmt (x.tdiv 65536) ++ [117] else fmt x
def prsF (s : List Int) : Int × Int :=
  if s.getLast? = some 117 then
    (if isInt s.dropLast = true ∧ s.dropLast ≠ [48] then (if 8191 < (sval s.dropLast).natAbs then (0, 6) else (sval s.dropLast * 65536, 0)) else (0, 3))
  else if isInt s = true ∧ (s = [48] ∨ (sval s).natAbs % 65536 ≠ 0) then (if 536870911 < (sval s).natAbs then (0, 6) else (sval s, 0)) else (0, 3)
theorem tmod_zero {x : Int} : x.tmod 65536 = 0 ↔ x.natAbs % 65536 = 0 := by
  have key : ∀ m : Nat, ((m : Int).tmod 65536 = 0 ↔ m % 65536 = 0) := fun m => by
    rw [Int.tmod_eq_emod_of_nonneg (by omega)]; omega
  rcases Int.natAbs_eq x with e | e
  · rw [show x.tmod 65536 = (x.natAbs : Int).tmod 65536 from by rw [← e]]; exact key _
  · rw [show x.tmod 65536 = -((x.natAbs : Int).tmod 65536) from by rw [← Int.neg_tmod, ← e], Int.neg_eq_zero]; exact key _
theorem tdiv_mul {x : Int} (h : x.tmod 65536 = 0) : x.tdiv 65536 * 65536 = x := by
  have := Int.mul_tdiv_add_tmod x 65536
  omega
theorem prsF_fmtF (x : Int) : prsF (fmtF x) = if 536870911 < x.natAbs then (0, 6) else (x, 0) := by
  unfold fmtF
  by_cases h : x ≠ 0 ∧ x.tmod 65536 = 0
  · rw [if_pos h]
    obtain ⟨h0, h1⟩ := h
    obtain ⟨g1, g2⟩ := isInt_fmt (x.tdiv 65536)
    have hm := tdiv_mul h1
    have hz : fmt (x.tdiv 65536) ≠ [48] := fun e => by have := fmt_zero.1 e; rw [this] at hm; omega
    unfold prsF
    rw [if_pos (by simp), List.dropLast_concat, if_pos ⟨g1, hz⟩, g2, hm]
    by_cases hl : 536870911 < x.natAbs
    · rw [if_pos hl, if_pos (by omega)]
    · rw [if_neg hl, if_neg (by omega)]
  · rw [if_neg h]
    obtain ⟨g1, g2⟩ := isInt_fmt x
    unfold prsF
    have hq : fmt x = [48] ∨ x.natAbs % 65536 ≠ 0 := by
      by_cases h0 : x = 0
      · left; rw [h0]; rfl
      · right; intro h2; exact h ⟨h0, tmod_zero.2 h2⟩
    rw [if_neg (fmt_last x), g2, if_pos ⟨g1, hq⟩]
theorem fmtF_prsF {s : List Int} {n : Int} (h : prsF s = (n, 0)) : fmtF n = s := by
  unfold prsF at h
  by_cases hu : s.getLast? = some 117
  · rw [if_pos hu] at h
    by_cases h1 : isInt s.dropLast = true ∧ s.dropLast ≠ [48]
    · rw [if_pos h1] at h
      by_cases h2 : 8191 < (sval s.dropLast).natAbs
      · rw [if_pos h2] at h; simp at h
      · rw [if_neg h2] at h
        simp only [Prod.mk.injEq, and_true] at h
        have hf := fmt_sval h1.1
        have hnz : sval s.dropLast ≠ 0 := fun e => h1.2 (by rw [← hf, e]; rfl)
        have hd : n.tdiv 65536 = sval s.dropLast := by rw [← h]; exact Int.mul_tdiv_cancel _ (by omega)
        have hm : n.tmod 65536 = 0 := by rw [← h]; exact Int.mul_tmod_left _ _
        unfold fmtF
        rw [if_pos ⟨by omega, hm⟩, hd, hf]
        have hne : s ≠ [] := by intro e; rw [e] at hu; simp at hu
        rw [List.getLast?_eq_some_getLast hne] at hu
        have := List.dropLast_concat_getLast hne
        rw [Option.some.inj hu] at this
        exact this
    · rw [if_neg h1] at h; simp at h
  · rw [if_neg hu] at h
    by_cases h1 : isInt s = true ∧ (s = [48] ∨ (sval s).natAbs % 65536 ≠ 0)
    · rw [if_pos h1] at h
      by_cases h2 : 536870911 < (sval s).natAbs
      · rw [if_pos h2] at h; simp at h
      · rw [if_neg h2] at h
        simp only [Prod.mk.injEq, and_true] at h
        have hf := fmt_sval h1.1
        unfold fmtF
        rw [if_neg, ← h, hf]
        rintro ⟨g1, g2⟩
        rcases h1.2 with e | e
        · rw [e] at h; exact g1 (by rw [← h]; decide)
        · rw [h] at e; exact e (tmod_zero.1 g2)
    · rw [if_neg h1] at h; simp at h

/-- Long numbers. -/
theorem isInt_snoc {s : List Int} (h : s ≠ []) : isInt (s ++ [120]) = false := by
  rw [Bool.eq_false_iff]
  intro e
  rcases isInt_iff.1 e with e | ⟨_, e⟩
  · have := congrArg List.length e; simp at this; exact h this
  · cases s with
    | nil => exact h rfl
    | cons x r =>
      have : (120 : Int) ∈ body (x :: r ++ [120]) := by
        by_cases hx : x = 45
        · subst hx; simp [body]
        · rw [List.cons_append, body_cons hx]; simp
      have := e 120 this
      rw [isD_iff] at this; omega
theorem isInt_zero {s : List Int} (h : s ≠ []) : isInt (48 :: s) = false := by
  rw [Bool.eq_false_iff]
  intro e
  rcases isInt_iff.1 e with e | ⟨⟨h1, e⟩, _⟩
  · simp at e; exact h e
  · have hb : body (48 :: s) = 48 :: s := body_cons (by omega)
    simp only [hb, List.getElem_cons_zero] at e
    exact e rfl
theorem long_int {d : Int} {k : Nat} (h0 : 49 ≤ d) (h1 : d ≤ 57) (hk : 20 ≤ k) (s : List Int) (hs : s = List.replicate k d ∨ s = 45 :: List.replicate k d) : isInt s = true ∧ 10000000000000000000 ≤ (sval s).natAbs := by
  have hb : body s = List.replicate k d := by
    rcases hs with rfl | rfl
    · obtain ⟨j, rfl⟩ : ∃ j, k = j + 1 := ⟨k - 1, by omega⟩
      rw [List.replicate_succ]; exact body_cons (by omega)
    · simp [body]
  have hl : (List.replicate k d).length = k := List.length_replicate
  have hg : (List.replicate k d)[0]'(by rw [hl]; omega) = d := List.getElem_replicate _
  have hv := val_ge (s := List.replicate k d) (by rw [hl]; omega) (by rw [hg]; exact h0) k (by omega) (by rw [hl]; exact Nat.le_refl _)
  rw [List.take_of_length_le (by rw [hl]; exact Nat.le_refl _)] at hv
  have hp : (10 : Nat) ^ 19 ≤ 10 ^ (k - 1) := Nat.pow_le_pow_right (by omega) (by omega)
  rw [show (10 : Nat) ^ 19 = 10000000000000000000 from by decide] at hp
  refine ⟨isInt_iff.2 (.inr ?_), ?_⟩
  · rw [hb]
    refine ⟨⟨by rw [hl]; omega, by rw [hg]; omega⟩, fun x hx => ?_⟩
    rw [List.eq_of_mem_replicate hx, isD_iff]; omega
  · unfold sval
    rw [hb]
    split <;> omega
theorem prs_long {lim : Nat} {s : List Int} (h : isInt s = true) (hl : 10000000000000000000 ≤ (sval s).natAbs) (hlim : lim < 10000000000000000000) : prs lim s = (0, 6) := by
  unfold prs; rw [if_pos h, if_pos (by omega)]
theorem prs_bad {lim : Nat} {s : List Int} (h : isInt s = false) : prs lim s = (0, 3) := by
  unfold prs; rw [if_neg (by rw [h]; simp)]
theorem prsF_long {s : List Int} (h : isInt s = true) (hl : 10000000000000000000 ≤ (sval s).natAbs) : prsF (s ++ [117]) = (0, 6) := by
  have hne : s ≠ [48] := fun e => by rw [e] at hl; revert hl; decide
  unfold prsF
  rw [if_pos (by simp), List.dropLast_concat, if_pos ⟨h, hne⟩, if_pos (by omega)]

end Go.Proofs.YtdlnidefjdjocaaDoor.Fm

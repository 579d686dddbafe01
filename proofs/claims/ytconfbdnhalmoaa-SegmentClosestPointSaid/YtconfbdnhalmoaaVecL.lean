/- Plain mathematics: what the statements of chapter 3 say of the Lean functions of vectors. No program is imported. -/
import Derived.Test.YtconfbdnhalmoaaVec
set_option linter.unusedVariables false
namespace Go.Proofs.Ytconfbdnhalmoaa.Fx

theorem sq_nn (x : Int) : 0 ≤ x * x := by
  rcases Int.le_total 0 x with h | h
  · exact Int.mul_nonneg h h
  · exact Int.mul_nonneg_of_nonpos_of_nonpos h h
theorem sgn_ge (n : Int) : -1 ≤ sgn n := by unfold sgn; split <;> (try split) <;> omega
theorem sgn_le (n : Int) : sgn n ≤ 1 := by unfold sgn; split <;> (try split) <;> omega
theorem or_ge (ax ay bx b_y cx cy : Int) : -1 ≤ orient ax ay bx b_y cx cy := sgn_ge _
theorem or_le (ax ay bx b_y cx cy : Int) : orient ax ay bx b_y cx cy ≤ 1 := sgn_le _
theorem or_bac (ax ay bx b_y cx cy : Int) : orient bx b_y ax ay cx cy = -orient ax ay bx b_y cx cy := by
  unfold orient; rw [← sgn_opp]; congr 1; unfold det; grind
theorem or_acb (ax ay bx b_y cx cy : Int) : orient ax ay cx cy bx b_y = -orient ax ay bx b_y cx cy := by
  unfold orient; rw [← sgn_opp]; congr 1; unfold det; grind
theorem or_cba (ax ay bx b_y cx cy : Int) : orient cx cy bx b_y ax ay = -orient ax ay bx b_y cx cy := by
  unfold orient; rw [← sgn_opp]; congr 1; unfold det; grind
theorem or_bca (ax ay bx b_y cx cy : Int) : orient bx b_y cx cy ax ay = orient ax ay bx b_y cx cy := by
  unfold orient; congr 1; unfold det; grind

theorem rdiv_zero0 : rdiv 0 65536 = 0 := by decide +kernel
theorem dot_perp (x y : Int) : dot x y (-sat y) (sat x) = 0 := by
  unfold dot
  rw [sat_neg, sat_sat, sat_sat, show sat x * -sat y + sat y * sat x = 0 from by grind]; decide +kernel
theorem cross_self (x y : Int) : cross x y x y = 0 := by
  unfold cross; rw [show sat x * sat y - sat y * sat x = 0 from by grind]; decide +kernel
theorem cross_dot (ax ay bx b_y : Int) : cross ax ay bx b_y = dot (-sat ay) (sat ax) bx b_y := by
  unfold cross dot; rw [sat_neg, sat_sat, sat_sat]; congr 2; grind
theorem rdiv_neg (n : Int) : rdiv (-n) 65536 = -rdiv n 65536 := by
  by_cases h : -4611686018427387904 ≤ n ∧ n ≤ 4611686018427387904
  · rw [rdiv_in (by omega) (by omega) (by omega) (by omega), rdiv_in (by omega) (by omega) h.1 h.2]; exact rcore_neg _ _ (by omega)
  · rw [rdiv_out (by omega), rdiv_out (by omega)]; rfl
theorem cross_anti (ax ay bx b_y : Int) : cross ax ay bx b_y = -cross bx b_y ax ay := by
  unfold cross; rw [← sat_neg, ← rdiv_neg]; congr 2; grind
theorem cross_ge (ax ay bx b_y : Int) : -536870911 ≤ cross ax ay bx b_y := sat_ge _
theorem cross_le (ax ay bx b_y : Int) : cross ax ay bx b_y ≤ 536870911 := sat_le _
theorem dot_comm (ax ay bx b_y : Int) : dot ax ay bx b_y = dot bx b_y ax ay := by
  unfold dot; congr 2; grind
theorem perp4x (x : Int) : -sat (sat (-sat (sat x))) = add x 0 := by
  rw [add_zero]; simp only [sat_neg, sat_sat, Int.neg_neg]
theorem perp4y (y : Int) : sat (-sat (sat (-sat y))) = add y 0 := by
  rw [add_zero]; simp only [sat_neg, sat_sat, Int.neg_neg]
theorem dist2_comm (ax ay bx b_y : Int) : dist2 ax ay bx b_y = dist2 bx b_y ax ay := by unfold dist2; grind

/-- Everything that is known of a length. -/
theorem vlen_is (x y : Int) : 0 ≤ vlen x y ∧ vlen x y ≤ 1073741823 ∧ vlen x y * vlen x y ≤ sat x * sat x + sat y * sat y ∧ sat x * sat x + sat y * sat y < (vlen x y + 1) * (vlen x y + 1) := by
  have h1 := satmul x x; have h2 := satmul y y; have h3 := sq_nn (sat x); have h4 := sq_nn (sat y)
  have h := isq_is (n := sat x * sat x + sat y * sat y) (by omega) (by omega)
  have e : vlen x y = isq (sat x * sat x + sat y * sat y) := rfl
  rw [← e] at h
  exact ⟨h.1, sq_unique (n := sat x * sat x + sat y * sat y) h.1 (by omega) h.2.1 (by omega), h.2.1, h.2.2⟩
theorem vlen_sum (x y : Int) : vlen x y ≤ max (sat x) (-sat x) + max (sat y) (-sat y) := by
  obtain ⟨h0, _, h2, _⟩ := vlen_is x y
  have hx : max (sat x) (-sat x) * max (sat x) (-sat x) = sat x * sat x := by
    rcases Int.le_total 0 (sat x) with h | h
    · rw [show max (sat x) (-sat x) = sat x from by omega]
    · rw [show max (sat x) (-sat x) = -sat x from by omega]; grind
  have hy : max (sat y) (-sat y) * max (sat y) (-sat y) = sat y * sat y := by
    rcases Int.le_total 0 (sat y) with h | h
    · rw [show max (sat y) (-sat y) = sat y from by omega]
    · rw [show max (sat y) (-sat y) = -sat y from by omega]; grind
  have px : 0 ≤ max (sat x) (-sat x) := by omega
  have py : 0 ≤ max (sat y) (-sat y) := by omega
  generalize max (sat x) (-sat x) = p at *
  generalize max (sat y) (-sat y) = q at *
  have pq : 0 ≤ p * q := Int.mul_nonneg px py
  have e : (p + q + 1) * (p + q + 1) = p * p + q * q + 2 * (p * q) + 2 * p + 2 * q + 1 := by grind
  exact sq_unique (n := sat x * sat x + sat y * sat y) h0 (by omega) h2 (by omega)

theorem quo_nz {c l : Int} (hl : 1 ≤ l) (hl2 : l ≤ 1073741823) (h : l ≤ 2 * sat c ∨ l ≤ -(2 * sat c)) : quo c l ≠ 0 := by
  have h1 := sat_le c; have h2 := sat_ge c
  rw [quo_pos (by omega)]
  have hs : 1 ≤ sat l := by have := (sat_pos_iff l).2 (by omega); omega
  have hs2 : sat l ≤ l := by unfold sat; split <;> (try split) <;> omega
  have hr := rcore_near (n := sat c * 65536) (d := sat l) hs
  rw [rdiv_in hs (by have := sat_le l; omega) (by omega) (by omega)]
  intro h0
  have h0' := (sat_zero_iff _).1 h0
  rw [h0'] at hr
  omega
theorem unit_zero {c l : Int} (h : l = 0) : unit c l = 0 := by unfold unit; rw [if_pos h]
/-- The unit vector is zero only where the length is. -/
theorem unit_nz (x y : Int) (h : vlen x y ≠ 0) : unit x (vlen x y) ≠ 0 ∨ unit y (vlen x y) ≠ 0 := by
  obtain ⟨h0, h1, h2, h3⟩ := vlen_is x y
  have e : ∀ c, unit c (vlen x y) = quo c (vlen x y) := fun c => by unfold unit; rw [if_neg h]
  rw [e, e]
  generalize vlen x y = l at *
  by_cases hx : l ≤ 2 * sat x ∨ l ≤ -(2 * sat x)
  · exact .inl (quo_nz (by omega) h1 hx)
  · by_cases hy : l ≤ 2 * sat y ∨ l ≤ -(2 * sat y)
    · exact .inr (quo_nz (by omega) h1 hy)
    · exfalso
      have a1 := mul_between (a := 2 * sat x) (b := 2 * sat x) (A := l - 1) (B := l - 1) (by omega) (by omega) (by omega) (by omega)
      have a2 := mul_between (a := 2 * sat y) (b := 2 * sat y) (A := l - 1) (B := l - 1) (by omega) (by omega) (by omega) (by omega)
      have e1 : 2 * sat x * (2 * sat x) = 4 * (sat x * sat x) := by grind
      have e2 : 2 * sat y * (2 * sat y) = 4 * (sat y * sat y) := by grind
      have e3 : (l - 1) * (l - 1) = l * l - 2 * l + 1 := by grind
      have := sq_nn l
      omega

end Go.Proofs.Ytconfbdnhalmoaa.Fx

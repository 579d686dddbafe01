/- Plain mathematics of fixed-point arithmetic: the Lean functions that the contracts of package fixed and of its reference speak of. No program is imported. -/
namespace Go.Proofs.Ytconfbdnhalmoaa.Fx

/-- The saturated number next to x. -/
def sat (x : Int) : Int := if 536870911 < x then 536870911 else if x < -536870911 then -536870911 else x

theorem sat_le (x : Int) : sat x ≤ 536870911 := by unfold sat; split <;> (try split) <;> omega
theorem sat_ge (x : Int) : -536870911 ≤ sat x := by unfold sat; split <;> (try split) <;> omega
theorem sat_id {x : Int} (h0 : -536870911 ≤ x) (h1 : x ≤ 536870911) : sat x = x := by
  unfold sat; rw [if_neg (by omega), if_neg (by omega)]
theorem sat_hi {x : Int} (h : 536870911 < x) : sat x = 536870911 := by unfold sat; rw [if_pos h]
theorem sat_lo {x : Int} (h : x < -536870911) : sat x = -536870911 := by unfold sat; rw [if_neg (by omega), if_pos h]
theorem sat_sat (x : Int) : sat (sat x) = sat x := sat_id (sat_ge x) (sat_le x)
theorem sat_neg (x : Int) : sat (-x) = -sat x := by unfold sat; split <;> split <;> (try split) <;> (try split) <;> omega
theorem sat_pos_iff (x : Int) : 0 < sat x ↔ 0 < x := by unfold sat; split <;> (try split) <;> omega
theorem sat_neg_iff (x : Int) : sat x < 0 ↔ x < 0 := by unfold sat; split <;> (try split) <;> omega
theorem sat_zero_iff (x : Int) : sat x = 0 ↔ x = 0 := by unfold sat; split <;> (try split) <;> omega

def add (a b : Int) : Int := sat (sat a + sat b)
def sub (a b : Int) : Int := sat (sat a - sat b)

/-- m/d for m ≥ 0, rounded, halves up. -/
def rpos (m d : Int) : Int := if d ≤ 2 * (m % d) then m / d + 1 else m / d
def rcore (n d : Int) : Int := if n < 0 then -rpos (-n) d else rpos n d
def rok (n d : Int) : Bool := decide (1 ≤ d) && decide (d ≤ 4611686018427387904) && decide (-4611686018427387904 ≤ n) && decide (n ≤ 4611686018427387904)
def rdiv (n d : Int) : Int := if rok n d then rcore n d else 0

theorem rok_iff (n d : Int) : rok n d = true ↔ 1 ≤ d ∧ d ≤ 4611686018427387904 ∧ -4611686018427387904 ≤ n ∧ n ≤ 4611686018427387904 := by
  simp [rok, and_assoc]
theorem rdiv_in {n d : Int} (h1 : 1 ≤ d) (h2 : d ≤ 4611686018427387904) (h3 : -4611686018427387904 ≤ n) (h4 : n ≤ 4611686018427387904) : rdiv n d = rcore n d := by
  unfold rdiv; rw [if_pos ((rok_iff n d).2 ⟨h1, h2, h3, h4⟩)]
theorem rdiv_out {n d : Int} (h : d < 1 ∨ 4611686018427387904 < d ∨ n < -4611686018427387904 ∨ 4611686018427387904 < n) : rdiv n d = 0 := by
  unfold rdiv; rw [if_neg]; rw [rok_iff]; omega

/-- The facts of Euclid's division, for omega. -/
theorem euclid (m d : Int) (hd : 1 ≤ d) : m / d * d + m % d = m ∧ 0 ≤ m % d ∧ m % d < d := by
  refine ⟨?_, Int.emod_nonneg m (by omega), Int.emod_lt_of_pos m (by omega)⟩
  have := Int.mul_ediv_add_emod m d; rw [Int.mul_comm] at this; omega
theorem ediv_bounds {m d : Int} (hm : 0 ≤ m) (hd : 1 ≤ d) : 0 ≤ m / d ∧ m / d ≤ m :=
  ⟨Int.ediv_nonneg hm (by omega), Int.ediv_le_self d hm⟩
theorem rpos_bounds {m d : Int} (hm : 0 ≤ m) (hd : 1 ≤ d) : 0 ≤ rpos m d ∧ rpos m d ≤ m := by
  have hb := ediv_bounds hm hd
  have he := euclid m d hd
  unfold rpos
  split
  · rename_i h
    refine ⟨by omega, ?_⟩
    by_cases h0 : m / d = 0
    · rw [h0] at he ⊢; omega
    · by_cases h1 : d = 1
      · subst h1; omega
      · have : 1 ≤ m / d := by omega
        have h2 : m / d * 2 ≤ m / d * d := Int.mul_le_mul_of_nonneg_left (by omega) (by omega)
        omega
  · omega

theorem tdiv_neg {n d : Int} (hn : n ≤ 0) : n.tdiv d = -((-n) / d) ∧ n.tmod d = -((-n) % d) := by
  have h1 : n.tdiv d = -((-n) / d) := by
    rw [← Int.tdiv_eq_ediv_of_nonneg (by omega : 0 ≤ -n), Int.neg_tdiv]; omega
  have h2 := Int.mul_tdiv_add_tmod n d
  have h3 := Int.mul_ediv_add_emod (-n) d
  rw [h1, Int.mul_neg] at h2
  exact ⟨h1, by omega⟩
theorem rcore_neg (n d : Int) (hd : 1 ≤ d) : rcore (-n) d = -rcore n d := by
  unfold rcore
  by_cases h : n < 0
  · rw [if_neg (by omega), if_pos h]; omega
  · by_cases h0 : n = 0
    · subst h0; simp [rpos]; omega
    · rw [if_pos (by omega), if_neg h]; simp
theorem rcore_bounds {n d : Int} (hd : 1 ≤ d) : -n.natAbs ≤ rcore n d ∧ rcore n d ≤ n.natAbs := by
  unfold rcore
  split
  · have := rpos_bounds (m := -n) (d := d) (by omega) hd; omega
  · have := rpos_bounds (m := n) (d := d) (by omega) hd; omega

theorem rcore_up {n d : Int} (hn : 0 ≤ n) (h : d ≤ 2 * (n % d)) : rcore n d = n / d + 1 := by
  unfold rcore rpos; rw [if_neg (by omega), if_pos h]
theorem rcore_down {n d : Int} (hn : 0 ≤ n) (h : 2 * (n % d) < d) : rcore n d = n / d := by
  unfold rcore rpos; rw [if_neg (by omega), if_neg (by omega)]
theorem rcore_nup {n d : Int} (hn : n < 0) (h : d ≤ 2 * (-n % d)) : rcore n d = -(-n / d + 1) := by
  unfold rcore rpos; rw [if_pos hn, if_pos h]
theorem rcore_ndown {n d : Int} (hn : n < 0) (h : 2 * (-n % d) < d) : rcore n d = -(-n / d) := by
  unfold rcore rpos; rw [if_pos hn, if_neg (by omega)]

/-- a product of two numbers between bounds -/
theorem mul_between {a b A B : Int} (ha0 : -A ≤ a) (ha1 : a ≤ A) (hb0 : -B ≤ b) (hb1 : b ≤ B) : -(A * B) ≤ a * b ∧ a * b ≤ A * B := by
  have h1 : (a * b).natAbs ≤ (A * B).natAbs := by
    rw [Int.natAbs_mul, Int.natAbs_mul]; exact Nat.mul_le_mul (by omega) (by omega)
  have h2 : 0 ≤ A * B := Int.mul_nonneg (by omega) (by omega)
  omega
theorem satmul (a b : Int) : -288230375077969921 ≤ sat a * sat b ∧ sat a * sat b ≤ 288230375077969921 := by
  have := mul_between (sat_ge a) (sat_le a) (sat_ge b) (sat_le b)
  omega

end Go.Proofs.Ytconfbdnhalmoaa.Fx

/- Plain mathematics of digits: how many there are, by the number of bits; which each is; a digit more, by shift and or. No program is imported. -/
import Derived.Test.YtgpcldhgkaddeaaByM
import Derived.Laws.MathBits
import Derived.Lib.BitFns
set_option linter.unusedVariables false
namespace Go.Proofs.Ytgpcldhgkaddeaa.By
open Go

theorem blen_one {x : Nat} (h : x ≠ 0) : Go.bitLen x = 1 + Go.bitLen (x / 2) := by
  by_cases h1 : x / 2 = 0
  · obtain rfl : x = 1 := by omega
    decide
  · simpa using Go.bitLen_shift x 1 (by simpa using h1)
theorem blen_aux : ∀ (f x : Nat), x < 2 ^ f → Lib.bitLenAux f x = Go.bitLen x
  | 0, x, h => by
    obtain rfl : x = 0 := by simpa using h
    rfl
  | f + 1, x, h => by
    unfold Lib.bitLenAux
    by_cases h0 : x = 0
    · rw [if_pos h0, h0]; rfl
    · rw [if_neg h0, blen_aux f (x / 2) (by rw [Nat.pow_succ] at h; omega), blen_one h0]
theorem blen_div (m : Nat) (h : m / 256 ≠ 0) : Go.bitLen m = 8 + Go.bitLen (m / 256) := by simpa using Go.bitLen_shift m 8 (by simpa using h)
theorem blen_small {m : Nat} (h0 : m ≠ 0) (h : m / 256 = 0) : (Go.bitLen m + 7) / 8 = 1 := by
  have h1 := (Go.bitLen_spec m).2 h0
  have h2 : 1 ≤ Go.bitLen m := by unfold Go.bitLen; rw [if_neg h0]; omega
  have h3 : Go.bitLen m ≤ 8 := by
    false_or_by_contra
    have h4 : 2 ^ 8 ≤ 2 ^ (Go.bitLen m - 1) := Nat.pow_le_pow_right (by omega) (by omega)
    have h5 : (2 : Nat) ^ 8 = 256 := by decide
    omega
  omega
theorem dig_bits : ∀ m : Nat, (dig m).length = (Go.bitLen m + 7) / 8 := by
  intro m
  induction m using Nat.strongRecOn with
  | _ m ih =>
    by_cases h : m = 0
    · rw [h, dig_zero]; rfl
    · rw [dig_pos h, List.length_append, ih (m / 256) (by omega)]
      by_cases h1 : m / 256 = 0
      · rw [blen_small h h1, h1]; rfl
      · rw [blen_div m h1]; simp; omega
/-- As many digits as bytes are wanted for the bits. -/
theorem dig_size {m : Nat} (h : m < 2 ^ 64) : (dig m).length = (Lib.bitLen m + 7) / 8 := by
  rw [dig_bits, show Lib.bitLen m = Go.bitLen m from blen_aux 64 m h]
/-- Which digit stands where. -/
theorem dig_get : ∀ (m k p : Nat), (dig m).length = k + 1 + p → (dig m)[k]? = some (((m / 256 ^ p % 256 : Nat)) : Int) := by
  intro m
  induction m using Nat.strongRecOn with
  | _ m ih =>
    intro k p h
    by_cases h0 : m = 0
    · rw [h0, dig_zero] at h; simp at h; omega
    · rw [dig_pos h0, List.length_append] at h
      rw [dig_pos h0]
      simp at h
      cases p with
      | zero => rw [List.getElem?_append_right (by omega), show k - (dig (m / 256)).length = 0 by omega]; simp
      | succ p => rw [List.getElem?_append_left (by omega), ih (m / 256) (by omega) k p (by omega), Nat.div_div_eq_div_mul, Nat.pow_succ, Nat.mul_comm 256]
theorem dig_take {m k p : Nat} (h : (dig m).length = k + 1 + p) : (dig m).take (k + 1) = (dig m).take k ++ [((m / 256 ^ p % 256 : Nat) : Int)] := by
  rw [List.take_add_one, dig_get m k p h]; rfl
theorem pow8 (p : Nat) : (2 : Nat) ^ (8 * p) = 256 ^ p := by rw [Nat.pow_mul]
/-- A digit by shift and cut. -/
theorem dig_shr (m p : Nat) : (m : Int) / 2 ^ (8 * p) % 256 = ((m / 256 ^ p % 256 : Nat) : Int) := by
  have : ((2 : Int) ^ (8 * p)) = ((256 ^ p : Nat) : Int) := by rw [← pow8]; simp
  rw [this]
  simp
/-- A digit more by shift and or. -/
theorem or_digit (m x : Nat) (hx : x < 256) : (m * 256 ||| x) = m * 256 + x := by
  have := Nat.shiftLeft_add_eq_or_of_lt (i := 8) (b := x) (by simpa using hx) m
  rw [Nat.shiftLeft_eq] at this
  simpa using this.symm

end Go.Proofs.Ytgpcldhgkaddeaa.By

/- Plain mathematics: the laws of rounded division, of neutral elements and of ranges that the statements of chapter 1 speak of. No program is imported. -/
import Derived.Test.YtconfbdnhalmoaaFy
set_option linter.unusedVariables false
namespace Go.Proofs.Ytconfbdnhalmoaa.Fx

theorem rpos_near {m d : Int} (hm : 0 ≤ m) (hd : 1 ≤ d) : 2 * (m - rpos m d * d) ≤ d ∧ 2 * (rpos m d * d - m) ≤ d := by
  have he := euclid m d hd
  unfold rpos
  split
  · rw [Int.add_mul]; omega
  · omega
theorem rcore_near {n d : Int} (hd : 1 ≤ d) : 2 * (n - rcore n d * d) ≤ d ∧ 2 * (rcore n d * d - n) ≤ d := by
  unfold rcore
  split
  · have := rpos_near (m := -n) (d := d) (by omega) hd
    rw [Int.neg_mul]; omega
  · exact rpos_near (by omega) hd
theorem rcore_half {n d : Int} (hd : 2 ≤ d) (h1 : -4611686018427387904 ≤ n) (h2 : n ≤ 4611686018427387904) : -2305843009213693952 ≤ rcore n d ∧ rcore n d ≤ 2305843009213693952 := by
  have hn := rcore_near (n := n) (d := d) (by omega)
  constructor
  · false_or_by_contra
    have : (-rcore n d) * d ≥ 2305843009213693953 * d := Int.mul_le_mul_of_nonneg_right (by omega) (by omega)
    rw [Int.neg_mul] at this; omega
  · false_or_by_contra
    have : rcore n d * d ≥ 2305843009213693953 * d := Int.mul_le_mul_of_nonneg_right (by omega) (by omega)
    omega

theorem rcore_one (x d : Int) (hd : 1 ≤ d) : rcore (x * d) d = x := by
  have h0 : x * d / d = x := Int.mul_ediv_cancel x (by omega)
  have h1 : -(x * d) / d = -x := by rw [← Int.neg_mul]; exact Int.mul_ediv_cancel (-x) (by omega)
  have m0 : x * d % d = 0 := Int.mul_emod_left x d
  have m1 : -(x * d) % d = 0 := by rw [← Int.neg_mul]; exact Int.mul_emod_left (-x) d
  unfold rcore rpos
  rw [h0, h1, m0, m1]
  split
  · rw [if_neg (by omega)]; omega
  · rw [if_neg (by omega)]
theorem add_comm (a b : Int) : add a b = add b a := by unfold add; rw [Int.add_comm]
theorem mul_comm (a b : Int) : mul a b = mul b a := by unfold mul; rw [Int.mul_comm]
theorem sub_anti (a b : Int) : sub a b = -sub b a := by unfold sub; rw [← sat_neg]; congr 1; omega
theorem sat_one : sat 65536 = 65536 := by decide +kernel
theorem sat_zero : sat 0 = 0 := by decide +kernel
theorem rdiv_one (a : Int) : rdiv (sat a * 65536) 65536 = sat a := by
  have h1 := sat_le a; have h2 := sat_ge a
  rw [rdiv_in (by omega) (by omega) (by omega) (by omega)]; exact rcore_one _ _ (by omega)
theorem mul_one (a : Int) : mul a 65536 = sat a := by unfold mul; rw [sat_one, rdiv_one, sat_sat]
theorem quo_one (a : Int) : quo a 65536 = sat a := by rw [quo_pos (by omega), sat_one, rdiv_one, sat_sat]
theorem add_zero (a : Int) : add a 0 = sat a := by unfold add; rw [sat_zero, Int.add_zero, sat_sat]
theorem mul_zero (a : Int) : mul a 0 = 0 := by
  unfold mul; rw [sat_zero, Int.mul_zero]; decide +kernel
theorem lerp_zero (a b : Int) : lerp a b 0 = sat a := by unfold lerp; rw [mul_zero, add_zero]
theorem add_sat (a b : Int) : sat (add a b) = add a b := by unfold add; rw [sat_sat]
theorem dz_sat (a : Int) : sat (dz a) = dz a := by
  unfold dz; split
  · decide +kernel
  · split <;> decide +kernel
theorem quo_sat (a b : Int) : sat (quo a b) = quo a b := by
  unfold quo; split
  · exact dz_sat a
  · split <;> exact sat_sat _
theorem lerp_sat (a b t : Int) : sat (lerp a b t) = lerp a b t := by unfold lerp; exact add_sat _ _
theorem clamp_ge (x low high : Int) : low ≤ clamp x low high := by unfold clamp; split <;> (try split) <;> omega
theorem clamp_le (x low high : Int) : clamp x low high ≤ high ∨ high < low := by unfold clamp; split <;> (try split) <;> omega

end Go.Proofs.Ytconfbdnhalmoaa.Fx

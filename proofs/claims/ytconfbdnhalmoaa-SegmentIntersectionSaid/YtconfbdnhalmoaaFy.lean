/- Plain mathematics: Mul, Div, Lerp, Ratio and Clamp. No program is imported. -/
import Derived.Test.YtconfbdnhalmoaaFx
set_option linter.unusedVariables false
namespace Go.Proofs.Ytconfbdnhalmoaa.Fx

def mul (a b : Int) : Int := sat (rdiv (sat a * sat b) 65536)
def dz (a : Int) : Int := if 0 < a then 536870911 else if a < 0 then -536870911 else 0
def quo (a b : Int) : Int := if b = 0 then dz a else if b < 0 then sat (rdiv (-(sat a * 65536)) (-sat b)) else sat (rdiv (sat a * 65536) (sat b))
def lerp (a b t : Int) : Int := add a (mul (sub b a) t)
def clamp (x low high : Int) : Int := if high < low ∨ x < low then low else if high < x then high else x
def ratio (n d : Int) : Int :=
  if d < 1 ∨ 4611686018427387904 < d ∨ n < 1 then 0 else if d ≤ n then 65536
  else if d < 70368744177664 then rdiv (n * 65536) d else min 65536 (rdiv n (rdiv d 65536))

theorem dz_pos {a : Int} (h : 0 < a) : dz a = 536870911 := by unfold dz; rw [if_pos h]
theorem dz_neg {a : Int} (h : a < 0) : dz a = -536870911 := by unfold dz; rw [if_neg (by omega), if_pos h]
theorem dz_zero {a : Int} (h : a = 0) : dz a = 0 := by unfold dz; rw [if_neg (by omega), if_neg (by omega)]
theorem quo_zero {a b : Int} (h : b = 0) : quo a b = dz a := by unfold quo; rw [if_pos h]
theorem quo_neg {a b : Int} (h : b < 0) : quo a b = sat (rdiv (-(sat a * 65536)) (-sat b)) := by unfold quo; rw [if_neg (by omega), if_pos h]
theorem quo_pos {a b : Int} (h : 0 < b) : quo a b = sat (rdiv (sat a * 65536) (sat b)) := by unfold quo; rw [if_neg (by omega), if_neg (by omega)]
theorem ratio_out {n d : Int} (h : d < 1 ∨ 4611686018427387904 < d ∨ n < 1) : ratio n d = 0 := by unfold ratio; rw [if_pos h]
theorem ratio_one {n d : Int} (h1 : 1 ≤ d) (h2 : d ≤ 4611686018427387904) (h3 : 1 ≤ n) (h : d ≤ n) : ratio n d = 65536 := by
  unfold ratio; rw [if_neg (by omega), if_pos h]
theorem ratio_low {n d : Int} (h2 : d ≤ 4611686018427387904) (h3 : 1 ≤ n) (h : n < d) (h4 : d < 70368744177664) : ratio n d = rdiv (n * 65536) d := by
  unfold ratio; rw [if_neg (by omega), if_neg (by omega), if_pos h4]
theorem ratio_high {n d : Int} (h2 : d ≤ 4611686018427387904) (h3 : 1 ≤ n) (h : n < d) (h4 : 70368744177664 ≤ d) : ratio n d = min 65536 (rdiv n (rdiv d 65536)) := by
  unfold ratio; rw [if_neg (by omega), if_neg (by omega), if_neg (by omega)]
theorem clamp_low {x low high : Int} (h : high < low ∨ x < low) : clamp x low high = low := by unfold clamp; rw [if_pos h]
theorem clamp_high {x low high : Int} (h1 : low ≤ high) (h2 : low ≤ x) (h : high < x) : clamp x low high = high := by unfold clamp; rw [if_neg (by omega), if_pos h]
theorem clamp_in {x low high : Int} (h1 : low ≤ high) (h2 : low ≤ x) (h : x ≤ high) : clamp x low high = x := by unfold clamp; rw [if_neg (by omega), if_neg (by omega)]

end Go.Proofs.Ytconfbdnhalmoaa.Fx

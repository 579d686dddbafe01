/- Plain mathematics of vectors: the Lean functions, component by component, that the contracts of package vec2 and of its reference speak of. No program is imported. -/
import Derived.Test.YtconfbdnhalmoaaFz
import Derived.Test.YtconfbdnhalmoaaSq
set_option linter.unusedVariables false
namespace Go.Proofs.Ytconfbdnhalmoaa.Fx

def dot (ax ay bx b_y : Int) : Int := sat (rdiv (sat ax * sat bx + sat ay * sat b_y) 65536)
def cross (ax ay bx b_y : Int) : Int := sat (rdiv (sat ax * sat b_y - sat ay * sat bx) 65536)
def vlen (x y : Int) : Int := isq (sat x * sat x + sat y * sat y)
/-- A component of the unit vector. -/
def unit (c l : Int) : Int := if l = 0 then 0 else quo c l
def rotx (c s x y : Int) : Int := sat (rdiv (sat c * sat x - sat s * sat y) 65536)
def roty (c s x y : Int) : Int := sat (rdiv (sat s * sat x + sat c * sat y) 65536)
def irotx (c s x y : Int) : Int := sat (rdiv (sat c * sat x + sat s * sat y) 65536)
def iroty (c s x y : Int) : Int := sat (rdiv (sat c * sat y - sat s * sat x) 65536)
def det (ax ay bx b_y cx cy : Int) : Int := (sat bx - sat ax) * (sat cy - sat ay) - (sat b_y - sat ay) * (sat cx - sat ax)
def sgn (n : Int) : Int := if 0 < n then 1 else if n < 0 then -1 else 0
def orient (ax ay bx b_y cx cy : Int) : Int := sgn (det ax ay bx b_y cx cy)
def dist2 (ax ay bx b_y : Int) : Int := (sat bx - sat ax) * (sat bx - sat ax) + (sat b_y - sat ay) * (sat b_y - sat ay)

theorem sgn_pos {n : Int} (h : 0 < n) : sgn n = 1 := by unfold sgn; rw [if_pos h]
theorem sgn_neg {n : Int} (h : n < 0) : sgn n = -1 := by unfold sgn; rw [if_neg (by omega), if_pos h]
theorem sgn_zero {n : Int} (h1 : ¬ 0 < n) (h2 : ¬ n < 0) : sgn n = 0 := by unfold sgn; rw [if_neg h1, if_neg h2]
theorem sgn_opp (n : Int) : sgn (-n) = -sgn n := by unfold sgn; split <;> split <;> (try split) <;> (try split) <;> omega

theorem diffmul {a b c d : Int} : -4611686014132420609 ≤ (sat a - sat b) * (sat c - sat d) ∧ (sat a - sat b) * (sat c - sat d) ≤ 4611686014132420609 := by
  have h1 := sat_le a; have h2 := sat_ge a; have h3 := sat_le b; have h4 := sat_ge b; have h5 := sat_le c; have h6 := sat_ge c; have h7 := sat_le d; have h8 := sat_ge d
  have := mul_between (a := sat a - sat b) (b := sat c - sat d) (A := 1073741822) (B := 1073741822) (by omega) (by omega) (by omega) (by omega)
  omega

end Go.Proofs.Ytconfbdnhalmoaa.Fx

/- What the convex hull of the reference is: mathematics over hullP, lowP, highP, colP.
Lists of vertices that are rotated or reversed: mathematics.
The shortest edge of rotated vertices; what Support hands back.
Plain mathematics of convex polygons: a linear function takes its smallest value over the polygon at a corner. No program is imported. -/
import Derived.Test.YtdmcdicphohlfaaGreatCo8
import Derived.Test.YtdmcdicphohlfaaGreatMa1

set_option linter.unusedVariables false
namespace Go.Proofs.YtdmcdicphohlfaaGreat
open Go.RowKit Fx

def isHigh (S : List Pt) (p : Pt) : Prop := p ∈ S ∧ ∀ r ∈ S, lexLe r p
theorem isHigh.unique {S : List Pt} {p q : Pt} (h : isHigh S p) (k : isHigh S q) : p = q := (k.2 p h.1).antisymm (h.2 q k.1)
structure Okp (ps : List Pt) : Prop where
  h0 : 0 < ps.length
  h64 : ps.length ≤ 64
  hin : ∀ p ∈ ps, inrP p
end Go.Proofs.YtdmcdicphohlfaaGreat

set_option linter.unusedVariables false
namespace Go.Proofs.YtdmcdicphohlfaaGreat
open Go.RowKit Fx

theorem d2_self (p : Pt) : d2 p p = 0 := by unfold d2; grind
theorem sq_nn (a : Int) : 0 ≤ a * a := by
  rcases Int.le_total 0 a with h | h
  · exact Int.mul_nonneg h h
  · have := Int.mul_nonneg (show 0 ≤ -a by omega) (show 0 ≤ -a by omega); grind
theorem d2_nn (p q : Pt) : 0 ≤ d2 p q := by
  unfold d2
  have a := sq_nn (q.1 - p.1)
  have b := sq_nn (q.2 - p.2)
  omega
end Go.Proofs.YtdmcdicphohlfaaGreat

set_option linter.unusedVariables false
namespace Go.Proofs.YtdmcdicphohlfaaGreat
open Go.RowKit Fx

end Go.Proofs.YtdmcdicphohlfaaGreat

set_option linter.unusedVariables false
namespace Go.Proofs.YtdmcdicphohlfaaGreat.Fx

end Go.Proofs.YtdmcdicphohlfaaGreat.Fx

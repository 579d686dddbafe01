/- Contracts of package segment: each function returns what the Lean functions of the same meaning give (the same as for the reference), and nothing that existed has changed. No conditions.
Contracts of package segment, continued: the candidates.
Contracts of package segment, continued: ClosestPoints, Distance. -/
import Derived.Test.YtaahgblkmajceaaGreatCo5
import Derived.Test.YtaahgblkmajceaaGreatCo4
import Derived.RegionTactic
import Derived.BigRegion
import Derived.Deep.DeepCutAuto

set_option linter.unusedVariables false
namespace Go.Proofs.YtaahgblkmajceaaGreat
open Go.RowKit Fx

theorem sdist_all (ax ay bx b_y cx cy dx dy : Int) : sdist ax ay bx b_y cx cy dx dy = sat (isq (dist2 (cps ax ay bx b_y cx cy dx dy).px (cps ax ay bx b_y cx cy dx dy).py (cps ax ay bx b_y cx cy dx dy).qx (cps ax ay bx b_y cx cy dx dy).qy)) := by
  cases h : isct ax ay bx b_y cx cy dx dy
  · exact sdist_cps h
  · rw [sdist_isct h]
    unfold cps
    rw [if_pos h]
    dsimp only
    rw [show ∀ p q : Int, dist2 p q p q = 0 from fun p q => by unfold dist2; simp]
    decide +kernel

end Go.Proofs.YtaahgblkmajceaaGreat

set_option linter.unusedVariables false
namespace Go.Proofs.YtaahgblkmajceaaGreat
open Go.RowKit Fx

end Go.Proofs.YtaahgblkmajceaaGreat

set_option linter.unusedVariables false
namespace Go.Proofs.YtaahgblkmajceaaGreat
open Go.RowKit Fx

end Go.Proofs.YtaahgblkmajceaaGreat

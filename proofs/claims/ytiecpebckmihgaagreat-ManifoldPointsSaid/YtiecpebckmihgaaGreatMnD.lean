/- Plain mathematics of chapter 16: a polygon that contains a point comes near it; what the distance of two segments says of their contact. No program is imported. -/
import Derived.Test.YtiecpebckmihgaaGreatMm
set_option linter.unusedVariables false
namespace Go.Proofs.YtiecpebckmihgaaGreat
open Fx

end Go.Proofs.YtiecpebckmihgaaGreat

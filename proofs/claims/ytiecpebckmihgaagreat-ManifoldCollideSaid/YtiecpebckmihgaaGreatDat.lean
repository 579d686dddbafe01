/- Structured data among a statement's arguments: the argument is a slice, or a struct, and its cells are read. No program is imported. -/
import Derived.Test.YtiecpebckmihgaaGreatKi3
set_option linter.unusedVariables false
namespace Go.Proofs.YtiecpebckmihgaaGreat
open Go.RowKit

section
open Go.ChangeShapes Go.WideShapes Go.Deep
variable {H : Type} {enc : TypeId × Value → H} {P : Program} {w : World} {base B : Nat} {spare : Nat → Bool} {held : Bool}
end

end Go.Proofs.YtiecpebckmihgaaGreat

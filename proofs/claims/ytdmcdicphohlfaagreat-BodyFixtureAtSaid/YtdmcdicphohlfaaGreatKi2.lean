/- Slices of points in memory: what the cells hold; worlds that have grown. No program is imported.
Slices of points among a statement's arguments: no memory, no capacity. No program is imported.
A shape (two numbers and a slice of points) among a statement's arguments. No program is imported.
The corners of a box in memory. No program is imported. -/
import Derived.Test.YtdmcdicphohlfaaGreatKi1
import Derived.LoopTactic
import Derived.Deep.SlicePairs
import Derived.Lib.SmallJoins
import Derived.Test.YtdmcdicphohlfaaGreatMa1

set_option linter.unusedVariables false
namespace Go.Proofs.YtdmcdicphohlfaaGreat
open Go.RowKit

section
open Go.ChangeShapes Go.WideShapes Go.Deep
end

end Go.Proofs.YtdmcdicphohlfaaGreat

set_option linter.unusedVariables false
namespace Go.Proofs.YtdmcdicphohlfaaGreat
open Go.RowKit

section
open Go.ChangeShapes Go.WideShapes Go.Deep
end

end Go.Proofs.YtdmcdicphohlfaaGreat

set_option linter.unusedVariables false
namespace Go.Proofs.YtdmcdicphohlfaaGreat
open Go.RowKit Opn

section
open Go.ChangeShapes Go.WideShapes Go.Deep Go.Lib
end

end Go.Proofs.YtdmcdicphohlfaaGreat

set_option linter.unusedVariables false
namespace Go.Proofs.YtdmcdicphohlfaaGreat
open Go.RowKit

end Go.Proofs.YtdmcdicphohlfaaGreat

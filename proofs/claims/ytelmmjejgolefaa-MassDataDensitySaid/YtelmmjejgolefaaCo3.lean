/- Contracts of package angle and of its reference: each function returns the number (or the rotation) that the Lean function of the same meaning gives, and nothing that existed has changed. No conditions.
The contracts of chapter 2 that later chapters call, of the program and of the reference, in the form that they use: nothing below the heap's old size has turned. No conditions.
Contracts of package transform and of its reference: each returns what the Lean functions of the same meaning give, component by component, and nothing that existed has changed. No conditions. -/
import Derived.Test.YtelmmjejgolefaaCo1
import Derived.Test.YtelmmjejgolefaaMa3
import Derived.Test.YtelmmjejgolefaaCo2

set_option linter.unusedVariables false
namespace Go.Proofs.Ytelmmjejgolefaa
open Go.RowKit Fx

end Go.Proofs.Ytelmmjejgolefaa

set_option linter.unusedVariables false
namespace Go.Proofs.Ytelmmjejgolefaa
open Go.RowKit Fx

end Go.Proofs.Ytelmmjejgolefaa

set_option linter.unusedVariables false
namespace Go.Proofs.Ytelmmjejgolefaa
open Go.RowKit Fx

end Go.Proofs.Ytelmmjejgolefaa

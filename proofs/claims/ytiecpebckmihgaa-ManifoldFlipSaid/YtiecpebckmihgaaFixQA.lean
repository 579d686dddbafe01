/- Contracts of the reference of chapter 14. -/
import Derived.Test.YtiecpebckmihgaaCo7
import Derived.Test.YtiecpebckmihgaaCo2
import Derived.Test.YtiecpebckmihgaaSx
set_option linter.unusedVariables false
namespace Go.Proofs.Ytiecpebckmihgaa
open Go.RowKit Fx

end Go.Proofs.Ytiecpebckmihgaa

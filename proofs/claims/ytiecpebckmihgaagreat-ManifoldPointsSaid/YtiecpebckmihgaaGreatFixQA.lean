/- Contracts of the reference of chapter 14. -/
import Derived.Test.YtiecpebckmihgaaGreatCo7
import Derived.Test.YtiecpebckmihgaaGreatCo2
import Derived.Test.YtiecpebckmihgaaGreatSx
set_option linter.unusedVariables false
namespace Go.Proofs.YtiecpebckmihgaaGreat
open Go.RowKit Fx

end Go.Proofs.YtiecpebckmihgaaGreat

/- What a field of a struct value is, for each struct type and field that the program's code asks (one law each, by the kernel). -/
import Derived.Test.YtconfbdnhalmoaaProg
import Derived.WalkKit
set_option linter.unusedVariables false
namespace Go.Proofs.Ytconfbdnhalmoaa



end Go.Proofs.Ytconfbdnhalmoaa

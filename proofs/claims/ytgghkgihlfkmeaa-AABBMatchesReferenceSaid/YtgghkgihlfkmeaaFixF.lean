/- Contracts of Isqrt and Sqrt, of the program and of the reference: each returns the integer square root isq (0 outside its range), and leaves the world as it is up to draws. No conditions. -/
import Derived.Test.YtgghkgihlfkmeaaFixC
import Derived.Test.YtgghkgihlfkmeaaSq
import Derived.Test.YtgghkgihlfkmeaaLen
set_option linter.unusedVariables false
namespace Go.Proofs.Ytgghkgihlfkmeaa
open Go.RowKit Fx

theorem isq_max (s : Int) (h0 : -536870911 ≤ s) (h1 : s ≤ 536870911) : isq (max 0 s * 65536) = isq (s * 65536) := by
  by_cases h : s < 0
  · rw [isq_out (n := s * 65536) (by omega), show max 0 s * 65536 = 0 from by omega]
    exact isq_eq (by omega) (by omega) (by omega) (by omega) (by omega)
  · rw [show max 0 s = s from by omega]

end Go.Proofs.Ytgghkgihlfkmeaa

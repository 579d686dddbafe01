/- Contracts of the reference's outOfRange and RoundDiv: RoundDiv returns rdiv n d, whatever n and d are, and leaves the world as it is up to draws. No conditions. -/
import Derived.Test.YtgghkgihlfkmeaaFixB
namespace Go.Proofs.Ytgghkgihlfkmeaa
open Go.RowKit Fx

end Go.Proofs.Ytgghkgihlfkmeaa

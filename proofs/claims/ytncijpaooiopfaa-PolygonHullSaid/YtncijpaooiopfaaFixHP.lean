/- Contracts of package polygon, over the code that landed (commit dbbf1794): gathered. -/
import Derived.Test.YtncijpaooiopfaaPgb
import Derived.Test.YtncijpaooiopfaaPgc
import Derived.Test.YtncijpaooiopfaaPgi
import Derived.Test.YtncijpaooiopfaaKi3
import Derived.Test.YtncijpaooiopfaaCo8
namespace Go.Proofs.Ytncijpaooiopfaa
end Go.Proofs.Ytncijpaooiopfaa


/- The program's way to a short base, walked: a closure that recurs, over two variables of its own. Under what a base keeps. -/
import Derived.Test.YtnbbgfcnbgjahaaShA
namespace Go.Proofs.Ytnbbgfcnbgjahaa
open Go.RowKit

end Go.Proofs.Ytnbbgfcnbgjahaa

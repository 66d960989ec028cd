
/- The program's words with each letter changed, and backwards, walked. -/
import Derived.Test.YtaafldnnphcmmaaFracWord
import Derived.Test.YtaafldnnphcmmaaImplW
namespace Go.Proofs.Ytaafldnnphcmmaa
open Go.RowKit Go.Shelf
attribute [local go_sem] Oper.semAt_some
attribute [local go_sem ↓] app_held

end Go.Proofs.Ytaafldnnphcmmaa

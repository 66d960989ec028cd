
/- What the exact laws use besides: a matrix copied, two of them compared. -/
import Derived.Test.YtaafldnnphcmmaaBase
namespace Go.Proofs.Ytaafldnnphcmmaa
open Go.RowKit

end Go.Proofs.Ytaafldnnphcmmaa

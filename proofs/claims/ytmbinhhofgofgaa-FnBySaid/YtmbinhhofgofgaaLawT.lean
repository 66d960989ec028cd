
/- What the exact laws use besides: a matrix copied, two of them compared. -/
import Derived.Test.YtmbinhhofgofgaaBase
namespace Go.Proofs.Ytmbinhhofgofgaa
open Go.RowKit

end Go.Proofs.Ytmbinhhofgofgaa

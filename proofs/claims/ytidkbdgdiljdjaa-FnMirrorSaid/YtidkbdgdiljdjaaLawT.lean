
/- What the exact laws use besides: a matrix copied, two of them compared. -/
import Derived.Test.YtidkbdgdiljdjaaBase
namespace Go.Proofs.Ytidkbdgdiljdjaa
open Go.RowKit

end Go.Proofs.Ytidkbdgdiljdjaa


/- What the exact laws use besides: a matrix copied, two of them compared. -/
import Derived.Test.YtphjoeocmhaboaaBase
namespace Go.Proofs.Ytphjoeocmhaboaa
open Go.RowKit

end Go.Proofs.Ytphjoeocmhaboaa


/- What the exact laws use besides: a matrix copied, two of them compared. -/
import Derived.Test.YteepjgamcgceoaaBase
namespace Go.Proofs.Yteepjgamcgceoaa
open Go.RowKit

end Go.Proofs.Yteepjgamcgceoaa


/- What the exact laws use besides: a matrix copied, two of them compared. -/
import Derived.Test.YtkihoccfmjigiaaBase
namespace Go.Proofs.Ytkihoccfmjigiaa
open Go.RowKit

end Go.Proofs.Ytkihoccfmjigiaa


/- The model's powers, walked. -/
import Derived.Test.YteepjgamcgceoaaSpecB
namespace Go.Proofs.Yteepjgamcgceoaa
open Go.RowKit

end Go.Proofs.Yteepjgamcgceoaa

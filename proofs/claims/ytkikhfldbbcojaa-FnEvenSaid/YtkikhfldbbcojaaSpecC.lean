
/- The model's powers, walked. -/
import Derived.Test.YtkikhfldbbcojaaSpecB
namespace Go.Proofs.Ytkikhfldbbcojaa
open Go.RowKit

end Go.Proofs.Ytkikhfldbbcojaa

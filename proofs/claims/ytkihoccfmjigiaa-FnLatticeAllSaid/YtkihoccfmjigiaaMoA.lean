
/- The program's small functions by a modulus, walked: rests, even rest matrices, points. No condition. -/
import Derived.Test.YtkihoccfmjigiaaMoP
import Derived.Test.YtkihoccfmjigiaaImplB
import Derived.Test.YtkihoccfmjigiaaHeld
namespace Go.Proofs.Ytkihoccfmjigiaa
open Go.RowKit

end Go.Proofs.Ytkihoccfmjigiaa

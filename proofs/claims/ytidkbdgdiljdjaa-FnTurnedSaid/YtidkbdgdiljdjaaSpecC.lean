
/- The model's powers, walked. -/
import Derived.Test.YtidkbdgdiljdjaaSpecB
namespace Go.Proofs.Ytidkbdgdiljdjaa
open Go.RowKit

end Go.Proofs.Ytidkbdgdiljdjaa

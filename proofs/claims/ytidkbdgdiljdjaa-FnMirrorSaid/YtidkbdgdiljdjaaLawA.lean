
/- What the exact laws use besides: a matrix copied, two of them compared; and the laws whose answers are numbers and truths alone, walked. -/
import Derived.Test.YtidkbdgdiljdjaaSpecC
import Derived.Test.YtidkbdgdiljdjaaLawT
import Derived.Deep.DeepCutAuto
namespace Go.Proofs.Ytidkbdgdiljdjaa
open Go.RowKit

end Go.Proofs.Ytidkbdgdiljdjaa

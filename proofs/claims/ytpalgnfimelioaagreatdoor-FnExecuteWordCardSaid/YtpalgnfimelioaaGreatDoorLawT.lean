
/- What the exact laws use besides: a matrix copied, two of them compared. -/
import Derived.Test.YtpalgnfimelioaaGreatDoorBase
namespace Go.Proofs.YtpalgnfimelioaaGreatDoor
open Go.RowKit

end Go.Proofs.YtpalgnfimelioaaGreatDoor

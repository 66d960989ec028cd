
/- Closed facts on the program alone, each reckoned by the kernel once: what every given row of this seat asks of it (its make). -/
import Derived.Test.YtpalgnfimelioaaGreatDoorRows
import Derived.JoinedOf
import Derived.KernelRfl
namespace Go.Proofs.YtpalgnfimelioaaGreatDoor
open Go
theorem pMake : (Tryz.prog.make == some .cut) = true := by kernel_rfl
end Go.Proofs.YtpalgnfimelioaaGreatDoor

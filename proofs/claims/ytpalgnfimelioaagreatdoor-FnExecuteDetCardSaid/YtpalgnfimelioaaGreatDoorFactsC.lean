
/- Closed facts on the program alone, each reckoned by the kernel once: what every given row of this seat asks of it (it lifts no final one). -/
import Derived.Test.YtpalgnfimelioaaGreatDoorRows
import Derived.JoinedOf
import Derived.KernelRfl
namespace Go.Proofs.YtpalgnfimelioaaGreatDoor
open Go
theorem pLift : (false == Tryz.prog.liftsFinal) = true := by kernel_rfl
end Go.Proofs.YtpalgnfimelioaaGreatDoor

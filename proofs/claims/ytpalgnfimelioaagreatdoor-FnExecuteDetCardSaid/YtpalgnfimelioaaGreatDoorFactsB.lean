
/- Closed facts on the program alone, each reckoned by the kernel once: what every given row of this seat asks of it (it may be entered). -/
import Derived.Test.YtpalgnfimelioaaGreatDoorRows
import Derived.JoinedOf
import Derived.KernelRfl
namespace Go.Proofs.YtpalgnfimelioaaGreatDoor
open Go
theorem pEnter : Tryz.prog.mayEnter = true := by kernel_rfl
end Go.Proofs.YtpalgnfimelioaaGreatDoor

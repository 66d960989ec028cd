
/- Closed facts on the program alone, each reckoned by the kernel once: what every given row of this seat asks of it (it lifts no final one). -/
import Derived.Test.YtbpaklcibkifnaaDoorRows
import Derived.JoinedOf
import Derived.KernelRfl
namespace Go.Proofs.YtbpaklcibkifnaaDoor
open Go
theorem pLift : (false == Tryd.prog.liftsFinal) = true := by kernel_rfl
end Go.Proofs.YtbpaklcibkifnaaDoor

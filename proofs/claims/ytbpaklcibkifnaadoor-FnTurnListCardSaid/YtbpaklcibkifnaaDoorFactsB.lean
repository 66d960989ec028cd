
/- Closed facts on the program alone, each reckoned by the kernel once: what every given row of this seat asks of it (it may be entered). -/
import Derived.Test.YtbpaklcibkifnaaDoorRows
import Derived.JoinedOf
import Derived.KernelRfl
namespace Go.Proofs.YtbpaklcibkifnaaDoor
open Go
theorem pEnter : Tryd.prog.mayEnter = true := by kernel_rfl
end Go.Proofs.YtbpaklcibkifnaaDoor

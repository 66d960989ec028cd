
/- Closed facts on the program alone, each reckoned by the kernel once: what every given row of this seat asks of it (it may be entered). -/
import Derived.Test.YtohkmdpefplddaaRows
import Derived.JoinedOf
import Derived.KernelRfl
namespace Go.Proofs.Ytohkmdpefplddaa
open Go
theorem pEnter : Try.prog.mayEnter = true := by kernel_rfl
end Go.Proofs.Ytohkmdpefplddaa

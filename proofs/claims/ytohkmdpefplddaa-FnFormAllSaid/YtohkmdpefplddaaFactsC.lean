
/- Closed facts on the program alone, each reckoned by the kernel once: what every given row of this seat asks of it (it lifts no final one). -/
import Derived.Test.YtohkmdpefplddaaRows
import Derived.JoinedOf
import Derived.KernelRfl
namespace Go.Proofs.Ytohkmdpefplddaa
open Go
theorem pLift : (false == Try.prog.liftsFinal) = true := by kernel_rfl
end Go.Proofs.Ytohkmdpefplddaa

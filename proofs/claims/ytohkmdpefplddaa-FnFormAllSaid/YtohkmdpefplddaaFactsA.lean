
/- Closed facts on the program alone, each reckoned by the kernel once: what every given row of this seat asks of it (small ones). -/
import Derived.Test.YtohkmdpefplddaaRows
import Derived.JoinedOf
import Derived.KernelRfl
namespace Go.Proofs.Ytohkmdpefplddaa
open Go
theorem pOwn : ownKnob Try.prog.godebug = none := by kernel_rfl
theorem pLaid : laidOutB Try.prog = true := by kernel_rfl
theorem pMaps : mapsRowed Try.prog = true := by kernel_rfl
theorem pStops : (Try.prog.stops == []) = true := by kernel_rfl
theorem pKnobs : (Try.prog.stopKnobs == []) = true := by kernel_rfl
theorem pKeys : (true == Try.prog.plainKeys) = true := by kernel_rfl
theorem pHeard : Try.prog.stopsHeard = true := by kernel_rfl
end Go.Proofs.Ytohkmdpefplddaa

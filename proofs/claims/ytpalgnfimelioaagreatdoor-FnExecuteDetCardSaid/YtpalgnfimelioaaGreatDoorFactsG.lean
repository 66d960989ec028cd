
/- Closed facts on the program alone, each reckoned by the kernel once: what every given row of this seat asks of it (small ones). -/
import Derived.Test.YtpalgnfimelioaaGreatDoorRows
import Derived.JoinedOf
import Derived.KernelRfl
namespace Go.Proofs.YtpalgnfimelioaaGreatDoor
open Go
theorem pOwn : ownKnob Tryz.prog.godebug = none := by kernel_rfl
theorem pLaid : laidOutB Tryz.prog = true := by kernel_rfl
theorem pMaps : mapsRowed Tryz.prog = true := by kernel_rfl
theorem pStops : (Tryz.prog.stops == []) = true := by kernel_rfl
theorem pKnobs : (Tryz.prog.stopKnobs == []) = true := by kernel_rfl
theorem pKeys : (false == Tryz.prog.plainKeys) = true := by kernel_rfl
theorem pHeard : Tryz.prog.stopsHeard = true := by kernel_rfl
end Go.Proofs.YtpalgnfimelioaaGreatDoor

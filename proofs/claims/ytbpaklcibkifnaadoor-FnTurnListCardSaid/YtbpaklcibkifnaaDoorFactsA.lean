
/- Closed facts on the program alone, each reckoned by the kernel once: what every given row of this seat asks of it (small ones). -/
import Derived.Test.YtbpaklcibkifnaaDoorRows
import Derived.JoinedOf
import Derived.KernelRfl
namespace Go.Proofs.YtbpaklcibkifnaaDoor
open Go
theorem pOwn : ownKnob Tryd.prog.godebug = none := by kernel_rfl
theorem pLaid : laidOutB Tryd.prog = true := by kernel_rfl
theorem pMaps : mapsRowed Tryd.prog = true := by kernel_rfl
theorem pStops : (Tryd.prog.stops == []) = true := by kernel_rfl
theorem pKnobs : (Tryd.prog.stopKnobs == []) = true := by kernel_rfl
theorem pKeys : (true == Tryd.prog.plainKeys) = true := by kernel_rfl
theorem pHeard : Tryd.prog.stopsHeard = true := by kernel_rfl
end Go.Proofs.YtbpaklcibkifnaaDoor


/- The draws of a form and something besides, for every slice of bytes. -/
import Derived.Test.YtaicnkfgjpphmaaDrawFo
import Derived.Deep.DeepCutAuto
namespace Go.Proofs.Ytaicnkfgjpphmaa
open Go.RowKit

end Go.Proofs.Ytaicnkfgjpphmaa

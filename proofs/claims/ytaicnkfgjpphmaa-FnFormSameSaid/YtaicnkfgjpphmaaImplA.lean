
/- Contracts of the program's small functions on matrices (chapter 1), each for every argument. -/
import Derived.Test.YtaicnkfgjpphmaaBase
namespace Go.Proofs.Ytaicnkfgjpphmaa
open Go.RowKit

end Go.Proofs.Ytaicnkfgjpphmaa

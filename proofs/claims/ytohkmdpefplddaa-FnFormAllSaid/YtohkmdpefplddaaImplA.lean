
/- Contracts of the program's small functions on matrices (chapter 1), each for every argument. -/
import Derived.Test.YtohkmdpefplddaaBase
namespace Go.Proofs.Ytohkmdpefplddaa
open Go.RowKit

end Go.Proofs.Ytohkmdpefplddaa

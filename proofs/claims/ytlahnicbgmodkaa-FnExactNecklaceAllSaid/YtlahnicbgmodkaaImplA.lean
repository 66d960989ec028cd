
/- Contracts of the program's small functions on matrices (chapter 1), each for every argument. -/
import Derived.Test.YtlahnicbgmodkaaBase
namespace Go.Proofs.Ytlahnicbgmodkaa
open Go.RowKit

end Go.Proofs.Ytlahnicbgmodkaa

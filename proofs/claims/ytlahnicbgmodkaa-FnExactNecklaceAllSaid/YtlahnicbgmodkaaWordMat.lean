
/- The program's matrix of a word, walked. -/
import Derived.Test.YtlahnicbgmodkaaWordIn
import Derived.Test.YtlahnicbgmodkaaImplB
namespace Go.Proofs.Ytlahnicbgmodkaa
open Go.RowKit Go.Shelf
attribute [local go_sem] Oper.semAt_some

end Go.Proofs.Ytlahnicbgmodkaa


/- The program's functions on words, walked: what is a word. -/
import Derived.Test.YtlahnicbgmodkaaIter
namespace Go.Proofs.Ytlahnicbgmodkaa
open Go.RowKit Go.Shelf
attribute [local go_sem] Oper.semAt_some

end Go.Proofs.Ytlahnicbgmodkaa

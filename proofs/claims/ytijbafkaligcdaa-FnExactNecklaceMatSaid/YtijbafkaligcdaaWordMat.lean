
/- The program's matrix of a word, walked. -/
import Derived.Test.YtijbafkaligcdaaWordIn
import Derived.Test.YtijbafkaligcdaaImplB
namespace Go.Proofs.Ytijbafkaligcdaa
open Go.RowKit Go.Shelf
attribute [local go_sem] Oper.semAt_some

end Go.Proofs.Ytijbafkaligcdaa

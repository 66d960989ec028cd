
/- The program's words with each letter changed, and backwards, walked. -/
import Derived.Test.YtpalgnfimelioaaGreatDoorFracWord
import Derived.Test.YtpalgnfimelioaaGreatDoorImplW
namespace Go.Proofs.YtpalgnfimelioaaGreatDoor
open Go.RowKit Go.Shelf
attribute [local go_sem] Oper.semAt_some
attribute [local go_sem ↓] app_held

end Go.Proofs.YtpalgnfimelioaaGreatDoor

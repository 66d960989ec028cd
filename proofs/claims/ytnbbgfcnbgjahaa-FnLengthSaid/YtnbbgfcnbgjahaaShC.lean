
/- The short base of a base, walked. Under what a base keeps. -/
import Derived.Test.YtnbbgfcnbgjahaaShB
namespace Go.Proofs.Ytnbbgfcnbgjahaa
open Go.RowKit

theorem run_store_func {P : Program} (w : World) (a : Addr) (m : Mode) (f : Fn) (x y : Array Value) : Sem.run P (store a (.func f x y) m) w = stored P w a (.func f x y) m := run_store P w a _ m rfl
attribute [local go_sem] run_store_func
end Go.Proofs.Ytnbbgfcnbgjahaa

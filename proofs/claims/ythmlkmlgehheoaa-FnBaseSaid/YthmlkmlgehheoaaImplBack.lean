
/- The matrix that goes back: two calls and a new block in one statement, in whatever order. -/
import Derived.Test.YthmlkmlgehheoaaImplB
namespace Go.Proofs.Ythmlkmlgehheoaa
open Go.RowKit

/-- what the program's 'back' makes of four numbers -/
def bki (m : M) : M := ⟨wrap64 (dt m * m.d), wrap64 (dt m * neg64 m.b), wrap64 (dt m * neg64 m.c), wrap64 (dt m * m.a)⟩
def mbk (m : M) : M × Bool := if inB m && whB m then (bki m, true) else (zm, false)
end Go.Proofs.Ythmlkmlgehheoaa


/- Contracts of the program's functions of chapter 1 but for powers, each for every argument. -/
import Derived.Test.YtlahnicbgmodkaaImplA
namespace Go.Proofs.Ytlahnicbgmodkaa
open Go.RowKit

def mv1 (m : M) (x y : Int) : Int := wrap64 (wrap64 (m.a * x) + wrap64 (m.b * y))
def mv2 (m : M) (x y : Int) : Int := wrap64 (wrap64 (m.c * x) + wrap64 (m.d * y))
/-- both numbers to which x and y are moved, and whether they are told -/
def mmv (m : M) (x y : Int) : (Int × Int) × Bool :=
  if inB m && numB x && numB y && numB (mv1 m x y) && numB (mv2 m x y) then ((mv1 m x y, mv2 m x y), true) else ((0, 0), false)
end Go.Proofs.Ytlahnicbgmodkaa

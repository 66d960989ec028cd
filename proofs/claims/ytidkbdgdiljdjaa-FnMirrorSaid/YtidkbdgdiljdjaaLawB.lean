
/- The exact laws whose answers are matrices, walked. -/
import Derived.Test.YtidkbdgdiljdjaaLawA
namespace Go.Proofs.Ytidkbdgdiljdjaa
open Go.RowKit

/-- what a statement 'x, ok := f(..)' leaves: a new block with the matrix m, ahead of the blocks that were there -/
def MatAt (w : World) (L : List (Nat × Array Value × TypeId)) (m : M) (ok : Bool) (v u : Value) (wx : World) : Prop :=
  ∃ g : Nat, v = .pointer (some ⟨g, 0, none⟩) ∧ u = .bool ok ∧ Mem wx ((g, #[.int .i64 m.a, .int .i64 m.b, .int .i64 m.c, .int .i64 m.d], 24) :: L) ∧ Below w.heap.size w wx

end Go.Proofs.Ytidkbdgdiljdjaa

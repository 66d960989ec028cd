
/- The model's way to a short base, walked. Under what a base keeps. -/
import Derived.Test.YtnbbgfcnbgjahaaShS
namespace Go.Proofs.Ytnbbgfcnbgjahaa
open Go.RowKit

/-- at the head of a round -/
def ShRel (R : P2 × P2) (w : World) (g : Nat) (wr : World) : Prop := ∃ a b c d : Int, dotP ⟨a, b⟩ ⟨a, b⟩ ≤ g ∧ gP ⟨a, b⟩ ⟨c, d⟩ ∧ rdP g ⟨a, b⟩ ⟨c, d⟩ = R ∧
  Mem wr [(w.heap.size + 1 + 1 + 1, #[.int .i64 0, .int .i64 0], 24), (w.heap.size + 1 + 1, #[.int .i64 0, .int .i64 0], 24), (w.heap.size + 1, #[.int .i64 c, .int .i64 d], 24), (w.heap.size, #[.int .i64 a, .int .i64 b], 24)] ∧ Below w.heap.size w wr
end Go.Proofs.Ytnbbgfcnbgjahaa


/- Matrices that are drawn. -/
import Derived.Test.YtohkmdpefplddaaDrawD
import Derived.Deep.DeepCutAuto
namespace Go.Proofs.Ytohkmdpefplddaa
open Go.RowKit

/-- a matrix in block g, the result's block behind it -/
def EvRel (R B q : Nat) (w : World) (g : Nat) (wx : World) : Prop := ∃ a b c d : Int,
  Inv R B q w wx [(g, #[.int .i64 a, .int .i64 b, .int .i64 c, .int .i64 d], 58), (w.heap.size, #[.int .i64 0, .int .i64 0, .int .i64 0, .int .i64 0], 58)]
theorem inv_to {R B q q' : Nat} {w W : World} {L L' : List (Nat × Array Value × TypeId)} (h : Inv R B q w W L) (hq : q ≤ q') (e : L = L') : Inv R B q' w W L' := by subst e; exact inv_mono h hq

theorem ev_use {R B q q' g : Nat} {w W : World} {L : List (Nat × Array Value × TypeId)} (h : Inv R B q' w W L) (k : Inv R B q' w W L → EvRel R B q w g W) : EvRel R B q w g W := k h
theorem dpost_use {R B q q' : Nat} {w W : World} {L : List (Nat × Array Value × TypeId)} {Good : Value → Prop} {v : Value} (h : Inv R B q' w W L) (k : Inv R B q' w W L → DPost Good R B q w (.returned v) W) : DPost Good R B q w (.returned v) W := k h
end Go.Proofs.Ytohkmdpefplddaa


/- The draw of a matrix and an exponent. -/
import Derived.Test.YtkallllpjkkhhaaDrawG
namespace Go.Proofs.Ytkallllpjkkhhaa
open Go.RowKit

def MatNumPost (w : World) (e : Ending) (w' : World) : Prop := ∃ a b c d k : Int, e = .returned (.tuple #[.agg #[.int .i64 a, .int .i64 b, .int .i64 c, .int .i64 d], .int .i64 k]) ∧ Below w.heap.size w w'
theorem mnp_use {R B q : Nat} {w W : World} {L : List (Nat × Array Value × TypeId)} {v : Value} (h : Inv R B q w W L) (k : Inv R B q w W L → MatNumPost w (.returned v) W) : MatNumPost w (.returned v) W := k h
end Go.Proofs.Ytkallllpjkkhhaa


/- Texts that are drawn: a text n times; a word, seldom another text; and the matrix of a word. -/
import Derived.Test.YtohkmdpefplddaaDrawC
import Derived.Test.YtohkmdpefplddaaSpecA
namespace Go.Proofs.Ytohkmdpefplddaa
open Go.RowKit

def ManyPost (N : Nat) (w : World) (e : Ending) (w' : World) : Prop := ∃ s : ByteArray, e = .returned (.string s) ∧ s.size ≤ N ∧ w = w'
def ManyRel (N : Nat) (s n o : Value) : Prop := ∃ (S O : ByteArray) (k : Nat), s = .string S ∧ n = .int .i64 k ∧ o = .string O ∧ O.size + k * S.size ≤ N ∧ S.size ≤ 2 * N ∧ k ≤ 100
/-- what a function leaves that makes a matrix and changes nothing -/
def MatPost (w : World) (e : Ending) (w' : World) : Prop := ∃ a b c d : Int, e = .returned (.agg #[.int .i64 a, .int .i64 b, .int .i64 c, .int .i64 d]) ∧ Below w.heap.size w w'
def L2Rel (w w0 : World) (n : Nat) (v : Value) (wr : World) : Prop := ∃ (j : Nat) (a b c d : Int), j ≤ n ∧ v = .int .i64 j ∧
  Mem wr [(w0.heap.size, #[.int .i64 a, .int .i64 b, .int .i64 c, .int .i64 d], 58), (w.heap.size, #[.int .i64 0, .int .i64 0, .int .i64 0, .int .i64 0], 58)] ∧ Below w.heap.size w wr
/-- a word, seldom another text: of at most 100 letters -/
def WordRel (R B q : Nat) (w : World) (t i : Value) (wr : World) : Prop := ∃ (j : Nat) (s : ByteArray) , j ≤ 50 ∧ i = .int .i64 j ∧ t = .string s ∧ s.size ≤ j ∧ Inv R B (q + 1 + j) w wr []
theorem inv_nil {R B q : Nat} {w W : World} {L : List (Nat × Array Value × TypeId)} (h : Inv R B q w W L) : Inv R B q w W [] := ⟨mem_nil W, fun p hp => by (cases hp), h.2.2⟩
end Go.Proofs.Ytohkmdpefplddaa

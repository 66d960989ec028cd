
/- The model's greatest divisors, counts and filled rows, walked. No condition on what is exported. -/
import Derived.Test.YthmlkmlgehheoaaShS
import Derived.Test.YthmlkmlgehheoaaShR
namespace Go.Proofs.Ythmlkmlgehheoaa
open Go.RowKit

/-- at the head of a round of the model's ShortGcd -/
def GcRel (R : Int × Int × Int) (w : World) (v6 v7 v8 v9 v10 v11 : Value) (wr : World) : Prop := ∃ a b u v s t : Int, v6 = .int .i64 a ∧ v7 = .int .i64 b ∧ v8 = .int .i64 u ∧ v9 = .int .i64 v ∧ v10 = .int .i64 s ∧ v11 = .int .i64 t ∧
  GcI a b u v s t ∧ gcR a b u v s t = R ∧ Below w.heap.size w wr
theorem igcd_step7 (x y : Int) : Int.gcd y (x.tmod y) = Int.gcd x y := by
  rw [Int.gcd, Int.gcd, Int.natAbs_tmod, Nat.gcd_comm, ← Nat.gcd_rec, Nat.gcd_comm]
/-- at the head of a round of the outer loop, of the inner one -/
def SprO (n : Nat) (w : World) (v4 v5 : Value) (wr : World) : Prop := ∃ k : Nat, k ≤ n ∧ v4 = .int .i64 (prm n k : Nat) ∧ v5 = .int .i64 ((k : Int) + 1) ∧ Below w.heap.size w wr
def SprN (n k : Nat) (w : World) (v4 v6 : Value) (wr : World) : Prop := ∃ m : Nat, m ≤ n ∧ v4 = .int .i64 (prm n k + rowc (k + 1) m : Nat) ∧ v6 = .int .i64 ((m : Int) + 1) ∧ Below w.heap.size w wr
end Go.Proofs.Ythmlkmlgehheoaa

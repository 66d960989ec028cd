
/- Contracts of the program's functions of chapter 1 but for powers, each for every argument. -/
import Derived.Test.YtohkmdpefplddaaImplA
namespace Go.Proofs.Ytohkmdpefplddaa
open Go.RowKit

def mv1 (m : M) (x y : Int) : Int := wrap64 (wrap64 (m.a * x) + wrap64 (m.b * y))
def mv2 (m : M) (x y : Int) : Int := wrap64 (wrap64 (m.c * x) + wrap64 (m.d * y))
/-- both numbers to which x and y are moved, and whether they are told -/
def mmv (m : M) (x y : Int) : (Int × Int) × Bool :=
  if inB m && numB x && numB y && numB (mv1 m x y) && numB (mv2 m x y) then ((mv1 m x y, mv2 m x y), true) else ((0, 0), false)
theorem move_ (a b c d x y : Int) (w : World) : Calls Try.prog 56 #[.agg #[.int .i64 a, .int .i64 b, .int .i64 c, .int .i64 d], .int .i64 x, .int .i64 y] w
    (fun E' W' => E' = .returned (.tuple #[.int .i64 (mv1 ⟨a, b, c, d⟩ x y), .int .i64 (mv2 ⟨a, b, c, d⟩ x y)]) ∧ Below w.heap.size w W') := by
  have hM := mem_nil w; have hB := Below.refl w.heap.size w; have hC := True.intro
  go_enter Try.func56, Try.ntmps56
  go_wp2_with fail
  go_quiet (fail)
  go_wp2
  go_ret2
  exact ⟨rfl, by (repeat' (first | (with_reducible exact hB) | (with_reducible exact Below.refl _ _) | (with_reducible refine Below.alloc ?_ ?_ _) | (with_reducible refine Below.setCell ?_ ?_ _) | (with_reducible refine Below.drew ?_) | (with_reducible refine below_drewN ?_ _) | (with_reducible exact Nat.le_refl _) | (with_reducible exact hB.size) | (simp [go_sem]; done) | (have := hB.size; simp [go_sem]; omega)))⟩
end Go.Proofs.Ytohkmdpefplddaa

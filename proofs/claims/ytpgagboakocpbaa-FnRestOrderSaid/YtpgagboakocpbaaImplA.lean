
/- Contracts of the program's small functions on matrices (chapter 1), each for every argument. -/
import Derived.Test.YtpgagboakocpbaaBase
namespace Go.Proofs.Ytpgagboakocpbaa
open Go.RowKit

theorem times_ (a b c d e f g h : Int) (w : World) : Calls Try.prog 22 #[.agg #[.int .i64 a, .int .i64 b, .int .i64 c, .int .i64 d], .agg #[.int .i64 e, .int .i64 f, .int .i64 g, .int .i64 h]] w
    (fun E' W' => E' = .returned (.agg #[.int .i64 ((tm ⟨a, b, c, d⟩ ⟨e, f, g, h⟩).a), .int .i64 ((tm ⟨a, b, c, d⟩ ⟨e, f, g, h⟩).b), .int .i64 ((tm ⟨a, b, c, d⟩ ⟨e, f, g, h⟩).c), .int .i64 ((tm ⟨a, b, c, d⟩ ⟨e, f, g, h⟩).d)]) ∧ Below w.heap.size w W') := by
  have hM := mem_nil w; have hB := Below.refl w.heap.size w; have hC := True.intro
  go_enter Try.func22, Try.ntmps22
  go_wp2
  go_returns
  exact ⟨rfl, by (repeat' (first | (with_reducible exact hB) | (with_reducible exact Below.refl _ _) | (with_reducible refine Below.alloc ?_ ?_ _) | (with_reducible refine Below.setCell ?_ ?_ _) | (with_reducible refine Below.drew ?_) | (with_reducible refine below_drewN ?_ _) | (with_reducible exact Nat.le_refl _) | (with_reducible exact hB.size) | (simp [go_sem]; done) | (have := hB.size; simp [go_sem]; omega)))⟩

end Go.Proofs.Ytpgagboakocpbaa


/- Contracts of the model's functions on matrices (chapter 1), each for every argument. -/
import Derived.Test.YtnbbgfcnbgjahaaBase
namespace Go.Proofs.Ytnbbgfcnbgjahaa
open Go.RowKit

def l6B (n lo hi : Int) : Bool := decide (lo ≤ n) && decide (n ≤ hi)
theorem l6In_ (n lo hi : Int) (w : World) : Calls Try.prog 34 #[.int .i64 n, .int .i64 lo, .int .i64 hi] w (fun E' W' => E' = .returned (.bool (l6B n lo hi)) ∧ w = W') := by
  by_cases h : lo ≤ n
  all_goals
    go_enter Try.func34, Try.ntmps34
    go_wp2
    go_ret
    exact ⟨by simp [l6B]; omega, rfl⟩
theorem l1None_ (w : World) : Calls Try.prog 37 #[] w (fun E' W' => E' = .returned (.tuple #[.agg #[.int .i64 0, .int .i64 0, .int .i64 0, .int .i64 0], .bool false]) ∧ Below w.heap.size w W') := by
  have hM := mem_nil w; have hB := Below.refl w.heap.size w; have hC := True.intro
  go_enter Try.func37, Try.ntmps37
  go_wp2
  refine bodyPost_ret (by (simp [results, Try.results37, go_sem, *]; try rfl)) rfl ?_
  exact ⟨rfl, by (repeat' (first | (with_reducible exact hB) | (with_reducible exact Below.refl _ _) | (with_reducible refine Below.alloc ?_ ?_ _) | (with_reducible refine Below.setCell ?_ ?_ _) | (with_reducible refine Below.drew ?_) | (with_reducible refine below_drewN ?_ _) | (with_reducible exact Nat.le_refl _) | (with_reducible exact hB.size) | (simp [go_sem]; done) | (have := hB.size; simp [go_sem]; omega)))⟩
/-- what the model's 'l1Back' makes of four numbers -/
def bks (m : M) : M := ⟨wrap64 (m.d * dt m), wrap64 (0 - wrap64 (m.b * dt m)), wrap64 (0 - wrap64 (m.c * dt m)), wrap64 (m.a * dt m)⟩
end Go.Proofs.Ytnbbgfcnbgjahaa


/- Contracts of the model's functions on matrices (chapter 1), each for every argument. -/
import Derived.Test.YtohkmdpefplddaaBase
namespace Go.Proofs.Ytohkmdpefplddaa
open Go.RowKit

def l6B (n lo hi : Int) : Bool := decide (lo ≤ n) && decide (n ≤ hi)
theorem l6In_ (n lo hi : Int) (w : World) : Calls Try.prog 17 #[.int .i64 n, .int .i64 lo, .int .i64 hi] w (fun E' W' => E' = .returned (.bool (l6B n lo hi)) ∧ w = W') := by
  by_cases h : lo ≤ n
  all_goals
    go_enter Try.func17, Try.ntmps17
    go_wp2
    go_ret
    exact ⟨by simp [l6B]; omega, rfl⟩
/-- what the model's 'l1Back' makes of four numbers -/
def bks (m : M) : M := ⟨wrap64 (m.d * dt m), wrap64 (0 - wrap64 (m.b * dt m)), wrap64 (0 - wrap64 (m.c * dt m)), wrap64 (m.a * dt m)⟩
end Go.Proofs.Ytohkmdpefplddaa

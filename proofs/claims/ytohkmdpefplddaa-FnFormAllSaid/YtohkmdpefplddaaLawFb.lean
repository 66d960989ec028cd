
/- The exact law on all plain short forms with a discriminant, walked. -/
import Derived.Test.YtohkmdpefplddaaFoW
namespace Go.Proofs.Ytohkmdpefplddaa
open Go.RowKit

theorem top_le {d : Nat} (h : d ≤ 400) : topF d ≤ 11 := by
  obtain ⟨t1, t2, _⟩ := topN_spec d 12
  rw [topF]
  generalize topN d 12 = t at *
  apply Nat.le_of_not_lt; intro h2
  obtain rfl : t = 12 := by omega
  omega
theorem fAll_len (x : Int) : (fAll x).1.length ≤ 3600 := by
  unfold fAll
  split
  · have h1 := top_le (d := x.toNat) (by omega)
    have := allF_len x.toNat (topF x.toNat) h1
    dsimp only
    omega
  · simp
end Go.Proofs.Ytohkmdpefplddaa

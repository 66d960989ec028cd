
/- The exact law on all matrices in row form with an index, walked. -/
import Derived.Test.YtkihoccfmjigiaaLaM
namespace Go.Proofs.Ytkihoccfmjigiaa
open Go.RowKit

theorem mAllL_len (x : Int) : (mAllL x).1.length ≤ 3600 := by
  unfold mAllL
  split
  · have h1 := frmsM_len x.toNat x.toNat
    have : x.toNat * x.toNat ≤ 60 * 60 := Nat.mul_le_mul (by omega) (by omega)
    dsimp only
    omega
  · simp
end Go.Proofs.Ytkihoccfmjigiaa

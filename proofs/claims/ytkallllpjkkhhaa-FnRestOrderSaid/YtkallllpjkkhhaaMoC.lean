
/- The model's count of even rest matrices, walked. No condition. -/
import Derived.Test.YtkallllpjkkhhaaMoU
namespace Go.Proofs.Ytkallllpjkkhhaa
open Go.RowKit

def sumN (f : Nat → Nat) : Nat → Nat
  | 0 => 0
  | n + 1 => sumN f n + f n
theorem sumN_le {f : Nat → Nat} {c : Nat} (h : ∀ i, f i ≤ c) : ∀ n, sumN f n ≤ n * c
  | 0 => by simp [sumN]
  | n + 1 => by
    have h1 := sumN_le h n
    have h2 := h n
    simp only [sumN, Nat.succ_mul]
    omega
def evN (k a b c d : Nat) : Bool := (a * d + k * k - b * c) % k == 1
/-- the model's order: a, d, b, c -/
def f4 (k a d b c : Nat) : Nat := bif evN k a b c d then 1 else 0
def f3 (k a d b : Nat) : Nat := sumN (f4 k a d b) k
def f2 (k a d : Nat) : Nat := sumN (f3 k a d) k
def f1 (k a : Nat) : Nat := sumN (f2 k a) k
def cntS (k : Nat) : Nat := sumN (f1 k) k
theorem f4_le (k a d b c : Nat) : f4 k a d b c ≤ 1 := by unfold f4; cases evN k a b c d <;> simp
theorem f3_le {k : Nat} (hk : k ≤ 12) (a d b : Nat) : f3 k a d b ≤ 12 := by
  have := sumN_le (f4_le k a d b) k
  unfold f3; omega
theorem f2_le {k : Nat} (hk : k ≤ 12) (a d : Nat) : f2 k a d ≤ 144 := by
  have := sumN_le (f3_le hk a d) k
  unfold f2; omega
theorem f1_le {k : Nat} (hk : k ≤ 12) (a : Nat) : f1 k a ≤ 1728 := by
  have := sumN_le (f2_le hk a) k
  unfold f1; omega
theorem cntS2 : cntS 2 = cntT 2 := by decide +kernel
theorem cntS3 : cntS 3 = cntT 3 := by decide +kernel
theorem cntS4 : cntS 4 = cntT 4 := by decide +kernel
theorem cntS5 : cntS 5 = cntT 5 := by decide +kernel
theorem cntS6 : cntS 6 = cntT 6 := by decide +kernel
theorem cntS7 : cntS 7 = cntT 7 := by decide +kernel
theorem cntS8 : cntS 8 = cntT 8 := by decide +kernel
theorem cntS9 : cntS 9 = cntT 9 := by decide +kernel
theorem cntS10 : cntS 10 = cntT 10 := by decide +kernel
theorem cntS11 : cntS 11 = cntT 11 := by decide +kernel
theorem cntS12 : cntS 12 = cntT 12 := by decide +kernel
theorem cntS_eq {k : Nat} (h : 2 ≤ k ∧ k ≤ 12) : cntS k = cntT k := by
  rcases k_cases h with rfl | rfl | rfl | rfl | rfl | rfl | rfl | rfl | rfl | rfl | rfl
  · exact cntS2
  · exact cntS3
  · exact cntS4
  · exact cntS5
  · exact cntS6
  · exact cntS7
  · exact cntS8
  · exact cntS9
  · exact cntS10
  · exact cntS11
  · exact cntS12
theorem evN_int {k a b c d : Nat} (hb : b < k) (hc : c < k) : evN k a b c d = (((a : Int) * d - b * c) % k == 1) := by
  have hbc : b * c ≤ k * k := Nat.mul_le_mul (by omega) (by omega)
  have e : ((((a * d + k * k - b * c) % k : Nat)) : Int) = ((a : Int) * d - b * c) % k := by
    rw [Int.natCast_emod, Int.ofNat_sub (by omega)]
    have : ((a * d + k * k : Nat) : Int) - ((b * c : Nat) : Int) = ((a : Int) * d - b * c) + k * k := by push_cast; omega
    rw [this, Int.add_mul_emod_self_left]
  rw [evN, Bool.eq_iff_iff]
  simp only [beq_iff_eq]
  omega
def mCnt (n : Int) : Int × Bool := if mdB n then (((cntT n.toNat : Nat) : Int), true) else (0, false)
end Go.Proofs.Ytkallllpjkkhhaa


/- Counts of pairs without common divisors, reckoned: for every number up to 100. No condition. -/
import Derived.Test.YtnbbgfcnbgjahaaShR
namespace Go.Proofs.Ytnbbgfcnbgjahaa
open Go.RowKit

def prTab : List Nat := [0, 1, 3, 7, 11, 19, 23, 35, 43, 55, 63, 83, 91, 115, 127, 143, 159, 191, 203, 239, 255, 279, 299, 343, 359, 399, 423, 459, 483, 539, 555, 615, 647, 687, 719, 767, 791, 863, 899, 947, 979, 1059, 1083, 1167, 1207, 1255, 1299, 1391, 1423, 1507, 1547, 1611, 1659, 1763, 1799, 1879, 1927, 1999, 2055, 2171, 2203, 2323, 2383, 2455, 2519, 2615, 2655, 2787, 2851, 2939, 2987, 3127, 3175, 3319, 3391, 3471, 3543, 3663, 3711, 3867, 3931, 4039, 4119, 4283, 4331, 4459, 4543, 4655, 4735, 4911, 4959, 5103, 5191, 5311, 5403, 5547, 5611, 5803, 5887, 6007, 6087]
def prRow (n : Nat) : Bool := prm n n == prTab.getD n 0
theorem pr_tab : (List.range 101).all prRow = true := by decide +kernel
theorem pr_eq {n : Nat} (h : n ≤ 100) : prm n n = prTab.getD n 0 := by
  have := List.all_eq_true.1 pr_tab n (List.mem_range.2 (by omega))
  simpa [prRow] using this
/-- the sum of the counts of n over 1 to k -/
def sumP (n : Nat) : Nat → Nat
  | 0 => 0
  | k + 1 => sumP n k + prm (n / (k + 1)) (n / (k + 1))
def sumT (n : Nat) : Nat → Nat
  | 0 => 0
  | k + 1 => sumT n k + prTab.getD (n / (k + 1)) 0
theorem sum_eq {n : Nat} (h : n ≤ 100) : ∀ k, sumP n k = sumT n k
  | 0 => rfl
  | k + 1 => by rw [sumP, sumT, sum_eq h k, pr_eq (Nat.le_trans (Nat.div_le_self _ _) h)]
def chkP (n : Nat) : Bool := (sumT n n == n * n) && (prTab.getD n 0 % 2 == 1) && ((prTab.getD n 0 == n * n) == (n == 1))
theorem chk_all : (List.range 101).all (fun n => n == 0 || chkP n) = true := by decide +kernel
theorem prime_facts {n : Nat} (h1 : 1 ≤ n) (h : n ≤ 100) : sumP n n = n * n ∧ prm n n % 2 = 1 ∧ (prm n n == n * n) = (n == 1) := by
  have := List.all_eq_true.1 chk_all n (List.mem_range.2 (by omega))
  simp only [Bool.or_eq_true, beq_iff_eq, chkP, Bool.and_eq_true] at this
  rcases this with h0 | ⟨⟨k1, k2⟩, k3⟩
  · omega
  · rw [sum_eq h, pr_eq h]
    exact ⟨k1, k2, k3⟩
theorem sumP_le {n : Nat} : ∀ k, sumP n k ≤ k * (n * n)
  | 0 => Nat.zero_le _
  | k + 1 => by
    have := sumP_le (n := n) k
    have h1 := prm_le (n / (k + 1)) (n / (k + 1))
    have h2 : n / (k + 1) * (n / (k + 1)) ≤ n * n := Nat.mul_le_mul (Nat.div_le_self _ _) (Nat.div_le_self _ _)
    rw [sumP, Nat.succ_mul]; omega
end Go.Proofs.Ytnbbgfcnbgjahaa

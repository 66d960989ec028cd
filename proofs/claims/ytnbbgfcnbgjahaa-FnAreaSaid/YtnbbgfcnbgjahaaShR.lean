
/- Pairs without common divisors, counted; rows filled to even matrices: plain. No condition. -/
import Derived.Test.YtnbbgfcnbgjahaaShQ
namespace Go.Proofs.Ytnbbgfcnbgjahaa
open Go.RowKit

def cpr (x y : Nat) : Nat := cond (Nat.gcd x y == 1) 1 0
def rowc (x : Nat) : Nat → Nat
  | 0 => 0
  | m + 1 => rowc x m + cpr x (m + 1)
/-- how many pairs with numbers from 1 to k and from 1 to n have no common divisor -/
def prm (n : Nat) : Nat → Nat
  | 0 => 0
  | k + 1 => prm n k + rowc (k + 1) n
theorem rowc_le (x : Nat) : ∀ m, rowc x m ≤ m
  | 0 => Nat.le_refl _
  | m + 1 => by
    have := rowc_le x m
    simp only [rowc, cpr]; cases Nat.gcd x (m + 1) == 1 <;> simp <;> omega
theorem prm_le (n : Nat) : ∀ k, prm n k ≤ k * n
  | 0 => Nat.zero_le _
  | k + 1 => by
    have := prm_le n k
    have := rowc_le (k + 1) n
    rw [Nat.succ_mul]
    simp only [prm]; omega
def mPrime (n : Int) : Int × Bool := if 1 ≤ n ∧ n ≤ 100 then (((prm n.toNat n.toNat : Nat) : Int), true) else (0, false)
/-- the matrix with the rest of u as D -/
def fullU (a b u : Int) : M := if b = 0 then ⟨a, 0, 0, a⟩ else ⟨a, b, (a * (u % absI b) - 1).tdiv b, u % absI b⟩
def mFull (p : Pr2) : M × Bool := if pB p && decide (Int.gcd p.x p.y = 1) then (fullU p.x p.y (egs p.x p.y).2.1, true) else (zm, false)
theorem absI_pos {b : Int} (h : b ≠ 0) : 1 ≤ absI b := by unfold absI; split <;> omega
theorem absI_dvd {b x : Int} (h : absI b ∣ x) : b ∣ x := by
  unfold absI at h; split at h
  · exact Int.neg_dvd.1 h
  · exact h
theorem dvd_absI {b x : Int} (h : b ∣ x) : absI b ∣ x := by
  unfold absI; split
  · exact Int.neg_dvd.2 h
  · exact h
theorem full_dvd {a b u v : Int} (h : u * a + v * b = 1) : b ∣ a * (u % absI b) - 1 := by
  have h1 : absI b ∣ u - u % absI b := Int.dvd_self_sub_emod
  obtain ⟨t, ht⟩ := absI_dvd h1
  generalize u % absI b = d at *
  exact ⟨-v - a * t, by grind⟩
theorem full_least {a b u v d : Int} (h : u * a + v * b = 1) (hb : b ≠ 0) (h0 : 0 ≤ d) (hd : b ∣ a * d - 1) : u % absI b ≤ d := by
  have hp := absI_pos hb
  have h1 := full_dvd h
  have h2 : u % absI b < absI b := Int.emod_lt_of_pos _ (by omega)
  generalize u % absI b = e at *
  apply Int.not_lt.1; intro hlt
  obtain ⟨s, hs⟩ := hd
  obtain ⟨t, ht⟩ := h1
  have hdv : b ∣ e - d := ⟨u * (t - s) + v * (e - d), by grind⟩
  have := Int.le_of_dvd (by omega) (dvd_absI hdv)
  omega
theorem fullU_even {a b u v : Int} (h : u * a + v * b = 1) (hg : Int.gcd a b = 1) : xd (fullU a b u) = 1 := by
  unfold fullU
  split
  · rename_i hb
    subst hb
    rw [Int.gcd_zero_right] at hg
    simp only [xd]
    have : a = 1 ∨ a = -1 := by omega
    rcases this with rfl | rfl <;> rfl
  · have h1 := full_dvd h
    have h2 := Int.mul_tdiv_cancel' h1
    generalize (a * (u % absI b) - 1).tdiv b = c at *
    simp only [xd]
    omega
theorem tdiv_le {x b k : Int} (h : x.natAbs ≤ (k.natAbs + 1) * b.natAbs) : (x.tdiv b).natAbs ≤ k.natAbs + 1 := by
  rw [Int.natAbs_tdiv]
  exact Nat.div_le_of_le_mul (by rw [Nat.mul_comm]; exact h)
theorem fullU_bd {a b : Int} (u : Int) (ha : -10000 ≤ a ∧ a ≤ 10000) (hb : b ≠ 0) (hb1 : -10000 ≤ b ∧ b ≤ 10000) :
    (0 ≤ u % absI b ∧ u % absI b < absI b) ∧ (-100000000 ≤ a * (u % absI b) ∧ a * (u % absI b) ≤ 100000000) ∧ (-10001 ≤ (a * (u % absI b) - 1).tdiv b ∧ (a * (u % absI b) - 1).tdiv b ≤ 10001) := by
  have hp := absI_pos hb
  have h0 := Int.emod_nonneg u (show absI b ≠ 0 by omega)
  have h1 : u % absI b < absI b := Int.emod_lt_of_pos _ (by omega)
  have hA := absI_bd b
  have hn : absI b = b.natAbs := by unfold absI; split <;> omega
  generalize u % absI b = d at *
  have hm := mul_bd ha (show -10000 ≤ d ∧ d ≤ 10000 by omega)
  refine ⟨⟨h0, h1⟩, by omega, ?_⟩
  have hx : (a * d).natAbs ≤ a.natAbs * b.natAbs := by rw [Int.natAbs_mul]; exact Nat.mul_le_mul_left _ (by omega)
  have h2 := tdiv_le (x := a * d - 1) (b := b) (k := a) (by rw [Nat.succ_mul]; omega)
  omega
end Go.Proofs.Ytnbbgfcnbgjahaa

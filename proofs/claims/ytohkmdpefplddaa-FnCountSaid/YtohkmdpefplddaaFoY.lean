
/- How many pairs have a value: an even number, but for 0: plain. -/
import Derived.Test.YtohkmdpefplddaaFoX
namespace Go.Proofs.Ytohkmdpefplddaa
open Go.RowKit

def sumH (h : Nat → Nat) : Nat → Nat
  | 0 => 0
  | k + 1 => sumH h k + h k
theorem sumH_ext {g h : Nat → Nat} : ∀ (k : Nat), (∀ j, j < k → g j = h j) → sumH g k = sumH h k
  | 0, _ => rfl
  | k + 1, e => by rw [sumH, sumH, sumH_ext k (fun j hj => e j (by omega)), e k (by omega)]
theorem sumH_zero {h : Nat → Nat} : ∀ (k : Nat), (∀ j, j < k → h j = 0) → sumH h k = 0
  | 0, _ => rfl
  | k + 1, e => by rw [sumH, sumH_zero k (fun j hj => e j (by omega)), e k (by omega)]
/-- what is the same from both ends -/
theorem sumH_mid {h : Nat → Nat} (e : ∀ j, j ≤ 80 → h (80 - j) = h j) : ∀ m, m ≤ 40 → sumH h (41 + m) + sumH h (40 - m) = sumH h 41 + sumH h 40
  | 0, _ => rfl
  | m + 1, hm => by
    have ih := sumH_mid e m (by omega)
    have h1 : sumH h (41 + (m + 1)) = sumH h (41 + m) + h (41 + m) := rfl
    have h2 : sumH h (40 - m) = sumH h (40 - (m + 1)) + h (40 - (m + 1)) := by
      rw [show 40 - m = (40 - (m + 1)) + 1 from by omega]; rfl
    have h3 := e (40 - (m + 1)) (by omega)
    rw [show 80 - (40 - (m + 1)) = 41 + m from by omega] at h3
    omega
theorem sumH_all {h : Nat → Nat} (e : ∀ j, j ≤ 80 → h (80 - j) = h j) : sumH h 81 = 2 * sumH h 40 + h 40 := by
  have h1 := sumH_mid e 40 (by omega)
  have h2 : sumH h 41 = sumH h 40 + h 40 := rfl
  have h3 : sumH h (40 - 40) = 0 := rfl
  rw [h3] at h1
  rw [show 41 + 40 = 81 from rfl] at h1
  omega
theorem sumH_first (h : Nat → Nat) : ∀ k, sumH h (k + 1) = h 0 + sumH (fun j => h (j + 1)) k
  | 0 => by simp [sumH]
  | k + 1 => by rw [sumH, sumH_first h k, sumH, Nat.add_assoc]
theorem sumH_rev : ∀ (k : Nat) (h : Nat → Nat), sumH (fun j => h (k - 1 - j)) k = sumH h k
  | 0, _ => rfl
  | k + 1, h => by
    have ih := sumH_rev k (fun j => h (j + 1))
    rw [sumH_first h k, ← ih, sumH]
    have e : sumH (fun j => h (k + 1 - 1 - j)) k = sumH (fun j => h (k - 1 - j + 1)) k := sumH_ext k (fun j hj => by rw [show k + 1 - 1 - j = k - 1 - j + 1 from by omega])
    rw [e]
    have e2 : k + 1 - 1 - k = 0 := by omega
    rw [e2]; omega
def hitF (f : F3) (n x y : Int) : Nat := if vF f x y = n then 1 else 0
theorem rowc8_sum (f : F3) (n x : Int) : ∀ k, rowc8 f n x k = sumH (fun j => hitF f n x ((j : Int) - 40)) k
  | 0 => rfl
  | k + 1 => by rw [rowc8, sumH, rowc8_sum f n x k]; rfl
theorem cnt8_sum (f : F3) (n : Int) : ∀ k, cnt8 f n k = sumH (fun j => rowc8 f n ((j : Int) - 40) 81) k
  | 0 => rfl
  | k + 1 => by rw [cnt8, sumH, cnt8_sum f n k]
theorem hitF_neg (f : F3) (n x y : Int) : hitF f n (-x) (-y) = hitF f n x y := by rw [hitF, hitF, vF_neg]
theorem row_neg (f : F3) (n x : Int) : rowc8 f n (-x) 81 = rowc8 f n x 81 := by
  rw [rowc8_sum, rowc8_sum, ← sumH_rev 81 (fun j => hitF f n x ((j : Int) - 40))]
  refine sumH_ext 81 (fun j hj => ?_)
  show hitF f n (-x) ((j : Int) - 40) = hitF f n x (((81 - 1 - j : Nat) : Int) - 40)
  rw [show ((81 - 1 - j : Nat) : Int) - 40 = -((j : Int) - 40) from by omega, ← hitF_neg f n x, Int.neg_neg]
theorem cnt8_parts (f : F3) (n : Int) : ∃ u v : Nat, cnt8 f n 81 = 2 * u + (2 * v + hitF f n 0 0) ∧ u = sumH (fun j => rowc8 f n ((j : Int) - 40) 81) 40 ∧ v = sumH (fun j => hitF f n 0 ((j : Int) - 40)) 40 := by
  refine ⟨_, _, ?_, rfl, rfl⟩
  rw [cnt8_sum, sumH_all (fun j hj => by
    rw [show ((80 - j : Nat) : Int) - 40 = -((j : Int) - 40) from by omega, row_neg])]
  congr 1
  show rowc8 f n (((40 : Nat) : Int) - 40) 81 = _
  rw [show ((40 : Nat) : Int) - 40 = 0 from by decide, rowc8_sum, sumH_all (fun j hj => by
    rw [show ((80 - j : Nat) : Int) - 40 = -((j : Int) - 40) from by omega]
    have := hitF_neg f n 0 ((j : Int) - 40)
    rw [Int.neg_zero] at this
    exact this)]
  rfl
/-- a positive form has the value 0 just for 0, 0 -/
theorem vF_pos {f : F3} (h : gF f) {x y : Int} (hv : vF f x y = 0) : x = 0 ∧ y = 0 := by
  obtain ⟨ha, hd⟩ := h
  have e : 4 * f.a * vF f x y = (2 * f.a * x + f.b * y) * (2 * f.a * x + f.b * y) + -dF f * (y * y) := by simp only [vF, dF]; grind
  rw [hv, Int.mul_zero] at e
  have h1 := sqF (2 * f.a * x + f.b * y)
  have h2 := sqF y
  have h3 := Int.mul_nonneg (show 0 ≤ -dF f by omega) h2
  have hy : y = 0 := by
    apply Classical.byContradiction
    intro hy
    have h4 : 1 ≤ y * y := by
      have : y * y ≠ 0 := fun e => by rcases Int.mul_eq_zero.1 e with h | h <;> exact hy h
      omega
    have := Int.mul_nonneg (show 0 ≤ -dF f - 1 by omega) (show 0 ≤ y * y - 1 by omega)
    rw [Int.sub_mul, Int.mul_sub] at this
    omega
  subst hy
  refine ⟨?_, rfl⟩
  simp only [Int.mul_zero, Int.add_zero] at e
  have h5 : 2 * f.a * x = 0 := by
    rcases Int.mul_eq_zero.1 (show (2 * f.a * x) * (2 * f.a * x) = 0 by omega) with h | h <;> exact h
  rcases Int.mul_eq_zero.1 h5 with h | h
  · omega
  · exact h
theorem hit_zero {f : F3} (h : gF f) {x y : Int} (hn : ¬ (x = 0 ∧ y = 0)) : hitF f 0 x y = 0 := if_neg fun e => hn (vF_pos h e)
theorem count_facts {f : F3} {n : Int} (h : (fCnt f n).2 = true) : fCnt f n = (((cnt8 f n 81 : Nat) : Int), true) ∧ 0 ≤ n ∧ (n = 0 → cnt8 f n 81 = 1) ∧ (0 < n → cnt8 f n 81 % 2 = 0) := by
  unfold fCnt at h ⊢
  cases hc : (inF f && posB f) && (decide (0 ≤ n) && decide (n ≤ 400))
  · simp [hc] at h
  · have h1 := hc
    simp only [Bool.and_eq_true, decide_eq_true_eq] at h1
    have hg := posB_iff.1 h1.1.2
    obtain ⟨u, v, e, eu, ev⟩ := cnt8_parts f n
    have h00 : vF f 0 0 = 0 := by simp [vF]
    refine ⟨by simp, h1.2.1, fun h0 => ?_, fun h0 => ?_⟩
    · subst h0
      have hu : u = 0 := by
        rw [eu]
        refine sumH_zero 40 (fun j hj => ?_)
        rw [rowc8_sum]
        exact sumH_zero 81 (fun i hi => hit_zero hg (by omega))
      have hv : v = 0 := by
        rw [ev]
        exact sumH_zero 40 (fun j hj => hit_zero hg (by omega))
      rw [e, hu, hv, hitF, if_pos h00]
    · have : hitF f n 0 0 = 0 := if_neg (by rw [h00]; omega)
      omega
end Go.Proofs.Ytohkmdpefplddaa


/- The list of a matrix: plain. The whole number next to a fraction, what is left of a matrix when the shift and the turn are taken off, that it stays a matrix, and that it comes to an end. No condition. -/
import Derived.Test.YtohkmdpefplddaaTurnP
namespace Go.Proofs.Ytohkmdpefplddaa
open Go.RowKit

/-- the whole number next to a over c, of two equally near ones the greater one -/
def near (a c : Int) : Int := if c < 0 then (-(2 * a) - c) / (-(2 * c)) else (2 * a + c) / (2 * c)
/-- what division that drops a rest and its rest tell of the one that rounds down -/
theorem floor_td {n d : Int} (hd : 0 < d) : (n.tmod d < 0 → n.tdiv d - 1 = n / d) ∧ (¬ n.tmod d < 0 → n.tdiv d = n / d) := by
  have h1 := Int.emod_nonneg n (by omega : d ≠ 0)
  have h2 := Int.emod_lt_of_pos n hd
  rw [Int.tmod_eq_emod, Int.tdiv_eq_ediv]
  have hs : Int.sign d = 1 := Int.sign_eq_one_of_pos hd
  by_cases h : 0 ≤ n ∨ d ∣ n
  · rw [if_pos h, if_pos h]; constructor <;> intro h3 <;> omega
  · rw [if_neg h, if_neg h, hs]; constructor <;> intro h3 <;> omega
theorem fl_bd {N D : Int} (hD : 0 < D) : D * (N / D) ≤ N ∧ N < D * (N / D) + D := by
  have h0 := Int.mul_ediv_add_emod N D
  have h1 := Int.emod_nonneg N (by omega : D ≠ 0)
  have h2 := Int.emod_lt_of_pos N hD
  omega
theorem near_bd {a c : Int} (_ : c ≠ 0) : (0 < c → -c < 2 * (near a c * c - a) ∧ 2 * (near a c * c - a) ≤ c) ∧ (c < 0 → c ≤ 2 * (near a c * c - a) ∧ 2 * (near a c * c - a) < -c) := by
  unfold near
  constructor
  · intro hc
    rw [if_neg (by omega)]
    have := fl_bd (N := 2 * a + c) (D := 2 * c) (by omega)
    generalize (2 * a + c) / (2 * c) = q at *
    rw [show 2 * c * q = 2 * (q * c) from by rw [Int.mul_assoc, Int.mul_comm c q]] at this
    omega
  · intro hc
    rw [if_pos hc]
    have := fl_bd (N := -(2 * a) - c) (D := -(2 * c)) (by omega)
    generalize (-(2 * a) - c) / (-(2 * c)) = q at *
    rw [show -(2 * c) * q = -(2 * (q * c)) from by rw [Int.neg_mul, Int.mul_assoc, Int.mul_comm c q]] at this
    omega
/-- what is left of m when the shift by x and the turn are taken off -/
def nxm (m : M) (x : Int) : M := ⟨m.c, m.d, x * m.c - m.a, x * m.d - m.b⟩
theorem xd_nxm (m : M) (x : Int) : xd (nxm m x) = xd m := by
  obtain ⟨a, b, c, d⟩ := m
  simp only [xd, nxm, Int.mul_sub]
  rw [show c * (x * d) = d * (x * c) from by rw [← Int.mul_assoc, Int.mul_comm c x, Int.mul_comm d], Int.mul_comm c b, Int.mul_comm d a]
  omega
/-- the number next to A over C is no greater than those of a matrix -/
theorem near_in {m : M} (hm : inB m = true) (hc : m.c ≠ 0) : -1000000 ≤ near m.a m.c ∧ near m.a m.c ≤ 1000000 := by
  obtain ⟨h1, _, h3, _⟩ := inB_iff.1 hm
  obtain ⟨b1, b2⟩ := near_bd (a := m.a) hc
  generalize near m.a m.c = x at *
  generalize m.a = a at *
  generalize m.c = c at *
  rcases Int.lt_or_gt_of_ne hc with h | h
  · have k := b2 h
    constructor
    · apply Int.not_lt.1; intro hx
      have := Int.mul_nonneg (show 0 ≤ -1000001 - x by omega) (show 0 ≤ -c by omega)
      rw [Int.sub_mul, Int.mul_neg, Int.mul_neg] at this
      omega
    · apply Int.not_lt.1; intro hx
      have := Int.mul_nonneg (show 0 ≤ x - 1000001 by omega) (show 0 ≤ -c by omega)
      rw [Int.sub_mul, Int.mul_neg, Int.mul_neg] at this
      omega
  · have k := b1 h
    constructor
    · apply Int.not_lt.1; intro hx
      have := Int.mul_nonneg (show 0 ≤ -1000001 - x by omega) (show 0 ≤ c by omega)
      rw [Int.sub_mul] at this
      omega
    · apply Int.not_lt.1; intro hx
      have := Int.mul_nonneg (show 0 ≤ x - 1000001 by omega) (show 0 ≤ c by omega)
      rw [Int.sub_mul] at this
      omega
/-- a step keeps an even matrix, and halves C -/
theorem nxm_in {m : M} (hm : inB m = true) (hd : xd m = 1) (hc : m.c ≠ 0) :
    inB (nxm m (near m.a m.c)) = true ∧ 2 * (nxm m (near m.a m.c)).c.natAbs ≤ m.c.natAbs := by
  obtain ⟨h1, h2, h3, h4⟩ := inB_iff.1 hm
  have b := near_bd (a := m.a) hc
  obtain ⟨a, bb, c, d⟩ := m
  simp only [nxm, xd] at *
  generalize near a c = x at *
  have e : c * (x * d - bb) = d * (x * c - a) + 1 := by
    rw [Int.mul_sub, Int.mul_sub, show c * (x * d) = d * (x * c) from by rw [← Int.mul_assoc, Int.mul_comm c x, Int.mul_comm d], Int.mul_comm c bb, Int.mul_comm d a]
    omega
  generalize x * d - bb = d' at *
  generalize x * c - a = c' at *
  have hd' : -1000000 ≤ d' ∧ d' ≤ 1000000 := by
    rcases Int.lt_or_gt_of_ne hc with h | h
    · have k := b.2 h
      have p := mul_bd (x := d) (y := 2 * c') (a := 1000000) (b := -c) (by omega) (by omega)
      rw [show d * (2 * c') = 2 * (d * c') from by rw [← Int.mul_assoc, Int.mul_comm d 2, Int.mul_assoc]] at p
      constructor
      · apply Int.not_lt.1; intro hx
        have := Int.mul_nonneg (show 0 ≤ -c by omega) (show 0 ≤ -1000001 - d' by omega)
        rw [Int.mul_sub, Int.neg_mul, Int.neg_mul] at this
        omega
      · apply Int.not_lt.1; intro hx
        have := Int.mul_nonneg (show 0 ≤ -c by omega) (show 0 ≤ d' - 1000001 by omega)
        rw [Int.mul_sub, Int.neg_mul, Int.neg_mul] at this
        omega
    · have k := b.1 h
      have p := mul_bd (x := d) (y := 2 * c') (a := 1000000) (b := c) (by omega) (by omega)
      rw [show d * (2 * c') = 2 * (d * c') from by rw [← Int.mul_assoc, Int.mul_comm d 2, Int.mul_assoc]] at p
      constructor
      · apply Int.not_lt.1; intro hx
        have := Int.mul_nonneg (show 0 ≤ c by omega) (show 0 ≤ -1000001 - d' by omega)
        rw [Int.mul_sub] at this
        omega
      · apply Int.not_lt.1; intro hx
        have := Int.mul_nonneg (show 0 ≤ c by omega) (show 0 ≤ d' - 1000001 by omega)
        rw [Int.mul_sub] at this
        omega
  constructor
  · refine inB_iff.2 ⟨h3, h4, ?_, hd'⟩
    rcases Int.lt_or_gt_of_ne hc with h | h
    · have k := b.2 h; dsimp only; omega
    · have k := b.1 h; dsimp only; omega
  · rcases Int.lt_or_gt_of_ne hc with h | h
    · have k := b.2 h; omega
    · have k := b.1 h; omega
/-- the numbers that are taken off, and what is left behind them -/
def red : Nat → M → List Int × M
  | 0, m => ([], m)
  | n + 1, m => if m.c = 0 then ([], m) else (near m.a m.c :: (red n (nxm m (near m.a m.c))).1, (red n (nxm m (near m.a m.c))).2)
theorem red_fuel : ∀ (n n' : Nat) (m : M), inB m = true → xd m = 1 → m.c.natAbs ≤ n → m.c.natAbs ≤ n' → red n m = red n' m
  | 0, 0, _, _, _, _, _ => rfl
  | 0, n' + 1, m, _, _, h, _ => by simp [red, show m.c = 0 from by omega]
  | n + 1, 0, m, _, _, _, h => by simp [red, show m.c = 0 from by omega]
  | n + 1, n' + 1, m, h1, h2, h3, h4 => by
    by_cases hc : m.c = 0
    · simp [red, hc]
    · obtain ⟨k1, k2⟩ := nxm_in h1 h2 hc
      have ih := red_fuel n n' (nxm m (near m.a m.c)) k1 (by rw [xd_nxm, h2]) (by omega) (by omega)
      simp only [red, if_neg hc, ih]
def tlm (m : M) : List Int × M := red m.c.natAbs m
theorem tlm_end {m : M} (h : m.c = 0) : tlm m = ([], m) := by simp [tlm, h, red]
theorem tlm_step {m : M} (h1 : inB m = true) (h2 : xd m = 1) (hc : m.c ≠ 0) : tlm m = (near m.a m.c :: (tlm (nxm m (near m.a m.c))).1, (tlm (nxm m (near m.a m.c))).2) := by
  obtain ⟨k1, k2⟩ := nxm_in h1 h2 hc
  obtain ⟨n, hn⟩ : ∃ n, m.c.natAbs = n + 1 := ⟨m.c.natAbs - 1, by omega⟩
  have e := red_fuel n (nxm m (near m.a m.c)).c.natAbs _ k1 (by rw [xd_nxm, h2]) (by omega) (Nat.le_refl _)
  simp only [tlm, hn, red, if_neg hc, e]
theorem red_len : ∀ (n k : Nat) (m : M), inB m = true → xd m = 1 → m.c.natAbs < 2 ^ k → (red n m).1.length ≤ k
  | 0, _, _, _, _, _ => by simp [red]
  | n + 1, k, m, h1, h2, h3 => by
    by_cases hc : m.c = 0
    · simp [red, hc]
    · obtain ⟨k1, k2⟩ := nxm_in h1 h2 hc
      cases k with
      | zero => omega
      | succ k =>
        have ih := red_len n k (nxm m (near m.a m.c)) k1 (by rw [xd_nxm, h2]) (by omega)
        simp only [red, if_neg hc, List.length_cons]
        omega
theorem tlm_len {m : M} (h1 : inB m = true) (h2 : xd m = 1) : (tlm m).1.length ≤ 20 := by
  obtain ⟨_, _, h3, _⟩ := inB_iff.1 h1
  exact red_len _ 20 m h1 h2 (by omega)
/-- the list of a matrix, and the sign -/
def tls (m : M) : List Int × Int := ((tlm m).1 ++ [wrap64 ((tlm m).2.b * (tlm m).2.d)], (tlm m).2.d)
/-- what 'TurnList' returns -/
def tlr (m : M) : (List Int × Int) × Bool := if inB m && evB m && lsB (tls m).1 then (tls m, true) else (([], 0), false)
end Go.Proofs.Ytohkmdpefplddaa

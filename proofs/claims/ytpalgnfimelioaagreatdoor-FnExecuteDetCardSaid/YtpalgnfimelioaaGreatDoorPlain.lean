
/- Plain arithmetic of matrices: where the numbers are those of matrices, int wraps nothing. -/
import Derived.Test.YtpalgnfimelioaaGreatDoorBase
namespace Go.Proofs.YtpalgnfimelioaaGreatDoor
open Go.RowKit

theorem numB_iff {x : Int} : numB x = true ↔ -1000000 ≤ x ∧ x ≤ 1000000 := by simp [numB]
theorem inB_iff {m : M} : inB m = true ↔ (-1000000 ≤ m.a ∧ m.a ≤ 1000000) ∧ (-1000000 ≤ m.b ∧ m.b ≤ 1000000) ∧ (-1000000 ≤ m.c ∧ m.c ≤ 1000000) ∧ (-1000000 ≤ m.d ∧ m.d ≤ 1000000) := by
  simp only [inB, Bool.and_eq_true, numB_iff, and_assoc]
theorem mul_bd {x y a b : Int} (hx : -a ≤ x ∧ x ≤ a) (hy : -b ≤ y ∧ y ≤ b) : -(a * b) ≤ x * y ∧ x * y ≤ a * b := by
  have ha : 0 ≤ a := by omega
  have hb : 0 ≤ b := by omega
  have h1 := Int.mul_nonneg (show 0 ≤ a - x by omega) (show 0 ≤ b - y by omega)
  have h2 := Int.mul_nonneg (show 0 ≤ a + x by omega) (show 0 ≤ b + y by omega)
  have h3 := Int.mul_nonneg (show 0 ≤ a - x by omega) (show 0 ≤ b + y by omega)
  have h4 := Int.mul_nonneg (show 0 ≤ a + x by omega) (show 0 ≤ b - y by omega)
  simp only [Int.sub_mul, Int.mul_sub, Int.add_mul, Int.mul_add] at h1 h2 h3 h4
  omega
theorem mul6 {x y : Int} (hx : -1000000 ≤ x ∧ x ≤ 1000000) (hy : -1000000 ≤ y ∧ y ≤ 1000000) : -1000000000000 ≤ x * y ∧ x * y ≤ 1000000000000 := by
  have := mul_bd hx hy; omega
theorem wrap_id {x : Int} (h : -9223372036854775808 ≤ x ∧ x ≤ 9223372036854775807) : wrap64 x = x := IntWalk.wrap64_in x h
theorem wrap_mid {x : Int} (h : -4000000000000000000 ≤ x ∧ x ≤ 4000000000000000000) : wrap64 x = x := wrap_id ⟨by omega, by omega⟩

/-- the exact product -/
def xm (m n : M) : M := ⟨m.a * n.a + m.b * n.c, m.a * n.b + m.b * n.d, m.c * n.a + m.d * n.c, m.c * n.b + m.d * n.d⟩
def xd (m : M) : Int := m.a * m.d - m.b * m.c
theorem dot_wrap {a b c d : Int} (ha : -1000000 ≤ a ∧ a ≤ 1000000) (hb : -1000000 ≤ b ∧ b ≤ 1000000) (hc : -1000000 ≤ c ∧ c ≤ 1000000) (hd : -1000000 ≤ d ∧ d ≤ 1000000) :
    wrap64 (wrap64 (a * b) + wrap64 (c * d)) = a * b + c * d := by
  have h1 := mul6 ha hb
  have h2 := mul6 hc hd
  rw [wrap_mid (x := a * b) (by omega), wrap_mid (x := c * d) (by omega), wrap_mid (by omega)]
theorem dif_wrap {a b c d : Int} (ha : -1000000 ≤ a ∧ a ≤ 1000000) (hb : -1000000 ≤ b ∧ b ≤ 1000000) (hc : -1000000 ≤ c ∧ c ≤ 1000000) (hd : -1000000 ≤ d ∧ d ≤ 1000000) :
    wrap64 (wrap64 (a * b) - wrap64 (c * d)) = a * b - c * d := by
  have h1 := mul6 ha hb
  have h2 := mul6 hc hd
  rw [wrap_mid (x := a * b) (by omega), wrap_mid (x := c * d) (by omega), wrap_mid (by omega)]
theorem tm_x {m n : M} (hm : inB m = true) (hn : inB n = true) : tm m n = xm m n := by
  obtain ⟨h1, h2, h3, h4⟩ := inB_iff.1 hm
  obtain ⟨k1, k2, k3, k4⟩ := inB_iff.1 hn
  simp only [tm, xm, dot_wrap h1 k1 h2 k3, dot_wrap h1 k2 h2 k4, dot_wrap h3 k1 h4 k3, dot_wrap h3 k2 h4 k4]
theorem dt_x {m : M} (hm : inB m = true) : dt m = xd m := by
  obtain ⟨h1, h2, h3, h4⟩ := inB_iff.1 hm
  simp only [dt, xd, dif_wrap h1 h4 h2 h3]
theorem tr_x {m : M} (hm : inB m = true) : tr m = m.a + m.d := by
  obtain ⟨h1, h2, h3, h4⟩ := inB_iff.1 hm
  exact wrap_mid (by omega)
theorem neg_wrap {x : Int} (hx : -1000000 ≤ x ∧ x ≤ 1000000) : wrap64 (-x) = -x := wrap_mid (by omega)
theorem mi_x {m : M} (hm : inB m = true) : mi m = ⟨m.d, -m.b, -m.c, m.a⟩ := by
  obtain ⟨h1, h2, h3, h4⟩ := inB_iff.1 hm
  simp only [mi, neg_wrap h2, neg_wrap h3]
theorem mi_in {m : M} (hm : inB m = true) : inB (mi m) = true := by
  rw [mi_x hm]
  obtain ⟨h1, h2, h3, h4⟩ := inB_iff.1 hm
  exact inB_iff.2 ⟨by simpa using h4, by simp; omega, by simp; omega, by simpa using h1⟩
theorem tn_in {m : M} (hm : inB m = true) : inB (tn m) = true := by
  obtain ⟨h1, h2, h3, h4⟩ := inB_iff.1 hm
  exact inB_iff.2 ⟨h1, h3, h2, h4⟩
theorem unit_in : inB unitM = true := by decide
theorem xm_assoc (m n p : M) : xm (xm m n) p = xm m (xm n p) := by
  apply M.ext' <;> simp only [xm, Int.add_mul, Int.mul_add, Int.mul_assoc] <;> omega
theorem xm_unit (m : M) : xm m unitM = m := by apply M.ext' <;> simp [xm, unitM]
theorem unit_xm (m : M) : xm unitM m = m := by apply M.ext' <;> simp [xm, unitM]
theorem whB_iff {m : M} (hm : inB m = true) : whB m = true ↔ xd m = 1 ∨ xd m = -1 := by
  simp only [whB, evB, dt_x hm, Bool.or_eq_true, beq_iff_eq]
theorem evB_iff {m : M} (hm : inB m = true) : evB m = true ↔ xd m = 1 := by
  simp only [evB, dt_x hm, beq_iff_eq]
end Go.Proofs.YtpalgnfimelioaaGreatDoor

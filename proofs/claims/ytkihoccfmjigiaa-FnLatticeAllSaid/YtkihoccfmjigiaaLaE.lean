
/- The program's lattices, walked: whether one has a pair; double forms. -/
import Derived.Test.YtkihoccfmjigiaaLaD
import Derived.Test.YtkihoccfmjigiaaMoA
namespace Go.Proofs.Ytkihoccfmjigiaa
open Go.RowKit

theorem tmod0_iff {x a : Int} : x.tmod a = 0 ↔ x % a = 0 := by
  rw [← Int.dvd_iff_tmod_eq_zero, ← Int.dvd_iff_emod_eq_zero]
theorem tdiv_bd {x a : Int} (_ha : 1 ≤ a) (hx : -1000000 ≤ x ∧ x ≤ 1000000) : -1000000 ≤ x.tdiv a ∧ x.tdiv a ≤ 1000000 := by
  have h1 : (x.tdiv a).natAbs ≤ x.natAbs := by rw [Int.natAbs_tdiv]; exact Nat.div_le_self _ _
  omega
/-- what the region of 'has' reckons with -/
theorem has_num {a b x y : Int} (ha : 1 ≤ a) (hb : 0 ≤ b ∧ b ≤ 1000000) (hx : -1000000 ≤ x ∧ x ≤ 1000000) (hy : -1000000 ≤ y ∧ y ≤ 1000000) :
    wrap64 (y - wrap64 (wrap64 (x.tdiv a) * b)) = y - x.tdiv a * b := by
  have h1 := tdiv_bd ha hx
  have h2 := mul_bd (x := x.tdiv a) (y := b) (a := 1000000) (b := 1000000) ⟨by omega, by omega⟩ ⟨by omega, by omega⟩
  rw [wrap_mid (x := x.tdiv a) (by omega), wrap_mid (x := x.tdiv a * b) (by omega), wrap_mid (by omega)]
theorem hasB_f {a b d x y : Int} (h : x.tmod a ≠ 0) : hasB ⟨a, b, 0, d⟩ x y = false := by
  have : ¬ x % a = 0 := fun e => h (tmod0_iff.2 e)
  simp [hasB, this]
theorem hasB_t {a b d x y : Int} (h : x.tmod a = 0) : hasB ⟨a, b, 0, d⟩ x y = ((y - x.tdiv a * b).tmod d == 0) := by
  have h1 := tmod0_iff.1 h
  have h2 : x.tdiv a = x / a := Int.tdiv_eq_ediv_of_dvd (Int.dvd_of_emod_eq_zero h1)
  rw [h2, Bool.eq_iff_iff]
  simp only [hasB, h1, decide_true, Bool.true_and, decide_eq_true_eq, beq_iff_eq, tmod0_iff]
def mHasL (m : M) (x y : Int) : Bool := ltB 1000000 m && (numB x && (numB y && hasB (ltM 1000000 m) x y))
theorem ltM_rf {k : Int} {m : M} (h : ltB k m = true) : ltM k m = nf m ∧ RF (nf m) ∧ LatE (nf m) m ∧ xd m ≠ 0 ∧ inB m = true ∧ absI (xd m) ≤ k ∧ (nf m).a * (nf m).d = absI (xd m) ∧
    (1 ≤ (nf m).a ∧ (nf m).a ≤ k) ∧ (0 ≤ (nf m).b ∧ (nf m).b < (nf m).d) ∧ (nf m).c = 0 ∧ (1 ≤ (nf m).d ∧ (nf m).d ≤ k) := by
  have h' := h
  simp only [ltB, Bool.and_eq_true, Bool.not_eq_true', decide_eq_true_eq, beq_eq_false_iff_ne] at h'
  obtain ⟨⟨h1, h2⟩, h3⟩ := h'
  obtain ⟨s1, s2, s3⟩ := nf_spec h2
  obtain ⟨r1, r2, r3, r4, _⟩ := nf_in h2 h3
  exact ⟨by rw [ltM, if_pos h], s1, s2, h2, h1, h3, s3, r1, r2, r3, r4⟩
/-- the greatest number that divides all four -/
def gc4 (m : M) : Nat := Nat.gcd (Nat.gcd m.a.natAbs m.b.natAbs) (Nat.gcd m.c.natAbs m.d.natAbs)
def dbl (m : M) : Int × Int := if gc4 m = 0 then (0, 0) else ((gc4 m : Int), absI (xd m) / (gc4 m : Int))
theorem gcd_le' {x y k : Nat} (hx : x ≤ k) (hy : y ≤ k) : Nat.gcd x y ≤ k := by
  rcases Nat.eq_zero_or_pos x with h | h
  · rw [h, Nat.gcd_zero_left]; exact hy
  · exact Nat.le_trans (Nat.gcd_le_left _ h) hx
theorem dbl_bd {m : M} (h : inB m = true) : (0 ≤ (dbl m).1 ∧ (dbl m).1 ≤ 1000000) ∧ (0 ≤ (dbl m).2 ∧ (dbl m).2 ≤ 2000000000000) := by
  obtain ⟨h1, h2, h3, h4⟩ := inB_iff.1 h
  have hx := (xd_bd h).1
  have h0 := absI_nonneg (xd m)
  have hg : gc4 m ≤ 1000000 := gcd_le' (gcd_le' (by omega) (by omega)) (gcd_le' (by omega) (by omega))
  unfold dbl
  split
  · simp
  · refine ⟨⟨by dsimp only; omega, by dsimp only; omega⟩, Int.ediv_nonneg h0 (by omega), ?_⟩
    exact Int.le_trans (Int.ediv_le_self _ h0) hx
end Go.Proofs.Ytkihoccfmjigiaa

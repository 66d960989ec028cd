
/- Greatest divisors as sums: plain. No condition. -/
import Derived.Test.YtnbbgfcnbgjahaaShP
namespace Go.Proofs.Ytnbbgfcnbgjahaa
open Go.RowKit

/-- what dividing leads to: the divisor with its sign, and two numbers whose sum of products it is -/
def eg (a b : Int) : Int × Int × Int := if _h : b = 0 then (a, 1, 0) else ((eg b (a.tmod b)).1, (eg b (a.tmod b)).2.2, (eg b (a.tmod b)).2.1 - a.tdiv b * (eg b (a.tmod b)).2.2)
termination_by b.natAbs
decreasing_by all_goals (rw [Int.natAbs_tmod]; exact Nat.mod_lt _ (by omega))
theorem eg_zero (a : Int) : eg a 0 = (a, 1, 0) := by rw [eg, dif_pos rfl]
theorem eg_step {a b : Int} (h : b ≠ 0) : eg a b = ((eg b (a.tmod b)).1, (eg b (a.tmod b)).2.2, (eg b (a.tmod b)).2.1 - a.tdiv b * (eg b (a.tmod b)).2.2) := by
  rw [eg, dif_neg h]
theorem tmod_less {a b : Int} (h : b ≠ 0) : (a.tmod b).natAbs < b.natAbs := by rw [Int.natAbs_tmod]; exact Nat.mod_lt _ (by omega)
theorem tdiv_tmod_abs (a b : Int) : (a.tdiv b).natAbs * b.natAbs + (a.tmod b).natAbs = a.natAbs := by
  rw [Int.natAbs_tdiv, Int.natAbs_tmod, Nat.mul_comm]
  exact Nat.div_add_mod _ _
theorem eg_gcd : ∀ (n : Nat) (a b : Int), b.natAbs ≤ n → (eg a b).1.natAbs = Int.gcd a b ∧ (eg a b).2.1 * a + (eg a b).2.2 * b = (eg a b).1
  | n, a, b, h => by
    by_cases h0 : b = 0
    · subst h0
      rw [eg_zero]
      exact ⟨(Int.gcd_zero_right a).symm, by simp⟩
    · match n with
      | 0 => omega
      | n + 1 =>
        have hl := tmod_less (a := a) h0
        obtain ⟨k1, k2⟩ := eg_gcd n b (a.tmod b) (by omega)
        rw [eg_step h0]
        have e := Int.mul_tdiv_add_tmod a b
        generalize eg b (a.tmod b) = r at *
        obtain ⟨g, u, v⟩ := r
        dsimp only at *
        refine ⟨?_, ?_⟩
        · rw [k1, Int.gcd, Int.gcd, Int.natAbs_tmod, Nat.gcd_comm, ← Nat.gcd_rec, Nat.gcd_comm]
        · rw [← k2]
          have e2 : a.tmod b = a - b * a.tdiv b := by omega
          rw [e2]
          grind
theorem eg_bd : ∀ (n : Nat) (a b : Int), b.natAbs ≤ n → (eg a b).2.1.natAbs ≤ max 1 b.natAbs ∧ (eg a b).2.2.natAbs ≤ max 1 a.natAbs
  | n, a, b, h => by
    by_cases h0 : b = 0
    · subst h0
      rw [eg_zero]
      exact ⟨by simp, by simp⟩
    · match n with
      | 0 => omega
      | n + 1 =>
        have hl := tmod_less (a := a) h0
        obtain ⟨k1, k2⟩ := eg_bd n b (a.tmod b) (by omega)
        rw [eg_step h0]
        have e := tdiv_tmod_abs a b
        have hz : a.tmod b = 0 → eg b (a.tmod b) = (b, 1, 0) := fun e => by rw [e, eg_zero]
        generalize eg b (a.tmod b) = r at *
        obtain ⟨g, u, v⟩ := r
        dsimp only at *
        refine ⟨by omega, ?_⟩
        by_cases hr : a.tmod b = 0
        · have := hz hr
          simp only [Prod.mk.injEq] at this
          obtain ⟨-, rfl, rfl⟩ := this
          simp
          omega
        · have h1 : u.natAbs ≤ (a.tmod b).natAbs := by omega
          have h2 : v.natAbs ≤ b.natAbs := by omega
          have h3 : (a.tdiv b * v).natAbs ≤ (a.tdiv b).natAbs * b.natAbs := by rw [Int.natAbs_mul]; exact Nat.mul_le_mul_left _ h2
          omega
/-- the same with the sign of the divisor taken off -/
def egs (a b : Int) : Int × Int × Int := if (eg a b).1 < 0 then (-(eg a b).1, -(eg a b).2.1, -(eg a b).2.2) else eg a b
theorem egs_spec (a b : Int) : (egs a b).1 = Int.gcd a b ∧ (egs a b).2.1 * a + (egs a b).2.2 * b = (egs a b).1 := by
  obtain ⟨k1, k2⟩ := eg_gcd _ a b (Nat.le_refl _)
  unfold egs
  split
  · dsimp only
    exact ⟨by omega, by rw [← k2]; grind⟩
  · exact ⟨by omega, k2⟩
theorem egs_bd (a b : Int) : (egs a b).2.1.natAbs ≤ max 1 b.natAbs ∧ (egs a b).2.2.natAbs ≤ max 1 a.natAbs ∧ (egs a b).1.natAbs ≤ max a.natAbs b.natAbs := by
  obtain ⟨k1, k2⟩ := eg_bd _ a b (Nat.le_refl _)
  have h1 := (egs_spec a b).1
  have h2 : Int.gcd a b ≤ max a.natAbs b.natAbs := by
    rcases Nat.eq_zero_or_pos a.natAbs with h | h
    · rw [Int.gcd, h, Nat.gcd_zero_left]; omega
    · have := Nat.gcd_le_left b.natAbs h
      rw [Int.gcd]; omega
  refine ⟨?_, ?_, by omega⟩
  · unfold egs; split
    · dsimp only; omega
    · exact k1
  · unfold egs; split
    · dsimp only; omega
    · exact k2
def mGcd7 (p : Pr2) : (Int × Int × Int) × Bool := if pB p then (egs p.x p.y, true) else ((0, 0, 0), false)
/-- what the rounds of the forward way keep -/
def GcI (a b u v s t : Int) : Prop := (a.natAbs ≤ 10000 ∧ b.natAbs ≤ 10000) ∧ (u.natAbs ≤ 10000 ∧ v.natAbs ≤ 10000 ∧ s.natAbs ≤ 10000 ∧ t.natAbs ≤ 10000) ∧
  s.natAbs * a.natAbs + u.natAbs * b.natAbs ≤ 10000 ∧ t.natAbs * a.natAbs + v.natAbs * b.natAbs ≤ 10000
theorem gc_half {a b u s : Int} (hb : b ≠ 0) (h : s.natAbs * a.natAbs + u.natAbs * b.natAbs ≤ 10000) :
    (u - a.tdiv b * s).natAbs ≤ 10000 ∧ (u - a.tdiv b * s).natAbs * b.natAbs + s.natAbs * (a.tmod b).natAbs ≤ 10000 := by
  have e := tdiv_tmod_abs a b
  have h1 : (u - a.tdiv b * s).natAbs ≤ u.natAbs + (a.tdiv b).natAbs * s.natAbs := by
    have := Int.natAbs_sub_le u (a.tdiv b * s)
    rwa [Int.natAbs_mul] at this
  have h2 : (u - a.tdiv b * s).natAbs * b.natAbs ≤ (u.natAbs + (a.tdiv b).natAbs * s.natAbs) * b.natAbs := Nat.mul_le_mul_right _ h1
  have h3 : (u.natAbs + (a.tdiv b).natAbs * s.natAbs) * b.natAbs + s.natAbs * (a.tmod b).natAbs = u.natAbs * b.natAbs + s.natAbs * a.natAbs := by
    rw [← e]; grind
  have h4 : (u - a.tdiv b * s).natAbs * 1 ≤ (u - a.tdiv b * s).natAbs * b.natAbs := Nat.mul_le_mul_left _ (by omega)
  generalize (u - a.tdiv b * s).natAbs * b.natAbs = x at *
  generalize s.natAbs * (a.tmod b).natAbs = y at *
  generalize s.natAbs * a.natAbs = z at *
  generalize u.natAbs * b.natAbs = k at *
  exact ⟨by omega, by omega⟩
theorem gc_step {a b u v s t : Int} (hb : b ≠ 0) (h : GcI a b u v s t) : GcI b (a.tmod b) s t (u - a.tdiv b * s) (v - a.tdiv b * t) := by
  obtain ⟨⟨h1, h2⟩, ⟨h3, h4, h5, h6⟩, h7, h8⟩ := h
  obtain ⟨k1, k2⟩ := gc_half hb h7
  obtain ⟨k3, k4⟩ := gc_half hb h8
  have := tmod_less (a := a) hb
  exact ⟨⟨h2, by omega⟩, ⟨h5, h6, k1, k3⟩, k2, k4⟩
/-- where the forward way leads to from there -/
def gcR (a b u v s t : Int) : Int × Int × Int := ((eg a b).1, u * (eg a b).2.1 + s * (eg a b).2.2, v * (eg a b).2.1 + t * (eg a b).2.2)
theorem gcR_step {a b u v s t : Int} (hb : b ≠ 0) : gcR b (a.tmod b) s t (u - a.tdiv b * s) (v - a.tdiv b * t) = gcR a b u v s t := by
  unfold gcR
  rw [eg_step hb]
  dsimp only
  refine Prod.ext rfl (Prod.ext ?_ ?_)
  · dsimp only; grind
  · dsimp only; grind
theorem gcR_zero {a u v s t : Int} : gcR a 0 u v s t = (a, u, v) := by simp [gcR, eg_zero]
theorem gcR_start (a b : Int) : gcR a b 1 0 0 1 = eg a b := by simp [gcR]
end Go.Proofs.Ytnbbgfcnbgjahaa

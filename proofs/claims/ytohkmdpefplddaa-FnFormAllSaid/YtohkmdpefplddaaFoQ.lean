
/- All plain short forms with a discriminant, in order: plain. No condition. -/
import Derived.Test.YtohkmdpefplddaaFoC
namespace Go.Proofs.Ytohkmdpefplddaa
open Go.RowKit

/-- C, of A, B and the discriminant -d -/
def cF (d a : Nat) (b : Int) : Int := (b * b + d) / (4 * (a : Int))
def plB (f : F3) : Bool := Nat.gcd (Nat.gcd f.a.natAbs f.b.natAbs) f.c.natAbs == 1
def fF (d a : Nat) (b : Int) : F3 := ⟨(a : Int), b, cF d a b⟩
def okF (d a : Nat) (b : Int) : Bool := (dF (fF d a b) == -(d : Int)) && (shtB (fF d a b) && plB (fF d a b))
/-- those with A, the first n numbers from -A on as B -/
def rowF (d a : Nat) : Nat → List F3
  | 0 => []
  | n + 1 => rowF d a n ++ if okF d a ((n : Int) - a) then [fF d a ((n : Int) - a)] else []
def allF (d : Nat) : Nat → List F3
  | 0 => []
  | k + 1 => allF d k ++ rowF d (k + 1) (2 * (k + 1) + 1)
def topN (d : Nat) : Nat → Nat
  | 0 => 0
  | n + 1 => if 3 * ((n + 1) * (n + 1)) ≤ d then n + 1 else topN d n
def topF (d : Nat) : Nat := topN d 12
theorem topN_spec (d : Nat) : ∀ n, topN d n ≤ n ∧ 3 * (topN d n * topN d n) ≤ d ∧ (topN d n < n → d < 3 * ((topN d n + 1) * (topN d n + 1)))
  | 0 => ⟨Nat.le_refl _, Nat.zero_le _, fun h => absurd h (Nat.lt_irrefl _)⟩
  | n + 1 => by
    rw [topN]
    by_cases h : 3 * ((n + 1) * (n + 1)) ≤ d
    · rw [if_pos h]; exact ⟨Nat.le_refl _, h, fun h => absurd h (Nat.lt_irrefl _)⟩
    · rw [if_neg h]
      obtain ⟨h1, h2, h3⟩ := topN_spec d n
      refine ⟨by omega, h2, fun _ => ?_⟩
      rcases Nat.lt_or_ge (topN d n) n with h4 | h4
      · exact h3 h4
      · have e : topN d n = n := by omega
        rw [e]; omega
theorem top_eq {d k : Nat} (hk : k ≤ 11) (h1 : 3 * (k * k) ≤ d) (h2 : d < 3 * ((k + 1) * (k + 1))) : topF d = k := by
  obtain ⟨t1, t2, t3⟩ := topN_spec d 12
  rw [topF]
  generalize topN d 12 = t at *
  rcases Nat.lt_trichotomy t k with h | h | h
  · have := t3 (by omega)
    have := Nat.mul_le_mul (show t + 1 ≤ k by omega) (show t + 1 ≤ k by omega)
    omega
  · exact h
  · have := Nat.mul_le_mul (show k + 1 ≤ t by omega) (show k + 1 ≤ t by omega)
    omega
def fAll (x : Int) : List F3 × Bool := if 1 ≤ x ∧ x ≤ 400 then (allF x.toNat (topF x.toNat), true) else ([], false)
theorem rowF_len (d a : Nat) : ∀ n, (rowF d a n).length ≤ n
  | 0 => Nat.le_refl _
  | n + 1 => by
    have := rowF_len d a n
    rw [rowF, List.length_append]
    have : (if okF d a ((n : Int) - a) then [fF d a ((n : Int) - a)] else []).length ≤ 1 := by split <;> simp
    omega
theorem allF_len (d : Nat) : ∀ k, k ≤ 11 → (allF d k).length ≤ 23 * k
  | 0, _ => Nat.le_refl _
  | k + 1, h => by
    have h1 := allF_len d k (by omega)
    have h2 := rowF_len d (k + 1) (2 * (k + 1) + 1)
    rw [allF, List.length_append]
    omega
theorem rowF_yes {d a n : Nat} (h : okF d a ((n : Int) - a) = true) : rowF d a (n + 1) = rowF d a n ++ [fF d a ((n : Int) - a)] := by rw [rowF, if_pos h]
theorem rowF_no {d a n : Nat} (h : okF d a ((n : Int) - a) = false) : rowF d a (n + 1) = rowF d a n := by rw [rowF, if_neg (by rw [h]; exact Bool.false_ne_true), List.append_nil]
theorem cF_bd {d a : Nat} {b : Int} (ha : 1 ≤ a ∧ a ≤ 11) (hb : -(a : Int) ≤ b ∧ b ≤ a) (hd : d ≤ 400) : 0 ≤ b * b ∧ b * b ≤ 121 ∧ 0 ≤ cF d a b ∧ cF d a b ≤ 131 := by
  have h1 := sqF b
  have h2 := mul_bd (x := b) (y := b) (a := 11) (b := 11) (by omega) (by omega)
  have h3 : 0 ≤ cF d a b := Int.ediv_nonneg (by omega) (by omega)
  refine ⟨h1, by omega, h3, ?_⟩
  have h4 : 4 * (a : Int) * cF d a b ≤ b * b + d := Int.mul_ediv_self_le (by omega)
  have h5 := Int.mul_nonneg (show 0 ≤ 4 * (a : Int) - 4 by omega) h3
  rw [Int.sub_mul] at h5
  omega
theorem fF_in {d a : Nat} {b : Int} (ha : 1 ≤ a ∧ a ≤ 11) (hb : -(a : Int) ≤ b ∧ b ≤ a) (hd : d ≤ 400) : inF (fF d a b) = true := by
  obtain ⟨_, _, h3, h4⟩ := cF_bd ha hb hd
  rw [inF_iff]
  simp only [fF]
  omega
/-- -A is never B of a short form -/
theorem ok_low {d a : Nat} (ha : 1 ≤ a) : okF d a (-(a : Int)) = false := by
  cases h : okF d a (-(a : Int))
  · rfl
  · simp only [okF, Bool.and_eq_true] at h
    have := shtB_iff.1 h.2.1
    simp only [fF] at this
    omega
theorem row_one {d a : Nat} (ha : 1 ≤ a) : rowF d a 1 = [] := by
  have := rowF_no (d := d) (a := a) (n := 0) (by simpa using ok_low ha)
  rw [this, rowF]
/-- the discriminant is -d just where 4 A divides -/
theorem disc_iff {d a : Nat} {b : Int} : dF (fF d a b) = -(d : Int) ↔ (b * b + d) % (4 * (a : Int)) = 0 := by
  simp only [dF, fF, cF]
  have := Int.mul_ediv_add_emod (b * b + d) (4 * (a : Int))
  generalize (b * b + (d : Int)) / (4 * (a : Int)) = q at *
  generalize (b * b + (d : Int)) % (4 * (a : Int)) = r at *
  omega
/-- the model's own word for the same -/
theorem ok_iff {d a : Nat} {b : Int} (hb : -(a : Int) < b ∧ b ≤ a) : okF d a b = true ↔ (b * b + d) % (4 * (a : Int)) = 0 ∧
    ((a : Int) < cF d a b ∧ Int.gcd (Int.gcd a b : Nat) (cF d a b) = 1 ∨ cF d a b = a ∧ 0 ≤ b ∧ Int.gcd a b = 1) := by
  simp only [okF, Bool.and_eq_true, beq_iff_eq]
  rw [disc_iff, shtB_iff]
  simp only [plB, fF, beq_iff_eq, Int.gcd]
  constructor
  · rintro ⟨h1, ⟨h2, h3, h4⟩, h5⟩
    refine ⟨h1, ?_⟩
    rcases Int.lt_or_eq_of_le h3 with h6 | h6
    · exact .inl ⟨h6, h5⟩
    · refine .inr ⟨h6.symm, by omega, ?_⟩
      rw [← h6] at h5
      rw [Nat.gcd_comm, ← Nat.gcd_assoc, Nat.gcd_self] at h5
      exact h5
  · rintro ⟨h1, ⟨h6, h5⟩ | ⟨h6, h7, h5⟩⟩
    · exact ⟨h1, ⟨by omega, by omega, by omega⟩, h5⟩
    · refine ⟨h1, ⟨by omega, by omega, by omega⟩, ?_⟩
      rw [h6, Nat.gcd_comm, ← Nat.gcd_assoc, Nat.gcd_self]
      exact h5
end Go.Proofs.Ytohkmdpefplddaa

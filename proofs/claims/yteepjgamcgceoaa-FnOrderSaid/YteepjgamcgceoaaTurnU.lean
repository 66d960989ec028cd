
/- The order of an even matrix: plain. Which powers are the unit. No condition. -/
import Derived.Test.YteepjgamcgceoaaPlain
namespace Go.Proofs.Yteepjgamcgceoaa
open Go.RowKit

/-- whether it is the unit, the unit with all signs turned -/
def unB (m : M) : Bool := m.a == 1 && m.b == 0 && m.c == 0 && m.d == 1
def ngU (m : M) : Bool := m.a == -1 && m.b == 0 && m.c == 0 && m.d == -1
theorem unB_iff {m : M} : unB m = true ↔ m.a = 1 ∧ m.b = 0 ∧ m.c = 0 ∧ m.d = 1 := by simp [unB, and_assoc]
theorem ngU_iff {m : M} : ngU m = true ↔ m.a = -1 ∧ m.b = 0 ∧ m.c = 0 ∧ m.d = -1 := by simp [ngU, and_assoc]
/-- the order, told by the trace -/
def ord (m : M) : Int × Bool := if unB m then (1, true) else if ngU m then (2, true) else if m.a + m.d = -1 then (3, true) else if m.a + m.d = 0 then (4, true) else if m.a + m.d = 1 then (6, true) else (0, false)
/-- what 'TurnOrder' returns -/
def tor (m : M) : Int × Bool := if inB m && evB m then ord m else (0, false)
/-- the powers of an even matrix are made of it and the unit -/
def lin (u v : Int) (m : M) : M := ⟨u * m.a - v, u * m.b, u * m.c, u * m.d - v⟩
theorem lin_one (m : M) : lin 1 0 m = m := by apply M.ext' <;> simp [lin]
theorem xm_lin {m : M} (h : xd m = 1) (u v : Int) : xm (lin u v m) m = lin (u * (m.a + m.d) - v) u m := by
  obtain ⟨a, b, c, d⟩ := m
  simp only [xd] at h
  simp only [xm, lin]
  have e1 : u * a * a = u * (a * a) := Int.mul_assoc u a a
  have e2 : u * b * c = u * (b * c) := Int.mul_assoc u b c
  have e3 : u * (a * d) - u * (b * c) = u := by rw [← Int.mul_sub, h, Int.mul_one]
  have e4 : u * c * b = u * (b * c) := by rw [Int.mul_assoc, Int.mul_comm c b]
  have e5 : u * d * d = u * (d * d) := Int.mul_assoc u d d
  have e6 : u * a * b = u * (a * b) := Int.mul_assoc u a b
  have e7 : u * b * d = u * (b * d) := Int.mul_assoc u b d
  have e8 : u * c * a = u * (a * c) := by rw [Int.mul_assoc, Int.mul_comm c a]
  have e9 : u * d * c = u * (d * c) := Int.mul_assoc u d c
  have f1 : u * (a + d) * a = u * (a * a) + u * (a * d) := by rw [Int.mul_assoc, Int.add_mul, Int.mul_add, Int.mul_comm d a]
  have f2 : u * (a + d) * b = u * (a * b) + u * (b * d) := by rw [Int.mul_assoc, Int.add_mul, Int.mul_add, Int.mul_comm d b]
  have f3 : u * (a + d) * c = u * (a * c) + u * (d * c) := by rw [Int.mul_assoc, Int.add_mul, Int.mul_add]
  have f4 : u * (a + d) * d = u * (a * d) + u * (d * d) := by rw [Int.mul_assoc, Int.add_mul, Int.mul_add]
  apply M.ext' <;> dsimp only
  · rw [Int.sub_mul, Int.sub_mul, e1, e2, f1]; omega
  · rw [Int.sub_mul, Int.sub_mul, e6, e7, f2]; omega
  · rw [Int.sub_mul, Int.sub_mul, e8, e9, f3]; omega
  · rw [Int.sub_mul, Int.sub_mul, e4, e5, f4]; omega
/-- where the trace is that of no order, no power is the unit -/
theorem lin_not {m : M} {u v : Int} (h1 : unB m = false) (h2 : ngU m = false) (hd : xd m = 1) (hu : v.natAbs < u.natAbs) : unB (lin u v m) = false := by
  cases h : unB (lin u v m)
  · rfl
  · exfalso
    obtain ⟨k1, k2, k3, k4⟩ := unB_iff.1 h
    obtain ⟨a, b, c, d⟩ := m
    simp only [lin, xd] at k1 k2 k3 k4 hd
    have hu0 : u ≠ 0 := by omega
    have hb : b = 0 := by rcases Int.mul_eq_zero.1 k2 with h | h; exact absurd h hu0; exact h
    have hc : c = 0 := by rcases Int.mul_eq_zero.1 k3 with h | h; exact absurd h hu0; exact h
    have had : u * (a - d) = 0 := by rw [Int.mul_sub]; omega
    have hda : a = d := by rcases Int.mul_eq_zero.1 had with h | h; exact absurd h hu0; omega
    subst hb hc hda
    simp at hd
    have ha : a = 1 ∨ a = -1 := by
      by_cases h3 : a < 2
      · by_cases h4 : a < -1
        · exfalso
          have := Int.mul_nonneg (show 0 ≤ -a - 2 by omega) (show 0 ≤ -a by omega)
          rw [Int.sub_mul, Int.neg_mul, Int.mul_neg] at this
          omega
        · have : a = -1 ∨ a = 0 ∨ a = 1 := by omega
          rcases this with rfl | rfl | rfl
          · exact .inr rfl
          · simp at hd
          · exact .inl rfl
      · exfalso
        have := Int.mul_nonneg (show 0 ≤ a - 2 by omega) (show 0 ≤ a by omega)
        rw [Int.sub_mul] at this
        omega
    rcases ha with rfl | rfl
    · simp [unB] at h1
    · simp [ngU] at h2
theorem lin_grow {t u v : Int} (ht : 2 ≤ t.natAbs) (hu : v.natAbs < u.natAbs) : u.natAbs < (u * t - v).natAbs := by
  have h1 : (u * t).natAbs = u.natAbs * t.natAbs := Int.natAbs_mul u t
  have h2 : u.natAbs * 2 ≤ u.natAbs * t.natAbs := Nat.mul_le_mul_left _ ht
  omega
/-- no order: neither the unit nor that with all signs turned, and no such trace -/
theorem ord_none {m : M} (h1 : unB m = false) (h2 : ngU m = false) (h3 : 2 ≤ (m.a + m.d).natAbs) : ord m = (0, false) := by
  simp only [ord, h1, h2]
  rw [if_neg (by simp), if_neg (by simp), if_neg (by omega), if_neg (by omega), if_neg (by omega)]
/-- the powers from 1 to K are matrices, and the last one alone is the unit -/
def OrdSeq (m : M) (K : Nat) (P : Nat → M) : Prop := P 1 = m ∧ (∀ k, 1 ≤ k → k < K → tm (P k) m = P (k + 1) ∧ unB (P k) = false) ∧ (∀ k, 1 ≤ k → k ≤ K → inB (P k) = true) ∧ unB (P K) = true ∧ 1 ≤ K ∧ K ≤ 6 ∧ ord m = ((K : Int), true)
theorem lin_in {m : M} (hm : inB m = true) (t : Int) (ht : m.a + m.d = t) (h : t = -1 ∨ t = 0 ∨ t = 1) : inB (lin t 1 m) = true ∧ inB (lin (-1) 0 m) = true ∧ inB (lin (-t) (-1) m) = true ∧ inB (lin 0 1 m) = true ∧ inB (lin 0 (-1) m) = true := by
  obtain ⟨h1, h2, h3, h4⟩ := inB_iff.1 hm
  rcases h with rfl | rfl | rfl
  all_goals
    refine ⟨inB_iff.2 ?_, inB_iff.2 ?_, inB_iff.2 ?_, inB_iff.2 ?_, inB_iff.2 ?_⟩
    all_goals
      simp only [lin]
      omega
theorem lin_un {m : M} {u v : Int} (h : u = 1 ∨ u = -1) (h2 : u = 1 → m.a + m.d ≠ 2 + 2 * v) (h3 : u = -1 → -(m.a + m.d) ≠ 2 + 2 * v) : unB (lin u v m) = false := by
  cases hh : unB (lin u v m)
  · rfl
  · obtain ⟨k1, _, _, k4⟩ := unB_iff.1 hh
    simp only [lin] at k1 k4
    rcases h with rfl | rfl
    · have := h2 rfl; omega
    · have := h3 rfl; omega
/-- every even matrix has its powers so, or none of them is the unit -/
theorem ord_seq {m : M} (hm : inB m = true) (hd : xd m = 1) : (∃ K P, OrdSeq m K P) ∨ (unB m = false ∧ ngU m = false ∧ 2 ≤ (m.a + m.d).natAbs) := by
  cases h1 : unB m
  · cases h2 : ngU m
    · by_cases h3 : 2 ≤ (m.a + m.d).natAbs
      · exact .inr ⟨rfl, rfl, h3⟩
      · refine .inl ?_
        have ht : m.a + m.d = -1 ∨ m.a + m.d = 0 ∨ m.a + m.d = 1 := by omega
        obtain ⟨i1, i2, i3, i4, i5⟩ := lin_in hm _ rfl ht
        have step : ∀ u v, inB (lin u v m) = true → tm (lin u v m) m = lin (u * (m.a + m.d) - v) u m := fun u v h => by rw [tm_x h hm, xm_lin hd]
        have hu0 : ∀ v, v ≠ -1 → unB (lin 0 v m) = false := fun v hv => by
          cases hh : unB (lin 0 v m)
          · rfl
          · obtain ⟨k1, _, _, _⟩ := unB_iff.1 hh
            simp only [lin] at k1
            omega
        have hun : unB (lin 0 (-1) m) = true := unB_iff.2 ⟨by simp [lin], by simp [lin], by simp [lin], by simp [lin]⟩
        rcases ht with ht | ht | ht
        · rw [ht] at step i1 i3
          refine ⟨3, fun k => if k = 1 then m else if k = 2 then lin (-1) 1 m else lin 0 (-1) m, by simp, fun k hk1 hk2 => ?_, fun k hk1 hk2 => ?_, by simpa using hun, by omega, by omega, by simp [ord, h1, h2, ht]⟩
          · rcases (show k = 1 ∨ k = 2 by omega) with rfl | rfl
            · have := step 1 0 (by rw [lin_one]; exact hm)
              rw [lin_one] at this
              exact ⟨by simpa using this, by simpa using h1⟩
            · exact ⟨by simpa using step (-1) 1 i1, by simpa using lin_un (.inr rfl) (by omega) (by omega)⟩
          · rcases (show k = 1 ∨ k = 2 ∨ k = 3 by omega) with rfl | rfl | rfl
            · simpa using hm
            · simpa using i1
            · simpa using i5
        · rw [ht] at step i1 i3
          refine ⟨4, fun k => if k = 1 then m else if k = 2 then lin 0 1 m else if k = 3 then lin (-1) 0 m else lin 0 (-1) m, by simp, fun k hk1 hk2 => ?_, fun k hk1 hk2 => ?_, by simpa using hun, by omega, by omega, by simp [ord, h1, h2, ht]⟩
          · rcases (show k = 1 ∨ k = 2 ∨ k = 3 by omega) with rfl | rfl | rfl
            · have := step 1 0 (by rw [lin_one]; exact hm)
              rw [lin_one] at this
              exact ⟨by simpa using this, by simpa using h1⟩
            · exact ⟨by simpa using step 0 1 i4, by simpa using hu0 1 (by omega)⟩
            · exact ⟨by simpa using step (-1) 0 i2, by simpa using lin_un (.inr rfl) (by omega) (by omega)⟩
          · rcases (show k = 1 ∨ k = 2 ∨ k = 3 ∨ k = 4 by omega) with rfl | rfl | rfl | rfl
            · simpa using hm
            · simpa using i4
            · simpa using i2
            · simpa using i5
        · rw [ht] at step i1 i3
          refine ⟨6, fun k => if k = 1 then m else if k = 2 then lin 1 1 m else if k = 3 then lin 0 1 m else if k = 4 then lin (-1) 0 m else if k = 5 then lin (-1) (-1) m else lin 0 (-1) m, by simp, fun k hk1 hk2 => ?_, fun k hk1 hk2 => ?_, by simpa using hun, by omega, by omega, by simp [ord, h1, h2, ht]⟩
          · rcases (show k = 1 ∨ k = 2 ∨ k = 3 ∨ k = 4 ∨ k = 5 by omega) with rfl | rfl | rfl | rfl | rfl
            · have := step 1 0 (by rw [lin_one]; exact hm)
              rw [lin_one] at this
              exact ⟨by simpa using this, by simpa using h1⟩
            · exact ⟨by simpa using step 1 1 i1, by simpa using lin_un (.inl rfl) (by omega) (by omega)⟩
            · exact ⟨by simpa using step 0 1 i4, by simpa using hu0 1 (by omega)⟩
            · exact ⟨by simpa using step (-1) 0 i2, by simpa using lin_un (.inr rfl) (by omega) (by omega)⟩
            · exact ⟨by simpa using step (-1) (-1) i3, by simpa using lin_un (.inr rfl) (by omega) (by omega)⟩
          · rcases (show k = 1 ∨ k = 2 ∨ k = 3 ∨ k = 4 ∨ k = 5 ∨ k = 6 by omega) with rfl | rfl | rfl | rfl | rfl | rfl
            · simpa using hm
            · simpa using i1
            · simpa using i4
            · simpa using i2
            · simpa using i3
            · simpa using i5
    · obtain ⟨k1, k2, k3, k4⟩ := ngU_iff.1 h2
      refine .inl ⟨2, fun k => if k = 1 then m else unitM, by simp, fun k hk1 hk2 => ?_, fun k hk1 hk2 => ?_, by simp [unB, unitM], by omega, by omega, by simp [ord, h1, h2]⟩
      · obtain rfl : k = 1 := by omega
        refine ⟨?_, by simpa using h1⟩
        have : tm m m = unitM := by
          rw [tm_x hm hm]
          apply M.ext' <;> simp [xm, unitM, k1, k2, k3, k4]
        simpa using this
      · rcases (show k = 1 ∨ k = 2 by omega) with rfl | rfl
        · simpa using hm
        · simp [unit_in]
  · refine .inl ⟨1, fun _ => m, rfl, fun k hk1 hk2 => by omega, fun k _ _ => hm, h1, by omega, by omega, by simp [ord, h1]⟩
end Go.Proofs.Yteepjgamcgceoaa

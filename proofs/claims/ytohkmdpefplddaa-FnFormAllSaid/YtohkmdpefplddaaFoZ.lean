
/- All plain short forms with a discriminant: each is short, and there are some just where the discriminant may be: plain. -/
import Derived.Test.YtohkmdpefplddaaFoX
import Derived.Test.YtohkmdpefplddaaFoQ
namespace Go.Proofs.Ytohkmdpefplddaa
open Go.RowKit

/-- what each form of the list is -/
def aOk (d : Nat) (g : F3) : Prop := fShr g = (g, true) ∧ fDsc g = (-(d : Int), true)
theorem ok_aOk {d a : Nat} {b : Int} (ha : 1 ≤ a ∧ a ≤ 11) (hb : -(a : Int) ≤ b ∧ b ≤ a) (hd : 1 ≤ d ∧ d ≤ 400) (h : okF d a b = true) : aOk d (fF d a b) := by
  simp only [okF, Bool.and_eq_true, beq_iff_eq] at h
  have hin := fF_in (d := d) ha hb hd.2
  have hp : posB (fF d a b) = true := posB_iff.2 ⟨by simp only [fF]; omega, by rw [h.1]; omega⟩
  exact ⟨fShr_own hin hp h.2.1, by rw [fDsc, hin, if_pos rfl, h.1]⟩
theorem row_aOk {d a : Nat} (ha : 1 ≤ a ∧ a ≤ 11) (hd : 1 ≤ d ∧ d ≤ 400) : ∀ (n : Nat), n ≤ 2 * a + 1 → ∀ g ∈ rowF d a n, aOk d g
  | 0, _, g, hg => by simp [rowF] at hg
  | n + 1, hn, g, hg => by
    rw [rowF, List.mem_append] at hg
    rcases hg with hg | hg
    · exact row_aOk ha hd n (by omega) g hg
    · cases h : okF d a ((n : Int) - a)
      · rw [h] at hg; simp at hg
      · rw [h, if_pos rfl, List.mem_singleton] at hg
        rw [hg]
        exact ok_aOk ha (by omega) hd h
theorem all_aOk {d : Nat} (hd : 1 ≤ d ∧ d ≤ 400) : ∀ (k : Nat), k ≤ 11 → ∀ g ∈ allF d k, aOk d g
  | 0, _, g, hg => by simp [allF] at hg
  | k + 1, hk, g, hg => by
    rw [allF, List.mem_append] at hg
    rcases hg with hg | hg
    · exact all_aOk hd k (by omega) g hg
    · exact row_aOk ⟨by omega, hk⟩ hd _ (Nat.le_refl _) g hg
theorem row_mono (d a : Nat) : ∀ (m n : Nat), (rowF d a n).length ≤ (rowF d a (n + m)).length
  | 0, n => Nat.le_refl _
  | m + 1, n => by
    have := row_mono d a m n
    have e : rowF d a (n + (m + 1)) = rowF d a (n + m) ++ if okF d a (((n + m : Nat) : Int) - a) then [fF d a (((n + m : Nat) : Int) - a)] else [] := rfl
    rw [e, List.length_append]; omega
theorem all_mono (d : Nat) : ∀ (k : Nat), 1 ≤ k → (allF d 1).length ≤ (allF d k).length
  | 0, h => by omega
  | 1, _ => Nat.le_refl _
  | k + 2, _ => by
    have := all_mono d (k + 1) (by omega)
    rw [show allF d (k + 2) = allF d (k + 1) ++ rowF d (k + 2) (2 * (k + 2) + 1) from rfl, List.length_append]; omega
theorem top_one {d : Nat} (h : 3 ≤ d) : 1 ≤ topF d := by
  obtain ⟨t1, t2, t3⟩ := topN_spec d 12
  rw [topF]
  generalize topN d 12 = t at *
  apply Nat.le_of_not_lt; intro h2
  obtain rfl : t = 0 := by omega
  have := t3 (by omega)
  omega
/-- the first form of all, where there is one -/
theorem ok_first {d : Nat} {b : Int} (hd : 1 ≤ d) (hb : b = 0 ∨ b = 1) (hm : (b * b + d) % 4 = 0) : okF d 1 b = true := by
  have hc : (1 : Int) ≤ cF d 1 b := by
    simp only [cF]
    rcases hb with rfl | rfl <;> omega
  simp only [okF, Bool.and_eq_true, beq_iff_eq]
  refine ⟨disc_iff.2 (by simpa using hm), shtB_iff.2 ?_, ?_⟩
  · simp only [fF]
    rcases hb with rfl | rfl <;> omega
  · simp [plB, fF]
theorem mod_ok {d : Nat} (hd : 1 ≤ d) (h : d % 4 = 0 ∨ d % 4 = 3) : 1 ≤ (allF d 1).length := by
  have e : allF d 1 = rowF d 1 3 := by simp [allF]
  rw [e]
  rcases h with h | h
  · have h1 := ok_first (d := d) (b := 0) hd (.inl rfl) (by omega)
    have := rowF_yes (d := d) (a := 1) (n := 1) (by simpa using h1)
    have h2 := row_mono d 1 1 2
    rw [this, List.length_append] at h2
    simp at h2
    omega
  · have h1 := ok_first (d := d) (b := 1) hd (.inr rfl) (by omega)
    have := rowF_yes (d := d) (a := 1) (n := 2) (by simpa using h1)
    rw [this, List.length_append]
    simp
/-- all of it, as the law asks it -/
theorem all_facts {x : Int} (h : (fAll x).2 = true) : ∃ d : Nat, x = d ∧ 1 ≤ d ∧ d ≤ 400 ∧ (∀ g ∈ (fAll x).1, aOk d g) ∧ (0 < (fAll x).1.length ↔ d % 4 = 0 ∨ d % 4 = 3) := by
  unfold fAll at h ⊢
  by_cases hx : 1 ≤ x ∧ x ≤ 400
  · obtain ⟨d, rfl⟩ : ∃ n : Nat, x = n := ⟨x.toNat, by omega⟩
    rw [if_pos hx, Int.toNat_natCast]
    dsimp only
    have hd : 1 ≤ d ∧ d ≤ 400 := by omega
    have hle : topF d ≤ 11 := by
      obtain ⟨t1, t2, _⟩ := topN_spec d 12
      rw [topF]
      generalize topN d 12 = t at *
      apply Nat.le_of_not_lt; intro h2
      obtain rfl : t = 12 := by omega
      omega
    have hok := all_aOk hd (topF d) hle
    refine ⟨d, rfl, hd.1, hd.2, hok, ?_, ?_⟩
    · intro hl
      obtain ⟨g, gs, e⟩ : ∃ g gs, allF d (topF d) = g :: gs := by
        cases hq : allF d (topF d) with
        | nil => rw [hq] at hl; simp at hl
        | cons g gs => exact ⟨g, gs, rfl⟩
      have h1 := (hok g (by rw [e]; simp)).2
      have h2 := disc_mod g
      have h3 := fDsc_ok (f := g) (by rw [h1])
      rw [h3.2] at h1
      have h4 : dF g = -(d : Int) := by injection h1
      rw [h4] at h2
      omega
    · intro hm
      have h1 := mod_ok hd.1 hm
      have h2 := all_mono d (topF d) (top_one (by omega))
      omega
  · rw [if_neg hx] at h; cases h
end Go.Proofs.Ytohkmdpefplddaa


/- The model's points, walked. No condition. -/
import Derived.Test.YtkallllpjkkhhaaMoS
import Derived.Test.YtkallllpjkkhhaaMoR
namespace Go.Proofs.Ytkallllpjkkhhaa
open Go.RowKit

theorem tmod_nat' (x y : Nat) : (x : Int).tmod (y : Int) = ((x % y : Nat) : Int) := by rw [Int.tmod_eq_emod_of_nonneg (by omega)]; omega
theorem l6B_rs {n x : Int} : l6B x 0 (n - 1) = rsB n x := by
  rw [Bool.eq_iff_iff]; simp [l6B, rsB]; omega
def sFst (k x y : Nat) : Nat × Nat := ((prs k).find? (oneP k x y)).getD (0, 0)
theorem all_none {k x y : Nat} {l : List (Nat × Nat)} (h : l.all (fun q => !oneP k x y q) = true) : l.find? (oneP k x y) = none := by
  rw [List.find?_eq_none]
  intro q hq
  have := List.all_eq_true.1 h q hq
  simpa using this
theorem sFst_eq {k x y : Nat} (h : ptB k x y = true) : sFst k x y = fstP k x y := by
  obtain ⟨x', y', e1, e2, h1, h2⟩ := ptB_nat h
  have hx : x < k := by omega
  have hy : y < k := by omega
  have : ((prs k).find? (oneP k x y)).isSome = true := by
    rw [List.find?_isSome]
    exact ⟨(x, y), prs_has hx hy, by simp [oneP, h, saB, Int.mul_comm]⟩
  obtain ⟨q, hq⟩ := Option.isSome_iff_exists.1 this
  simp [sFst, fstP, hq]
/-- a point is led to a point -/
theorem ptB_led {k : Nat} {m : M} {x y : Nat} (hk : 2 ≤ k ∧ k ≤ 12) (h : reB k m = true) (hp : ptB k x y = true) : ptB k (((ldX m x y % k).toNat : Nat)) (((ldY m x y % k).toNat : Nat)) = true := by
  have b1 := rs_bd (x := ldX m x y) (n := k) (by omega)
  have b2 := rs_bd (x := ldY m x y) (n := k) (by omega)
  simp only [reB, Bool.and_eq_true, beq_iff_eq] at h
  obtain ⟨_, hd⟩ := h
  simp only [ptB, Bool.and_eq_true, rsB_iff, beq_iff_eq] at hp ⊢
  obtain ⟨_, hg⟩ := hp
  refine ⟨⟨⟨by omega, by omega⟩, by omega, by omega⟩, ?_⟩
  simp only [Int.toNat_natCast] at hg ⊢
  obtain ⟨g, hgd⟩ : ∃ g, g = Nat.gcd (Nat.gcd k (ldX m x y % k).toNat) (ldY m x y % k).toNat := ⟨_, rfl⟩
  rw [← hgd]
  have d0 : g ∣ k := hgd ▸ Nat.dvd_trans (Nat.gcd_dvd_left _ _) (Nat.gcd_dvd_left _ _)
  have d1 : g ∣ (ldX m x y % k).toNat := hgd ▸ Nat.dvd_trans (Nat.gcd_dvd_left _ _) (Nat.gcd_dvd_right _ _)
  have d2 : g ∣ (ldY m x y % k).toNat := hgd ▸ Nat.gcd_dvd_right _ _
  have e0 : (g : Int) ∣ (k : Int) := Int.natCast_dvd_natCast.2 d0
  have e1 : (g : Int) ∣ ldX m x y % k := by
    have := Int.natCast_dvd_natCast.2 d1
    rwa [Int.toNat_of_nonneg b1.1] at this
  have e2 : (g : Int) ∣ ldY m x y % k := by
    have := Int.natCast_dvd_natCast.2 d2
    rwa [Int.toNat_of_nonneg b2.1] at this
  have f1 : (g : Int) ∣ ldX m x y := by
    rw [← Int.emod_add_mul_ediv (ldX m x y) k]
    exact Int.dvd_add e1 (Int.dvd_mul_of_dvd_left e0)
  have f2 : (g : Int) ∣ ldY m x y := by
    rw [← Int.emod_add_mul_ediv (ldY m x y) k]
    exact Int.dvd_add e2 (Int.dvd_mul_of_dvd_left e0)
  have f3 : (g : Int) ∣ xd m - 1 := by
    have : (k : Int) ∣ xd m - 1 := by
      rw [← Int.emod_add_mul_ediv (xd m) k, hd]
      exact ⟨xd m / k, by omega⟩
    exact Int.dvd_trans e0 this
  have g1 : (g : Int) ∣ x := by
    have h1 : (g : Int) ∣ m.d * ldX m x y - m.b * ldY m x y - (xd m - 1) * x := Int.dvd_sub (Int.dvd_sub (Int.dvd_mul_of_dvd_right f1) (Int.dvd_mul_of_dvd_right f2)) (Int.dvd_mul_of_dvd_left f3)
    have e : m.d * ldX m x y - m.b * ldY m x y - (xd m - 1) * x = x := by simp only [ldX, ldY, xd]; grind
    rwa [e] at h1
  have g2 : (g : Int) ∣ y := by
    have h1 : (g : Int) ∣ m.a * ldY m x y - m.c * ldX m x y - (xd m - 1) * y := Int.dvd_sub (Int.dvd_sub (Int.dvd_mul_of_dvd_right f2) (Int.dvd_mul_of_dvd_right f1)) (Int.dvd_mul_of_dvd_left f3)
    have e : m.a * ldY m x y - m.c * ldX m x y - (xd m - 1) * y = y := by simp only [ldX, ldY, xd]; grind
    rwa [e] at h1
  have : g ∣ Nat.gcd (Nat.gcd k x) y := Nat.dvd_gcd (Nat.dvd_gcd d0 (Int.natCast_dvd_natCast.1 g1)) (Int.natCast_dvd_natCast.1 g2)
  rw [hg] at this
  exact Nat.dvd_one.1 this
end Go.Proofs.Ytkallllpjkkhhaa

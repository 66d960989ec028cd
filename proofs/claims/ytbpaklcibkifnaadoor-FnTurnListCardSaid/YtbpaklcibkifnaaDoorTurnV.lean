
/- Lists lead back to matrices: plain. The matrix of the list of an even matrix, times the sign, is it; inner numbers are not from -1 to 1. No condition. -/
import Derived.Test.YtbpaklcibkifnaaDoorTurnQ
import Derived.Test.YtbpaklcibkifnaaDoorTurnV2
namespace Go.Proofs.YtbpaklcibkifnaaDoor
open Go.RowKit

/-- all signs turned, or none -/
def scl (s : Int) (m : M) : M := ⟨s * m.a, s * m.b, s * m.c, s * m.d⟩
theorem natAbs_le_iff {x : Int} {n : Nat} : x.natAbs ≤ n ↔ -(n : Int) ≤ x ∧ x ≤ n := by omega
theorem grow_le {u v a c y : Int} (hu : u.natAbs ≤ v.natAbs) (hy : y = v * a - u * c) (hc : 2 * c.natAbs ≤ a.natAbs) (ha : a ≠ 0) : v.natAbs ≤ y.natAbs := by
  have h1 : (v * a).natAbs = v.natAbs * a.natAbs := Int.natAbs_mul v a
  have h2 : (u * c).natAbs = u.natAbs * c.natAbs := Int.natAbs_mul u c
  have h3 : u.natAbs * c.natAbs ≤ v.natAbs * c.natAbs := Nat.mul_le_mul_right _ hu
  have h4 : v.natAbs * (c.natAbs + 1) ≤ v.natAbs * a.natAbs := Nat.mul_le_mul_left _ (by omega)
  rw [Nat.mul_add, Nat.mul_one] at h4
  omega
theorem near_big {a c : Int} (hc : c ≠ 0) (h : 2 * c.natAbs ≤ a.natAbs) : 2 ≤ (near a c).natAbs := by
  obtain ⟨b1, b2⟩ := near_bd (a := a) hc
  generalize near a c = x at *
  apply Nat.le_of_not_lt
  intro hx
  have hx' : x = -1 ∨ x = 0 ∨ x = 1 := by omega
  rcases Int.lt_or_gt_of_ne hc with h1 | h1
  · have k := b2 h1
    rcases hx' with rfl | rfl | rfl <;> omega
  · have k := b1 h1
    rcases hx' with rfl | rfl | rfl <;> omega
theorem big_grow {x p q : Int} (hx : 2 ≤ x.natAbs) (h : q.natAbs ≤ p.natAbs) : p.natAbs ≤ (p * x - q).natAbs := by
  have h1 : (p * x).natAbs = p.natAbs * x.natAbs := Int.natAbs_mul p x
  have h2 : p.natAbs * 2 ≤ p.natAbs * x.natAbs := Nat.mul_le_mul_left _ hx
  omega
/-- what the steps so far have made: the lower row grows, the upper one too, but for a first number 0 -/
def ColOk (p : M) : Prop := p.c.natAbs ≤ p.d.natAbs ∧ (p.a.natAbs ≤ p.b.natAbs ∨ (p.a.natAbs = 1 ∧ p.b = 0))
theorem chain_in {m p m' : M} (hm : inB m = true) (hcol : ColOk p) (h2 : 2 * m'.c.natAbs ≤ m'.a.natAbs) (ha : m'.a ≠ 0) (he : m = xm (xm p tu) m') : inB p = true := by
  obtain ⟨k1, _, k3, _⟩ := inB_iff.1 hm
  obtain ⟨p1, p2, p3, p4⟩ := p
  have e1 : m.a = p2 * m'.a - p1 * m'.c := by rw [he]; simp only [xm, tu]; simp [Int.neg_mul]; omega
  have e3 : m.c = p4 * m'.a - p3 * m'.c := by rw [he]; simp only [xm, tu]; simp [Int.neg_mul]; omega
  obtain ⟨c1, c2⟩ := hcol
  dsimp only at c1 c2
  have g3 := grow_le c1 e3 h2 ha
  rw [inB_iff]
  dsimp only
  rcases c2 with c2 | ⟨c2, c3⟩
  · have g1 := grow_le c2 e1 h2 ha
    omega
  · omega
theorem chain_end {m p m' : M} (hm : inB m = true) (hd : xd m' = 1) (hc : m'.c = 0) (he : m = xm (xm p tu) m') : (m'.d = 1 ∨ m'.d = -1) ∧ matF p [m'.b * m'.d] = (scl m'.d m, true) := by
  obtain ⟨a, b, c, d⟩ := m'
  dsimp only at hc he ⊢
  subst hc
  have hd' : a * d = 1 := by simpa [xd] using hd
  have hs : a = d ∧ (d = 1 ∨ d = -1) := by
    have h1 : a.natAbs * d.natAbs = 1 := by rw [← Int.natAbs_mul, hd']; rfl
    have h2 := Nat.eq_one_of_mul_eq_one_right h1
    have h3 := Nat.eq_one_of_mul_eq_one_left h1
    have h4 : a = 1 ∨ a = -1 := by omega
    have h5 : d = 1 ∨ d = -1 := by omega
    rcases h4 with rfl | rfl <;> rcases h5 with rfl | rfl <;> simp at hd' ⊢
  obtain ⟨rfl, hs⟩ := hs
  have e : stp p (b * a) = scl a m := by
    rw [he]
    simp only [stp, scl, xm, tu]
    rcases hs with rfl | rfl <;> apply M.ext' <;> simp [Int.mul_neg] <;> omega
  have hin : inB (scl a m) = true := by
    obtain ⟨k1, k2, k3, k4⟩ := inB_iff.1 hm
    rw [inB_iff]
    simp only [scl]
    rcases hs with rfl | rfl <;> omega
  refine ⟨hs, ?_⟩
  rw [matF_yes (by rw [e]; exact hin), e]
  rfl
theorem nxm_xm (m : M) (x : Int) : m = xm (xm (sh x) tu) (nxm m x) := by
  simp only [xm, sh, tu, nxm]
  apply M.ext' <;> simp <;> omega
theorem chain (m : M) (hm : inB m = true) : ∀ (n : Nat) (p m' : M), ColOk p → inB m' = true → xd m' = 1 → m'.c.natAbs ≤ n → 2 * m'.c.natAbs ≤ m'.a.natAbs → m = xm (xm p tu) m' →
    (∀ x ∈ (tlm m').1, 2 ≤ x.natAbs) ∧ ((tlm m').2.d = 1 ∨ (tlm m').2.d = -1) ∧ matF p ((tlm m').1 ++ [(tlm m').2.b * (tlm m').2.d]) = (scl (tlm m').2.d m, true) := by
  intro n
  induction n with
  | zero =>
    intro p m' hcol hin hd hn h2 he
    have hc : m'.c = 0 := by omega
    rw [tlm_end hc]
    exact ⟨(fun x hx => by cases hx), chain_end hm hd hc he⟩
  | succ n ih =>
    intro p m' hcol hin hd hn h2 he
    by_cases hc : m'.c = 0
    · rw [tlm_end hc]
      exact ⟨(fun x hx => by cases hx), chain_end hm hd hc he⟩
    · have hbig := near_big hc h2
      obtain ⟨k1, k2⟩ := nxm_in hin hd hc
      rw [tlm_step hin hd hc]
      generalize near m'.a m'.c = x at *
      have he2 : m = xm (xm (stp p x) tu) (nxm m' x) := by
        rw [stp_xm, he]
        conv => lhs; rw [nxm_xm m' x]
        simp only [xm_assoc]
      have hcol2 : ColOk (stp p x) := by
        obtain ⟨c1, c2⟩ := hcol
        refine ⟨big_grow hbig c1, .inl ?_⟩
        rcases c2 with c2 | ⟨c2, c3⟩
        · exact big_grow hbig c2
        · simp only [stp]
          rw [c3]
          omega
      have hin2 : inB (stp p x) = true := chain_in hm hcol2 k2 hc he2
      obtain ⟨i1, i2, i3⟩ := ih (stp p x) (nxm m' x) hcol2 k1 (by rw [xd_nxm, hd]) (by omega) k2 he2
      refine ⟨fun y hy => ?_, i2, ?_⟩
      · rcases List.mem_cons.1 hy with rfl | hy
        · exact hbig
        · exact i1 y hy
      · show matF p (x :: _) = _
        rw [matF_yes hin2]
        exact i3
/-- the list of an even matrix: its matrix, its inner numbers, its sign -/
theorem tlm_facts {m : M} (hm : inB m = true) (hd : xd m = 1) : ((tlm m).2.d = 1 ∨ (tlm m).2.d = -1) ∧ lmat ((tlm m).1 ++ [(tlm m).2.b * (tlm m).2.d]) = (scl (tlm m).2.d m, true) ∧ (∀ x ∈ (tlm m).1.tail, 2 ≤ x.natAbs) := by
  by_cases hc : m.c = 0
  · rw [tlm_end hc]
    have he : m = xm (xm ⟨0, 1, -1, 0⟩ tu) m := by
      simp only [xm, tu]
      apply M.ext' <;> simp
    obtain ⟨h1, h2⟩ := chain_end (p := ⟨0, 1, -1, 0⟩) hm hd hc he
    refine ⟨h1, ?_, (fun x hx => by cases hx)⟩
    have e : stp ⟨0, 1, -1, 0⟩ (m.b * m.d) = sh (m.b * m.d) := by
      simp only [stp, sh]
      apply M.ext' <;> simp
    have h3 : (matF ⟨0, 1, -1, 0⟩ [m.b * m.d]).1 = (scl m.d m) := by rw [h2]
    have h4 : (matF ⟨0, 1, -1, 0⟩ [m.b * m.d]).2 = true := by rw [h2]
    cases hi : inB (stp ⟨0, 1, -1, 0⟩ (m.b * m.d))
    · rw [matF_no hi] at h4; cases h4
    · rw [matF_yes hi, e] at h2
      exact h2
  · obtain ⟨k1, k2⟩ := nxm_in hm hd hc
    rw [tlm_step hm hd hc]
    generalize near m.a m.c = x at *
    have hcol : ColOk (sh x) := by
      refine ⟨by simp [sh], ?_⟩
      by_cases hx : x = 0
      · exact .inr ⟨rfl, hx⟩
      · left; simp only [sh]; omega
    obtain ⟨i1, i2, i3⟩ := chain m hm _ (sh x) (nxm m x) hcol k1 (by rw [xd_nxm, hd]) (Nat.le_refl _) k2 (nxm_xm m x)
    exact ⟨i2, i3, i1⟩
end Go.Proofs.YtbpaklcibkifnaaDoor


/- Forms: what their laws use besides: plain. -/
import Derived.Test.YtohkmdpefplddaaFoE
namespace Go.Proofs.Ytohkmdpefplddaa
open Go.RowKit

theorem fVal_in {f : F3} {x y : Int} (h : inF f = true) (hx : -1000 ≤ x ∧ x ≤ 1000) (hy : -1000 ≤ y ∧ y ≤ 1000) : fVal f x y = (vF f x y, true) := by
  rw [fVal, h, xI_iff.2 hx, xI_iff.2 hy]; rfl
theorem fVal_ok {f : F3} {x y : Int} (h : (fVal f x y).2 = true) : inF f = true ∧ (-1000 ≤ x ∧ x ≤ 1000) ∧ (-1000 ≤ y ∧ y ≤ 1000) ∧ fVal f x y = (vF f x y, true) := by
  unfold fVal at h ⊢
  cases hc : inF f && (xI x && xI y)
  · simp [hc] at h
  · have h1 := hc
    simp only [Bool.and_eq_true, xI_iff] at h1
    exact ⟨h1.1, h1.2.1, h1.2.2, by simp⟩
theorem vF_10 (f : F3) : vF f 1 0 = f.a := by simp only [vF]; grind
theorem vF_01 (f : F3) : vF f 0 1 = f.c := by simp only [vF]; grind
theorem vF_11 (f : F3) : vF f 1 1 = f.a + f.b + f.c := by simp only [vF]; grind
theorem vF_neg (f : F3) (x y : Int) : vF f (-x) (-y) = vF f x y := by simp only [vF]; grind
/-- moved by the turn -/
theorem mv_turn (f : F3) : mvF f ⟨0, -1, 1, 0⟩ = ⟨f.c, -f.b, f.a⟩ := by
  apply F3.ext' <;> simp only [vF, mvF] <;> grind
theorem fMv_turn {f : F3} (h : inF f = true) : fMv f ⟨0, -1, 1, 0⟩ = (⟨f.c, -f.b, f.a⟩, true) ∧ inF ⟨f.c, -f.b, f.a⟩ = true := by
  have h1 := inF_iff.1 h
  have h2 : inF ⟨f.c, -f.b, f.a⟩ = true := by rw [inF_iff]; dsimp only; omega
  have h0 : inB ⟨0, -1, 1, 0⟩ = true := by decide
  have h3 : (inB ⟨0, -1, 1, 0⟩ && evB ⟨0, -1, 1, 0⟩) = true := by rw [h0, (evB_iff h0).2 (by decide)]; rfl
  refine ⟨?_, h2⟩
  rw [fMv, mv_turn, h, h2, h3]; rfl
theorem vF_turn (f : F3) (x y : Int) : vF ⟨f.c, -f.b, f.a⟩ y (-x) = vF f x y := by simp only [vF]; grind
theorem fMv_ok {f : F3} {m : M} (h : (fMv f m).2 = true) : inF f = true ∧ inB m = true ∧ evB m = true ∧ inF (mvF f m) = true ∧ fMv f m = (mvF f m, true) := by
  unfold fMv at h ⊢
  cases hc : inF f && (inB m && evB m) && inF (mvF f m)
  · simp [hc] at h
  · have h1 := hc
    simp only [Bool.and_eq_true] at h1
    exact ⟨h1.1.1, h1.1.2.1, h1.1.2.2, h1.2, by simp⟩
theorem mul_mi {m : M} (hm : inB m = true) (he : evB m = true) : xm m (mi m) = unitM := by
  have h := (evB_iff hm).1 he
  rw [mi_x hm]
  simp only [xd] at h
  apply M.ext' <;> simp only [xm, unitM] <;> grind
theorem fMv_back {f : F3} {m : M} (h : (fMv f m).2 = true) : fMv (mvF f m) (mi m) = (f, true) := by
  obtain ⟨h1, h2, h3, h4, _⟩ := fMv_ok h
  have e : mvF (mvF f m) (mi m) = f := by rw [mv_mv, mul_mi h2 h3, mv_unit]
  have hi := mi_in h2
  have he : evB (mi m) = true := by
    rw [evB_iff hi, mi_x h2]
    have := (evB_iff h2).1 h3
    simp only [xd] at this ⊢; grind
  rw [fMv, e, h4, h1, hi, he]; rfl
theorem fMv_disc {f : F3} {m : M} (h : (fMv f m).2 = true) : fDsc (fMv f m).1 = (dF f, true) := by
  obtain ⟨h1, h2, h3, h4, h5⟩ := fMv_ok h
  rw [h5, fDsc, h4, if_pos rfl, d_mv, (evB_iff h2).1 h3]
  simp
theorem fDsc_ok {f : F3} (h : (fDsc f).2 = true) : inF f = true ∧ fDsc f = (dF f, true) := by
  unfold fDsc at h ⊢
  cases hc : inF f
  · simp [hc] at h
  · simp
/-- discriminants are 0 or 1 over 4 -/
theorem disc_mod (f : F3) : dF f % 4 = 0 ∨ dF f % 4 = 1 := by
  have h : dF f % 4 = (f.b * f.b) % 4 := by
    simp only [dF]
    rw [Int.mul_assoc]
    omega
  rw [h, Int.mul_emod]
  have : f.b % 4 = 0 ∨ f.b % 4 = 1 ∨ f.b % 4 = 2 ∨ f.b % 4 = 3 := by omega
  rcases this with e | e | e | e <;> rw [e] <;> decide
theorem disc_rest (f : F3) : (wrap64 ((dF f).tmod 4 + 4)).tmod 4 < 2 := by
  have h := disc_mod f
  have h1 : -4 < (dF f).tmod 4 := by
    have := Int.lt_tmod_of_pos (dF f) (b := 4) (by omega); omega
  have h2 : (dF f).tmod 4 < 4 := Int.tmod_lt_of_pos _ (by omega)
  rw [wrap_mid (by omega), Int.tmod_eq_emod_of_nonneg (by omega), Int.add_emod_right]
  have e := Int.mul_tdiv_add_tmod (dF f) 4
  omega
theorem fShr_ok {f : F3} (h : (fShr f).2 = true) : inF f = true ∧ posB f = true ∧ fShr f = (sfF f, true) := by
  unfold fShr at h ⊢
  cases hc : inF f && posB f
  · simp [hc] at h
  · have h1 := hc
    rw [Bool.and_eq_true] at h1
    exact ⟨h1.1, h1.2, by simp⟩
/-- a short form is its own -/
theorem fShr_own {g : F3} (h1 : inF g = true) (h2 : posB g = true) (h3 : shtB g = true) : fShr g = (g, true) := by
  rw [fShr, h1, h2, sf_short h3]; rfl
theorem fShr_facts {f : F3} (h : (fShr f).2 = true) : fShr f = (sfF f, true) ∧ fShr (sfF f) = (sfF f, true) ∧ fDsc f = (dF f, true) ∧ fDsc (sfF f) = (dF f, true) ∧ shtB (sfF f) = true ∧ fSam f (sfF f) = true := by
  obtain ⟨h1, h2, h3⟩ := fShr_ok h
  obtain ⟨k1, k2, k3, k4⟩ := sf_in h1 h2
  have h4 := fShr_own k1 k2 k3
  refine ⟨h3, h4, by rw [fDsc, h1]; rfl, by rw [fDsc, k1, if_pos rfl, k4], k3, ?_⟩
  rw [fSam, h3, h4]
  simp [sameF]
theorem fSam_facts {f g : F3} (h : fSam f g = true) : fDsc f = (dF f, true) ∧ fDsc g = (dF f, true) ∧ fSam g f = true := by
  simp only [fSam, Bool.and_eq_true] at h
  obtain ⟨h1, h2, h3⟩ := h
  obtain ⟨a1, a2, a3⟩ := fShr_ok h1
  obtain ⟨b1, b2, b3⟩ := fShr_ok h2
  have e := sameF_iff.1 h3
  have k1 := (sf_in a1 a2).2.2.2
  have k2 := (sf_in b1 b2).2.2.2
  have e2 : sfF f = sfF g := by rw [a3, b3] at e; exact e
  have hd : dF g = dF f := by rw [← k1, ← k2, e2]
  refine ⟨by rw [fDsc, a1]; rfl, by rw [fDsc, b1, if_pos rfl, hd], ?_⟩
  simp only [fSam, Bool.and_eq_true]
  exact ⟨h2, h1, sameF_iff.2 e.symm⟩
end Go.Proofs.Ytohkmdpefplddaa

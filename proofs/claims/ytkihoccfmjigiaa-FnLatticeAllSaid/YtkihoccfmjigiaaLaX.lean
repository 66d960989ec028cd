
/- What the promises on lattices ask of forms, sameness, pairs and double forms: plain. No condition. -/
import Derived.Test.YtkihoccfmjigiaaLaE
import Derived.Test.YtkihoccfmjigiaaLaF
namespace Go.Proofs.Ytkihoccfmjigiaa
open Go.RowKit

/-- a matrix in row form with a small index is its own form -/
theorem rf_own {f : M} (hf : RF f) {k : Int} (hk : k ≤ 1000000) (h : f.a * f.d ≤ k) : ltB k f = true ∧ nf f = f := by
  have hx : xd f = f.a * f.d := by simp only [xd, hf.1, Int.mul_zero, Int.sub_zero]
  have h1 := hf.2
  have j1 := mul_le' (show 0 ≤ f.a by omega) (show 1 ≤ f.d by omega)
  have j2 := mul_le' (show 0 ≤ f.d by omega) (show 1 ≤ f.a by omega)
  rw [Int.mul_comm f.d f.a] at j2
  have h0 : xd f ≠ 0 := by rw [hx]; omega
  have ha : absI (xd f) = f.a * f.d := by rw [hx]; unfold absI; rw [if_neg (by omega)]
  have hin : inB f = true := inB_iff.2 ⟨by omega, by omega, by rw [hf.1]; omega, by omega⟩
  obtain ⟨s1, s2, _⟩ := nf_spec h0
  refine ⟨?_, rf_unique s1 hf s2⟩
  simp only [ltB, hin, ha, Bool.true_and, Bool.and_eq_true, Bool.not_eq_true', decide_eq_true_eq, beq_eq_false_iff_ne]
  exact ⟨h0, h⟩
theorem lt_own {m : M} (h : ltB 1000000 m = true) : ltB 1000000 (nf m) = true ∧ nf (nf m) = nf m := by
  obtain ⟨_, r, _, _, _, h3, h4, _⟩ := ltM_rf h
  exact rf_own r (Int.le_refl _) (by omega)
theorem form_own {m : M} (h : ltB 1000000 m = true) : mForm (nf m) = (nf m, true) := by
  obtain ⟨h1, h2⟩ := lt_own h
  simp only [mForm, ltM, h1, h2, if_true]
theorem has_iff {m : M} (h : ltB 1000000 m = true) {x y : Int} : mHasL m x y = true ↔ numB x = true ∧ numB y = true ∧ Lat m x y := by
  obtain ⟨e, r, l, _⟩ := ltM_rf h
  simp only [mHasL, h, Bool.true_and, Bool.and_eq_true, e, hasB_iff r, l x y]
theorem has_own {m : M} (h : ltB 1000000 m = true) {x y : Int} : mHasL (nf m) x y = true ↔ numB x = true ∧ numB y = true ∧ Lat m x y := by
  obtain ⟨e, r, l, _⟩ := ltM_rf h
  rw [has_iff (lt_own h).1, l x y]
theorem form_facts {m : M} (h : ltB 1000000 m = true) : mForm m = (nf m, true) ∧ mForm (nf m) = (nf m, true) ∧ mdet m = (xd m, true) ∧ (nf m).c = 0 ∧ 1 ≤ (nf m).a ∧ 1 ≤ (nf m).d ∧ 0 ≤ (nf m).b ∧ (nf m).b < (nf m).d ∧
    (nf m).a * (nf m).d = absI (xd m) ∧ absI (xd m) ≤ 1000000 ∧ mHasL (nf m) m.a m.b = true ∧ mHasL (nf m) m.c m.d = true := by
  obtain ⟨e, r, l, _, hin, h3, h4, p1, p2, p3, p4⟩ := ltM_rf h
  obtain ⟨n1, n2, n3, n4⟩ := inB_iff.1 hin
  refine ⟨by simp only [mForm, e, h], form_own h, by simp [mdet, hin, dt_x hin], p3, p1.1, p4.1, p2.1, p2.2, h4, h3, ?_, ?_⟩
  · exact (has_own h).2 ⟨numB_iff.2 n1, numB_iff.2 n2, lat_r1 m⟩
  · exact (has_own h).2 ⟨numB_iff.2 n3, numB_iff.2 n4, lat_r2 m⟩
/-- an even matrix in front keeps the lattice -/
theorem times_same {m : M} (h : ltB 1000000 m = true) (hp : inB (xm ⟨2, 1, 1, 1⟩ m) = true) : mSameL m (xm ⟨2, 1, 1, 1⟩ m) = true := by
  obtain ⟨e, r, l, h0, hin, h3, h4, _⟩ := ltM_rf h
  obtain ⟨a, b, c, d⟩ := m
  have hx : xd (xm ⟨2, 1, 1, 1⟩ ⟨a, b, c, d⟩) = xd ⟨a, b, c, d⟩ := by simp only [xd, xm]; grind
  have hl : LatE (xm ⟨2, 1, 1, 1⟩ ⟨a, b, c, d⟩) ⟨a, b, c, d⟩ := latE_of ⟨2, 1, by simp only [xm], by simp only [xm]⟩ ⟨1, 1, by simp only [xm], by simp only [xm]⟩ ⟨1, -1, by simp only [xm]; grind, by simp only [xm]; grind⟩ ⟨-1, 2, by simp only [xm]; grind, by simp only [xm]; grind⟩
  have hb : ltB 1000000 (xm ⟨2, 1, 1, 1⟩ ⟨a, b, c, d⟩) = true := by
    simp only [ltB, hp, hx, Bool.true_and, Bool.and_eq_true, Bool.not_eq_true', decide_eq_true_eq, beq_eq_false_iff_ne]
    exact ⟨h0, h3⟩
  obtain ⟨e', r', l', _⟩ := ltM_rf hb
  simp only [mSameL, h, hb, Bool.true_and, sameM_iff, e, e']
  exact rf_unique r r' (l.trans (hl.symm.trans l'.symm))
theorem same_iff {m n : M} : mSameL m n = true ↔ ltB 1000000 m = true ∧ ltB 1000000 n = true ∧ nf m = nf n := by
  simp only [mSameL, Bool.and_eq_true, and_assoc]
  constructor
  · rintro ⟨h1, h2, h3⟩
    have := sameM_iff.1 h3
    rw [(ltM_rf h1).1, (ltM_rf h2).1] at this
    exact ⟨h1, h2, this⟩
  · rintro ⟨h1, h2, h3⟩
    exact ⟨h1, h2, sameM_iff.2 (by rw [(ltM_rf h1).1, (ltM_rf h2).1, h3])⟩
theorem same_facts {m n : M} (h : mSameL m n = true) : mSameL n m = true ∧ mHasL m n.a n.b = true ∧ mHasL m n.c n.d = true := by
  obtain ⟨h1, h2, h3⟩ := same_iff.1 h
  obtain ⟨_, _, l, _⟩ := ltM_rf h1
  obtain ⟨_, _, l', _, hin, _⟩ := ltM_rf h2
  obtain ⟨n1, n2, n3, n4⟩ := inB_iff.1 hin
  have hl : LatE n m := l'.symm.trans (by rw [← h3]; exact l)
  exact ⟨same_iff.2 ⟨h2, h1, h3.symm⟩, (has_iff h1).2 ⟨numB_iff.2 n1, numB_iff.2 n2, (hl _ _).1 (lat_r1 n)⟩, (has_iff h1).2 ⟨numB_iff.2 n3, numB_iff.2 n4, (hl _ _).1 (lat_r2 n)⟩⟩
theorem hasL_lt {m : M} {x y : Int} (h : mHasL m x y = true) : ltB 1000000 m = true := by
  simp only [mHasL, Bool.and_eq_true] at h
  exact h.1
theorem has_facts {m : M} {x y : Int} (h : mHasL m x y = true) (hx : absI x ≤ 500000) (hy : absI y ≤ 500000) : mHasL m (0 - x) (0 - y) = true ∧ mHasL m (2 * x) (2 * y) = true ∧ mHasL m 0 0 = true := by
  have hl := hasL_lt h
  obtain ⟨_, _, k⟩ := (has_iff hl).1 h
  have b1 := absI_bd x
  have b2 := absI_bd y
  refine ⟨(has_iff hl).2 ⟨numB_iff.2 (by omega), numB_iff.2 (by omega), ?_⟩, (has_iff hl).2 ⟨numB_iff.2 (by omega), numB_iff.2 (by omega), ?_⟩, (has_iff hl).2 ⟨by decide, by decide, lat_zero m⟩⟩
  · exact lat_cast (lat_lin (-1) 0 k k) (by grind) (by grind)
  · exact lat_cast (lat_lin 2 0 k k) (by grind) (by grind)
/-- double forms -/
theorem gc4_tn (m : M) : gc4 (tn m) = gc4 m := by
  simp only [gc4, tn]
  rw [Nat.gcd_assoc, Nat.gcd_assoc, ← Nat.gcd_assoc m.c.natAbs, ← Nat.gcd_assoc m.b.natAbs, Nat.gcd_comm m.c.natAbs m.b.natAbs]
theorem dbl_tn (m : M) : dbl (tn m) = dbl m := by
  have e : xd (tn m) = xd m := by simp only [xd, tn, Int.mul_comm m.c m.b]
  simp only [dbl, gc4_tn, e]
theorem gc4_dvd (m : M) : (gc4 m : Int) ∣ m.a ∧ (gc4 m : Int) ∣ m.b ∧ (gc4 m : Int) ∣ m.c ∧ (gc4 m : Int) ∣ m.d := by
  have h1 : gc4 m ∣ Nat.gcd m.a.natAbs m.b.natAbs := Nat.gcd_dvd_left _ _
  have h2 : gc4 m ∣ Nat.gcd m.c.natAbs m.d.natAbs := Nat.gcd_dvd_right _ _
  exact ⟨nat_dvd.2 (Nat.dvd_trans h1 (Nat.gcd_dvd_left _ _)), nat_dvd.2 (Nat.dvd_trans h1 (Nat.gcd_dvd_right _ _)), nat_dvd.2 (Nat.dvd_trans h2 (Nat.gcd_dvd_left _ _)), nat_dvd.2 (Nat.dvd_trans h2 (Nat.gcd_dvd_right _ _))⟩
theorem absI_dvd {x y : Int} (h : x ∣ y) : x ∣ absI y := by
  rcases (absI_bd y).2.2.2 with e | e
  · rw [e]; exact h
  · rw [e]; exact (Int.dvd_neg).2 h
theorem dbl_facts {m : M} : (dbl m).1 * (dbl m).2 = absI (xd m) ∧ ((dbl m).1 = 0 ∧ (dbl m).2 = 0 ∨ 0 < (dbl m).1 ∧ (dbl m).2 % (dbl m).1 = 0) := by
  obtain ⟨⟨p, hp⟩, ⟨q, hq⟩, ⟨r, hr⟩, ⟨t, ht⟩⟩ := gc4_dvd m
  by_cases h0 : gc4 m = 0
  · have e : xd m = 0 := by
      have z : ((gc4 m : Nat) : Int) = 0 := by rw [h0]; rfl
      rw [z, Int.zero_mul] at hp hq hr ht
      simp only [xd, hp, hq, hr, ht, Int.mul_zero, Int.sub_zero]
    have hd : dbl m = (0, 0) := by simp [dbl, h0]
    rw [hd, e]
    exact ⟨rfl, .inl ⟨rfl, rfl⟩⟩
  · have hs : 0 < ((gc4 m : Nat) : Int) := by omega
    have e : xd m = (gc4 m : Int) * ((gc4 m : Int) * (p * t - q * r)) := by
      simp only [xd]
      rw [hp, hq, hr, ht]
      grind
    have e2 : absI (xd m) = (gc4 m : Int) * ((gc4 m : Int) * absI (p * t - q * r)) := by
      rw [e, absI_mul, absI_mul]
      have : absI (gc4 m : Int) = (gc4 m : Int) := by unfold absI; rw [if_neg (by omega)]
      rw [this]
    have hd : dbl m = ((gc4 m : Int), (gc4 m : Int) * absI (p * t - q * r)) := by
      simp only [dbl, h0, if_false, e2]
      rw [Int.mul_ediv_cancel_left _ (by omega)]
    rw [hd, e2]
    exact ⟨by first | rfl | trivial, .inr ⟨hs, Int.mul_emod_right _ _⟩⟩
theorem double_facts {m : M} (h : (mDouble m).2 = true) : inB m = true ∧ mDouble m = (dbl m, true) ∧ mDouble (tn m) = (dbl m, true) ∧ mtn m = (tn m, true) ∧ mdet m = (xd m, true) := by
  unfold mDouble at h
  cases h1 : inB m
  · simp [h1] at h
  · cases h2 : numB (dbl m).2
    · simp [h1, h2] at h
    · refine ⟨rfl, by simp [mDouble, h1, h2], by simp [mDouble, tn_in h1, dbl_tn, h2], by simp [mtn, h1], by simp [mdet, h1, dt_x h1]⟩
end Go.Proofs.Ytkihoccfmjigiaa


/- What the promises on meets and joins ask, put together; plain. No condition. -/
import Derived.Test.YtcnhjnmnflehhaaLaY
namespace Go.Proofs.Ytcnhjnmnflehhaa
open Go.RowKit

theorem lt_more {m : M} (h : ltB 100 m = true) : ltB 1000000 m = true := by
  simp only [ltB, Bool.and_eq_true, decide_eq_true_eq] at h ⊢
  exact ⟨h.1, by omega⟩
theorem jn_comm (f g : M) : jnM f g = jnM g f := by
  have : Jn f g = Jn g f := by
    funext x y
    apply propext
    constructor
    · rintro ⟨a, b, c, d, h1, h2, rfl, rfl⟩; exact ⟨c, d, a, b, h2, h1, by omega, by omega⟩
    · rintro ⟨a, b, c, d, h1, h2, rfl, rfl⟩; exact ⟨c, d, a, b, h2, h1, by omega, by omega⟩
  simp only [jnM, this]
theorem both_of {m n : M} (h : (ltB 100 m && ltB 100 n) = true) : ltB 100 m = true ∧ ltB 100 n = true := Bool.and_eq_true_iff.1 h
/-- what 'FnMeet' asks -/
theorem meet_facts {m n : M} (h : (ltB 100 m && ltB 100 n) = true) : ∃ (o j f g : M) (U1 U2 V1 V2 P : Int), mMeet m n = (o, true) ∧ mJoin m n = (j, true) ∧ mForm m = (f, true) ∧ mForm n = (g, true) ∧
    (o.a * o.d = U1 ∧ U1 * j.a = U2 ∧ U2 * j.d = P ∧ f.a * f.d = V1 ∧ V1 * g.a = V2 ∧ V2 * g.d = P) ∧ ((0 ≤ U1 ∧ U1 ≤ 10000) ∧ (0 ≤ U2 ∧ U2 ≤ 10000) ∧ (0 ≤ V1 ∧ V1 ≤ 10000) ∧ (0 ≤ V2 ∧ V2 ≤ 10000) ∧ (0 ≤ P ∧ P ≤ 10000)) ∧
    mHasL m o.a o.b = true ∧ mHasL m 0 o.d = true ∧ mHasL n o.a o.b = true ∧ mHasL n 0 o.d = true := by
  obtain ⟨h1, h2⟩ := both_of h
  obtain ⟨_, r1, l1, _, _, x1, x2, p1, p2, p3, p4⟩ := ltM_rf h1
  obtain ⟨_, r2, l2, _, _, y1, y2, q1, q2, q3, q4⟩ := ltM_rf h2
  obtain ⟨s1, s2, s3, s4, s5, _, _, s6⟩ := meet_join r1 r2
  have k1 := s1.2
  have k2 := s3.2
  refine ⟨mtM (nf m) (nf n), jnM (nf m) (nf n), nf m, nf n, _, _, _, _, _, by simp [mMeet, h1, h2], by simp [mJoin, h1, h2], (form_facts (lt_more h1)).1, (form_facts (lt_more h2)).1, ⟨rfl, rfl, s5, rfl, rfl, rfl⟩, ?_, ?_⟩
  · have m1 := mul_bd (x := (nf m).a * (nf m).d) (y := (nf n).a * (nf n).d) (a := 100) (b := 100) ⟨by have := Int.mul_nonneg (show 0 ≤ (nf m).a by omega) (show 0 ≤ (nf m).d by omega); omega, by omega⟩ ⟨by have := Int.mul_nonneg (show 0 ≤ (nf n).a by omega) (show 0 ≤ (nf n).d by omega); omega, by omega⟩
    have e : (nf m).a * (nf m).d * (nf n).a * (nf n).d = (nf m).a * (nf m).d * ((nf n).a * (nf n).d) := Int.mul_assoc _ _ _
    have v1 : 0 ≤ (nf m).a * (nf m).d := Int.mul_nonneg (by omega) (by omega)
    have v2 : 0 ≤ (nf m).a * (nf m).d * (nf n).a := Int.mul_nonneg v1 (by omega)
    have v3 := mul_le' v2 (show 1 ≤ (nf n).d by omega)
    have u1 : 0 ≤ (mtM (nf m) (nf n)).a * (mtM (nf m) (nf n)).d := Int.mul_nonneg (by omega) (by omega)
    have u2 : 0 ≤ (mtM (nf m) (nf n)).a * (mtM (nf m) (nf n)).d * (jnM (nf m) (nf n)).a := Int.mul_nonneg u1 (by omega)
    have u3 := mul_le' u2 (show 1 ≤ (jnM (nf m) (nf n)).d by omega)
    have u4 := mul_le' u1 (show 1 ≤ (jnM (nf m) (nf n)).a by omega)
    have v5 := Int.mul_nonneg v2 (show 0 ≤ (nf n).d by omega)
    omega
  · have hoa : (mtM (nf m) (nf n)).a * (mtM (nf m) (nf n)).d ≤ 10000 := by
      have m1 := mul_bd (x := (nf m).a * (nf m).d) (y := (nf n).a * (nf n).d) (a := 100) (b := 100) ⟨by have := Int.mul_nonneg (show 0 ≤ (nf m).a by omega) (show 0 ≤ (nf m).d by omega); omega, by omega⟩ ⟨by have := Int.mul_nonneg (show 0 ≤ (nf n).a by omega) (show 0 ≤ (nf n).d by omega); omega, by omega⟩
      have e : (nf m).a * (nf m).d * (nf n).a * (nf n).d = (nf m).a * (nf m).d * ((nf n).a * (nf n).d) := Int.mul_assoc _ _ _
      have u1 : 0 ≤ (mtM (nf m) (nf n)).a * (mtM (nf m) (nf n)).d := Int.mul_nonneg (by omega) (by omega)
      have u2 : 0 ≤ (mtM (nf m) (nf n)).a * (mtM (nf m) (nf n)).d * (jnM (nf m) (nf n)).a := Int.mul_nonneg u1 (by omega)
      have u3 := mul_le' u2 (show 1 ≤ (jnM (nf m) (nf n)).d by omega)
      have u4 := mul_le' u1 (show 1 ≤ (jnM (nf m) (nf n)).a by omega)
      omega
    have j1 := mul_le' (show 0 ≤ (mtM (nf m) (nf n)).a by omega) (show 1 ≤ (mtM (nf m) (nf n)).d by omega)
    have j2 := mul_le' (show 0 ≤ (mtM (nf m) (nf n)).d by omega) (show 1 ≤ (mtM (nf m) (nf n)).a by omega)
    rw [Int.mul_comm (mtM (nf m) (nf n)).d (mtM (nf m) (nf n)).a] at j2
    have n1 : numB (mtM (nf m) (nf n)).a = true := numB_iff.2 (by omega)
    have n2 : numB (mtM (nf m) (nf n)).b = true := numB_iff.2 (by omega)
    have n3 : numB (mtM (nf m) (nf n)).d = true := numB_iff.2 (by omega)
    have n0 : numB 0 = true := by decide
    have t1 := (s4 _ _).1 (lat_r1 (mtM (nf m) (nf n)))
    have t2 := (s4 _ _).1 (lat_r2 (mtM (nf m) (nf n)))
    rw [s3.1] at t2
    exact ⟨(has_iff (lt_more h1)).2 ⟨n1, n2, (l1 _ _).1 t1.1⟩, (has_iff (lt_more h1)).2 ⟨n0, n3, (l1 _ _).1 t2.1⟩, (has_iff (lt_more h2)).2 ⟨n1, n2, (l2 _ _).1 t1.2⟩, (has_iff (lt_more h2)).2 ⟨n0, n3, (l2 _ _).1 t2.2⟩⟩
/-- what 'FnJoin' asks -/
theorem join_facts {m n : M} (h : (ltB 100 m && ltB 100 n) = true) : ∃ j : M, mJoin m n = (j, true) ∧ mJoin n m = (j, true) ∧ mHasL j m.a m.b = true ∧ mHasL j m.c m.d = true ∧ mHasL j n.a n.b = true ∧ mHasL j n.c n.d = true := by
  obtain ⟨h1, h2⟩ := both_of h
  obtain ⟨_, r1, l1, _, i1, x1, x2, p1, p2, p3, p4⟩ := ltM_rf h1
  obtain ⟨_, r2, l2, _, i2, y1, y2, q1, q2, q3, q4⟩ := ltM_rf h2
  obtain ⟨s1, s2, _, _, _, s6, s7, _⟩ := meet_join r1 r2
  obtain ⟨m1, m2, m3, m4⟩ := inB_iff.1 i1
  obtain ⟨n1, n2, n3, n4⟩ := inB_iff.1 i2
  have k1 := s1.2
  have hb := mul_bd (x := (jnM (nf m) (nf n)).a) (y := (jnM (nf m) (nf n)).d) (a := 100) (b := 100) ⟨by omega, by omega⟩ ⟨by omega, by omega⟩
  obtain ⟨o1, o2⟩ := rf_own s1 (Int.le_refl _) (by omega)
  have hh : ∀ x y, (-1000000 ≤ x ∧ x ≤ 1000000) → (-1000000 ≤ y ∧ y ≤ 1000000) → Jn (nf m) (nf n) x y → mHasL (jnM (nf m) (nf n)) x y = true := fun x y hx hy k =>
    (has_iff o1).2 ⟨numB_iff.2 hx, numB_iff.2 hy, (s2 x y).2 k⟩
  refine ⟨jnM (nf m) (nf n), by simp [mJoin, h1, h2], by simp [mJoin, h1, h2, jn_comm], ?_, ?_, ?_, ?_⟩
  · exact hh _ _ m1 m2 (jn_l ((l1 _ _).2 (lat_r1 m)))
  · exact hh _ _ m3 m4 (jn_l ((l1 _ _).2 (lat_r2 m)))
  · exact hh _ _ n1 n2 (jn_r ((l2 _ _).2 (lat_r1 n)))
  · exact hh _ _ n3 n4 (jn_r ((l2 _ _).2 (lat_r2 n)))
end Go.Proofs.Ytcnhjnmnflehhaa

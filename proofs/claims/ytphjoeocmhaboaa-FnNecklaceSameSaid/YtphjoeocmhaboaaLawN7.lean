
/- Matrices with one necklace: plain. -/
import Derived.Test.YtphjoeocmhaboaaNeckT
import Derived.Test.YtphjoeocmhaboaaNeckB
namespace Go.Proofs.Ytphjoeocmhaboaa
open Go.RowKit

/-- conjugate matrices have one necklace -/
theorem nmt_cj {m n : M} (hm : inB m = true) (hn : inB n = true) (dm : xd m = 1) (h : cj m n) : nmt m = nmt n := by
  have dn : xd n = 1 := (cj_xd h).symm.trans dm
  have ht := cj_tr h
  by_cases hg : goodM m
  · have hg' : goodM n := ⟨hn, dn, by have := hg.2.2; omega⟩
    obtain ⟨p1, p2, p3⟩ := posP_all hg
    obtain ⟨q1, q2, q3⟩ := posP_all hg'
    obtain ⟨e1, e2⟩ := nk_cj (good_pos p1 p3) (good_pos q1 q3) p1.2.1 (cj_trans (cj_trans (cj_symm p2) h) q2)
    rw [nmt_yes hg, nmt_yes hg', nkf, nkf, e1, e2]
  · have hg' : ¬ goodM n := fun k => hg ⟨hm, dm, by have := k.2.2; omega⟩
    have e1 : gdM m = false := by cases e : gdM m; rfl; exact absurd (gdM_iff.1 e) hg
    have e2 : gdM n = false := by cases e : gdM n; rfl; exact absurd (gdM_iff.1 e) hg'
    simp [nmt, e1, e2]
theorem nmt_some {m : M} (h : (nmt m).2 = true) : goodM m ∧ (wl (posP m)).length ≤ 40 ∧ nmt m = (txt (nk (wl (posP m))), true) := by
  by_cases hg : goodM m
  · rw [nmt_yes hg, nkf] at h
    by_cases h40 : (wl (posP m)).length ≤ 40
    · exact ⟨hg, h40, by rw [nmt_yes hg, nkf, if_pos h40]⟩
    · rw [if_neg h40] at h; cases h
  · have e1 : gdM m = false := by cases e : gdM m; rfl; exact absurd (gdM_iff.1 e) hg
    rw [nmt, e1] at h; cases h
/-- the matrix of the necklace: conjugate, and one of positive numbers -/
theorem nk_mat {m : M} (hg : goodM m) (h40 : (wl (posP m)).length ≤ 40) : inB (pm (nk (wl (posP m)))) = true ∧ (pm (nk (wl (posP m)))).a + (pm (nk (wl (posP m)))).d = m.a + m.d ∧ mxB (nk (wl (posP m))) = true := by
  obtain ⟨p1, p2, p3⟩ := posP_all hg
  have hp := good_pos p1 p3
  have hpm := pm_wl _ (pos_nn hp) p1.2.1
  have hmx : mxB (wl (posP m)) = true := pos_mx (lets_all _ _) h40 (by rw [hpm]; exact hp)
  obtain ⟨i, hi, e⟩ := nk_rotW (wl (posP m))
  obtain ⟨X, hX, hc, ht⟩ := rotW_conj hi
  rw [← e, hpm] at ht
  have htr := cj_tr p2
  have hmx' : mxB (nk (wl (posP m))) = true := by rw [nk_mx, hmx]
  refine ⟨?_, by omega, hmx'⟩
  obtain ⟨-, k1, k2, k3, k4⟩ := mx_pos hmx'
  have hd := pm_det (nk (wl (posP m)))
  generalize pm (nk (wl (posP m))) = n at *
  have ht2 : n.a + n.d ≤ 2000 := by have := hg.2.2.2; omega
  unfold xd at hd
  have h1 := Int.mul_nonneg (show 0 ≤ 2000 - n.a by omega) (show 0 ≤ 2000 - n.d by omega)
  have h2 := Int.mul_nonneg (show 0 ≤ n.b - 1 by omega) (show 0 ≤ n.c - 1 by omega)
  have h3 : 4 * (n.a * n.d) ≤ 4000000 := by
    have h4 : 4 * (n.a * n.d) = (n.a + n.d) * (n.a + n.d) - (n.a - n.d) * (n.a - n.d) := by grind
    have h5 := sq_le (x := n.a + n.d) (y := 2000) (by omega) ht2
    have h6 : 0 ≤ (n.a - n.d) * (n.a - n.d) := by rw [← Int.natAbs_mul_self' (n.a - n.d)]; exact Int.mul_nonneg (by omega) (by omega)
    omega
  have h4 := Int.mul_nonneg (show 0 ≤ n.b - 1 by omega) (show 0 ≤ n.c by omega)
  have h5 := Int.mul_nonneg (show 0 ≤ n.b by omega) (show 0 ≤ n.c - 1 by omega)
  rw [Int.sub_mul] at h4
  rw [Int.mul_sub] at h5
  exact inB_iff.2 ⟨by omega, by omega, by omega, by omega⟩
/-- all that FnNecklaceMat asks -/
theorem nmt_facts {m : M} (h : (nmt m).2 = true) : ∃ l : List UInt8, (nmt m) = (txt l, true) ∧ l.length ≤ 40 ∧ wmt l = (pm l, true) ∧ mtr (pm l) = (m.a + m.d, true) ∧ mtr m = (m.a + m.d, true) ∧ nmt (cT m) = (txt l, true) ∧ nin l = true ∧ inB m = true := by
  obtain ⟨hg, h40, e⟩ := nmt_some h
  obtain ⟨hi, ht, hmx⟩ := nk_mat hg h40
  have hlen : (nk (wl (posP m))).length ≤ 40 := by rw [nk_len]; exact h40
  refine ⟨nk (wl (posP m)), e, hlen, ?_, ?_, ?_, ?_, ?_, hg.1⟩
  · have hw : wdL (nk (wl (posP m))) = true := by
      simp only [mxB, Bool.and_eq_true] at hmx
      simp only [wdL, Bool.and_eq_true]
      exact hmx.1.1
    rw [wmt, if_pos hw, im_pm (by omega), ck, if_pos hi]
  · rw [mtr, if_pos hi, tr_x hi, ht]
  · rw [mtr, if_pos hg.1, tr_x hg.1]
  · rw [← nmt_cj hg.1 (cT_in hg.1) hg.2.1 (cT_cj m), e]
  · rw [nin, hmx, nk_nk]; simp
/-- the same necklace: the same trace -/
theorem nsm_facts {m n : M} (h : nsm m n = true) : mtr m = (m.a + m.d, true) ∧ mtr n = (m.a + m.d, true) ∧ nsm n m = true := by
  simp only [nsm, Bool.and_eq_true, beq_iff_eq] at h
  obtain ⟨⟨h1, h2⟩, h3⟩ := h
  obtain ⟨g1, l1, e1⟩ := nmt_some h1
  obtain ⟨g2, l2, e2⟩ := nmt_some h2
  obtain ⟨i1, t1, _⟩ := nk_mat g1 l1
  obtain ⟨i2, t2, _⟩ := nk_mat g2 l2
  have h4 := h3
  rw [e1, e2, ByteArray.toList_eq, ByteArray.toList_eq, txt_list, txt_list] at h4
  rw [← h4] at t2
  refine ⟨by rw [mtr, if_pos g1.1, tr_x g1.1], by rw [mtr, if_pos g2.1, tr_x g2.1]; congr 1; omega, ?_⟩
  simp only [nsm, Bool.and_eq_true, beq_iff_eq]
  exact ⟨⟨h2, h1⟩, h3.symm⟩
/-- what is conjugate has one necklace -/
theorem nsm_cj {m n : M} (hm : inB m = true) (hn : inB n = true) (dm : xd m = 1) (h : cj m n) : nsm m n = (nmt m).2 := by
  have e := nmt_cj hm hn dm h
  rw [nsm, ← e]
  cases (nmt m).2 <;> simp
end Go.Proofs.Ytphjoeocmhaboaa


/- Determinants, traces, turned and mirrored matrices, even ones: plain, and the laws walked over every slice of bytes. -/
import Derived.Test.YtidkbdgdiljdjaaLawC
namespace Go.Proofs.Ytidkbdgdiljdjaa
open Go.RowKit

theorem det_facts {m : M} (h : inB m = true) : mtn m = (tn m, true) ∧ mmi m = (mi m, true) ∧ mdet m = (dt m, true) ∧ mdet (tn m) = (dt m, true) ∧ mdet (mi m) = (dt m, true) := by
  have h1 := tn_in h
  have h2 := mi_in h
  have p1 := Int.mul_comm m.d m.a
  have p2 := Int.mul_comm m.c m.b
  refine ⟨by simp [mtn, h], by simp [mmi, h], by simp [mdet, h], ?_, ?_⟩
  · have e : xd (tn m) = xd m := by simp only [xd, tn]; omega
    simp only [mdet, h1, if_true, dt_x h1, dt_x h, e]
  · simp only [mdet, h2, if_true, dt_x h2, dt_x h]
    have e : xd (mi m) = xd m := by rw [mi_x h]; simp only [xd, Int.mul_neg, Int.neg_mul, Int.neg_neg]; omega
    rw [e]
theorem turned_facts {m : M} (h : (mtn m).2 = true) : mtn m = (tn m, true) ∧ mtn (tn m) = (m, true) ∧ mtr m = (m.a + m.d, true) ∧ mtr (tn m) = (m.a + m.d, true) := by
  have h0 : inB m = true := by unfold mtn at h; cases e : inB m <;> simp [e] at h ⊢
  have h1 := tn_in h0
  have e : tn (tn m) = m := rfl
  have e2 : (tn m).a + (tn m).d = m.a + m.d := rfl
  exact ⟨by simp only [mtn, h0, if_true], by simp only [mtn, h1, if_true, e], by simp only [mtr, h0, if_true, tr_x h0], by simp only [mtr, h1, if_true, tr_x h1, e2]⟩
theorem even_facts {m : M} (h : (inB m && evB m) = true) : mbk m = (mi m, true) ∧ mmi m = (mi m, true) ∧ inB (mi m) = true ∧ evB (mi m) = true := by
  simp only [Bool.and_eq_true] at h
  obtain ⟨h0, h1⟩ := h
  have h2 : whB m = true := by simp [whB, h1]
  have h3 := mi_in h0
  have e := (evB_iff h0).1 h1
  refine ⟨by simp [mbk, h0, h2, bki_pos h0 e, mi_x h0], by simp [mmi, h0], h3, (evB_iff h3).2 ?_⟩
  have := (det_facts h0).2.2.2.2
  simp only [mdet, h3, if_true, dt_x h3, dt_x h0, Prod.mk.injEq, and_true] at this
  rw [this, e]

end Go.Proofs.Ytidkbdgdiljdjaa

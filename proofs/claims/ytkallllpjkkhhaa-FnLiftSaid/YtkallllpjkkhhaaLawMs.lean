
/- Rests, even rest matrices, lifted matrices: plain, and the laws walked over every slice of bytes. -/
import Derived.Test.YtkallllpjkkhhaaDrawR
import Derived.Test.YtkallllpjkkhhaaMoA
import Derived.Deep.DeepCutAuto
namespace Go.Proofs.Ytkallllpjkkhhaa
open Go.RowKit

theorem rs_det {n : Int} (m : M) : xd (rsM n m) % n = xd m % n := by
  simp only [xd, rsM]
  rw [Int.sub_emod, ← Int.mul_emod, ← Int.mul_emod, ← Int.sub_emod]
theorem rs_even {n : Int} (hn : mdB n = true) {m : M} (h : xd m % n = 1) : mRestEven (rsM n m) n = true := by
  simp only [mRestEven, reB, hn, rsM_rb hn, rs_det, h, Bool.true_and, beq_self_eq_true]
theorem mod1 {n : Int} (hn : mdB n = true) : (1 : Int) % n = 1 := by
  obtain ⟨h1, _⟩ := mdB_iff.1 hn
  exact Int.emod_eq_of_lt (by omega) (by omega)
theorem rest_ok {m : M} {n : Int} (h : (mRestOf m n).2 = true) : inB m = true ∧ mdB n = true ∧ mRestOf m n = (rsM n m, true) := by
  unfold mRestOf at h ⊢
  cases h1 : inB m <;> cases h2 : mdB n <;> simp [h1, h2] at h ⊢
theorem rest_of {m : M} {n : Int} (h1 : inB m = true) (h2 : mdB n = true) : mRestOf m n = (rsM n m, true) := by simp [mRestOf, h1, h2]
theorem rest_facts {m : M} {n : Int} (h : (mRestOf m n).2 = true) : mRestOf m n = (rsM n m, true) ∧ mRestOf (rsM n m) n = (rsM n m, true) ∧ inB m = true ∧ (evB m = true → mRestEven (rsM n m) n = true) := by
  obtain ⟨h1, h2, h3⟩ := rest_ok h
  have h4 := rsM_rb h2 m
  refine ⟨h3, by rw [rest_of (rbM_in h2 h4) h2, rsM_id h4], h1, fun he => rs_even h2 ?_⟩
  rw [(evB_iff h1).1 he, mod1 h2]
theorem xd_sq (m : M) : xd (xm m m) = xd m * xd m := by simp only [xd, xm]; grind
theorem even_rest_facts {m : M} {n : Int} (h : mRestEven m n = true) : mmi m = (mi m, true) ∧ mRestOf (mi m) n = (rsM n (mi m), true) ∧ mt m m = (xm m m, true) ∧ mRestOf (xm m m) n = (rsM n (xm m m), true) ∧
    mRestEven (rsM n (mi m)) n = true ∧ mRestEven (rsM n (xm m m)) n = true := by
  simp only [mRestEven, reB, Bool.and_eq_true, beq_iff_eq] at h
  obtain ⟨h1, h2, h3⟩ := h
  have hin := rbM_in h1 h2
  have hmi := mi_in hin
  obtain ⟨n1, n2⟩ := mdB_iff.1 h1
  obtain ⟨k1, k2, k3, k4⟩ := rbM_iff.1 h2
  have hx : inB (xm m m) = true := by
    have e1 := mul_bd (x := m.a) (y := m.a) (a := 12) (b := 12) ⟨by omega, by omega⟩ ⟨by omega, by omega⟩
    have e2 := mul_bd (x := m.b) (y := m.c) (a := 12) (b := 12) ⟨by omega, by omega⟩ ⟨by omega, by omega⟩
    have e3 := mul_bd (x := m.a) (y := m.b) (a := 12) (b := 12) ⟨by omega, by omega⟩ ⟨by omega, by omega⟩
    have e4 := mul_bd (x := m.b) (y := m.d) (a := 12) (b := 12) ⟨by omega, by omega⟩ ⟨by omega, by omega⟩
    have e5 := mul_bd (x := m.c) (y := m.a) (a := 12) (b := 12) ⟨by omega, by omega⟩ ⟨by omega, by omega⟩
    have e6 := mul_bd (x := m.d) (y := m.c) (a := 12) (b := 12) ⟨by omega, by omega⟩ ⟨by omega, by omega⟩
    have e7 := mul_bd (x := m.c) (y := m.b) (a := 12) (b := 12) ⟨by omega, by omega⟩ ⟨by omega, by omega⟩
    have e8 := mul_bd (x := m.d) (y := m.d) (a := 12) (b := 12) ⟨by omega, by omega⟩ ⟨by omega, by omega⟩
    exact inB_iff.2 ⟨by simp only [xm]; omega, by simp only [xm]; omega, by simp only [xm]; omega, by simp only [xm]; omega⟩
  refine ⟨by simp [mmi, hin], rest_of hmi h1, by simp [mt, hin, tm_x hin hin, ck, hx], rest_of hx h1, rs_even h1 ?_, rs_even h1 ?_⟩
  · have e : xd (mi m) = xd m := by rw [mi_x hin]; simp only [xd]; grind
    rw [e, h3]
  · rw [xd_sq, Int.mul_emod, h3, Int.one_mul, mod1 h1]
end Go.Proofs.Ytkallllpjkkhhaa

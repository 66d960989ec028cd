
/- Lists that come round have one trace: plain. No condition. -/
import Derived.Test.YtbpaklcibkifnaaDoorTurnW
namespace Go.Proofs.YtbpaklcibkifnaaDoor
open Go.RowKit

/-- a shift and the turn for each number, in their order -/
def prT : List Int → M
  | [] => unitM
  | x :: l => xm (xm (sh x) tu) (prT l)
theorem prT_app : ∀ a b : List Int, prT (a ++ b) = xm (prT a) (prT b)
  | [], b => by
    show prT b = xm unitM (prT b)
    apply M.ext' <;> simp [xm, unitM]
  | x :: l, b => by
    show xm (xm (sh x) tu) (prT (l ++ b)) = xm (xm (xm (sh x) tu) (prT l)) (prT b)
    simp only [prT_app l b, xm_assoc]
theorem stp_xm (m : M) (x : Int) : stp m x = xm (xm m tu) (sh x) := by
  simp only [stp, xm, tu, sh]
  apply M.ext' <;> simp <;> omega
theorem matF_xm : ∀ (l : List Int) (m : M), (matF m l).2 = true → xm (matF m l).1 tu = xm (xm m tu) (prT l)
  | [], m, _ => by
    show xm m tu = xm (xm m tu) unitM
    rw [xm_unit]
  | x :: l, m, h => by
    cases hi : inB (stp m x)
    · rw [matF_no hi] at h; cases h
    · rw [matF_yes hi] at h ⊢
      rw [matF_xm l _ h, stp_xm]
      show _ = xm (xm m tu) (xm (xm (sh x) tu) (prT l))
      simp only [xm_assoc]
theorem lmat_xm {zs : List Int} (h : lsB zs = true) (h2 : (lmat zs).2 = true) : xm (lmat zs).1 tu = prT zs := by
  obtain ⟨⟨h3, _⟩, _⟩ := lsB_iff.1 h
  cases zs with
  | nil => simp at h3
  | cons x l => exact matF_xm l (sh x) h2
theorem xm_trace (m n : M) : (xm m n).a + (xm m n).d = (xm n m).a + (xm n m).d := by
  simp only [xm]
  have e1 := Int.mul_comm m.a n.a
  have e2 := Int.mul_comm m.b n.c
  have e3 := Int.mul_comm m.c n.b
  have e4 := Int.mul_comm m.d n.d
  omega
theorem rtr_prT {zs : List Int} (h : lsB zs = true) (h2 : (lmat zs).2 = true) : rtr zs = (prT zs).a + (prT zs).d := by
  have hin := (lmat_in h h2).1
  rw [rtr, tm_x hin (by decide), lmat_xm h h2, tr_x]
  rw [← lmat_xm h h2, ← tm_x hin (by decide), tu_tm hin]
  exact tu_in hin
theorem rtr_rot {zs : List Int} {i : Nat} (h : lsB zs = true) (h2 : (lmat zs).2 = true) (hi : i ≤ zs.length) (h3 : (lmat (rot zs i)).2 = true) : rtr (rot zs i) = rtr zs := by
  rw [rtr_prT (by rw [rot_ls zs hi]; exact h) h3, rtr_prT h h2, rot, prT_app, xm_trace, ← prT_app, List.take_append_drop]
theorem rnB_all {zs : List Int} (h : lsB zs = true) (h2 : (lmat zs).2 = true) (h3 : ∀ i, i < zs.length → (tof (rot zs i)).2 = true) : rnB zs = true := by
  refine rnB_yes h h2 fun i hi => ?_
  have h4 := h3 i hi
  rw [tof_ls (by rw [rot_ls zs (Nat.le_of_lt hi)]; exact h)] at h4
  cases h5 : (lmat (rot zs i)).2
  · rw [h5] at h4; simp at h4
  · rw [gdB, h5, rtr_rot h h2 (Nat.le_of_lt hi) h5]; simp
end Go.Proofs.YtbpaklcibkifnaaDoor

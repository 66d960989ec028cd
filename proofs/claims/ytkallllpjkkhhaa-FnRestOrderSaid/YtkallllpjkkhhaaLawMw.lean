
/- Orders divide counts: the law walked over every slice of bytes. -/
import Derived.Test.YtkallllpjkkhhaaDrawR
import Derived.Test.YtkallllpjkkhhaaMoN
namespace Go.Proofs.Ytkallllpjkkhhaa
open Go.RowKit

theorem ord_none {m : M} {n : Int} (h : (mOrd m n).2 = false) : mOrd m n = (0, false) := by
  unfold mOrd at h ⊢
  split
  · rename_i hh; rw [if_pos hh] at h; cases h
  · rfl
theorem order_facts {m : M} {n : Int} (h : (mOrd m n).2 = true) : ∃ o c : Nat, mOrd m n = ((o : Int), true) ∧ mCnt n = ((c : Int), true) ∧ 0 < o ∧ o ≤ 2000 ∧ c ≤ 2000 ∧ (c : Int).tmod o = 0 := by
  unfold mOrd at h ⊢
  cases h1 : mRestEven m n
  · simp [h1] at h
  · have h1' := h1
    simp only [mRestEven, Bool.and_eq_true] at h1'
    have hmd := h1'.1
    obtain ⟨k, rfl, hk1, hk2⟩ := mdB_nat hmd
    have h2 := h1'.2
    have h3 := h2
    simp only [reB, Bool.and_eq_true] at h3
    obtain ⟨a, b, c, d, rfl, g1, g2, g3, g4⟩ := rbM_nat h3.1
    obtain ⟨o1, o2⟩ := ordM_ok ⟨hk1, hk2⟩ h2
    have hc : 0 < cntT k ∧ cntT k ≤ 2000 := by
      rcases k_cases ⟨hk1, hk2⟩ with rfl | rfl | rfl | rfl | rfl | rfl | rfl | rfl | rfl | rfl | rfl <;> decide
    refine ⟨ordM k a b c d, cntT k, by simp [nM], by simp [mCnt, hmd], o1, ?_, hc.2, ?_⟩
    · have := Nat.le_of_dvd hc.1 (Nat.dvd_of_mod_eq_zero o2)
      omega
    · rw [Int.tmod_eq_emod_of_nonneg (by omega)]
      omega
set_option maxHeartbeats 4000000 in
theorem lawRestOrderD (A : Option Addr) (len cap : Nat) (zs : List Int) (w : World) (hRow : RowB .u8 w w.heap.size A len cap zs) : Calls Try.prog 4 #[.slice A len cap] w (fun E' W' => E' = .returned (.bool true) ∧ Below w.heap.size w W') := by
  by_cases hl : 1048576 < len
  · have hM := mem_nil w; have hB := Below.refl w.heap.size w; have hC := True.intro
    go_enter Try.func4, Try.ntmps4
    go_wp2
    go_ret
    exact ⟨rfl, by (repeat' (first | (with_reducible exact hB) | (with_reducible exact Below.refl _ _) | (with_reducible refine Below.alloc ?_ ?_ _) | (with_reducible refine Below.setCell ?_ ?_ _) | (with_reducible refine Below.drew ?_) | (with_reducible refine below_drewN ?_ _) | (with_reducible exact Nat.le_refl _) | (with_reducible exact hB.size) | (simp [go_sem]; done) | (have := hB.size; simp [go_sem]; omega)))⟩
  · have hM := mem_nil w; have hB := Below.refl w.heap.size w; have hC := True.intro
    go_enter Try.func4, Try.ntmps4
    go_upto_region 4 with (go_at_call 10; apply use_mnrow (w := w) hRow (DrawRestOrder_ _ _ _ _); (focus ((repeat' (first | (with_reducible exact hB) | (with_reducible exact Below.refl _ _) | (with_reducible refine Below.alloc ?_ ?_ _) | (with_reducible refine Below.setCell ?_ ?_ _) | (with_reducible refine Below.drew ?_) | (with_reducible refine below_drewN ?_ _) | (with_reducible exact Nat.le_refl _) | (with_reducible exact hB.size) | (simp [go_sem]; done) | (have := hB.size; simp [go_sem]; omega))); done)); (focus ((repeat' (first | (with_reducible exact hB) | (with_reducible exact Below.refl _ _) | (with_reducible refine Below.alloc ?_ ?_ _) | (with_reducible refine Below.setCell ?_ ?_ _) | (with_reducible refine Below.drew ?_) | (with_reducible refine below_drewN ?_ _) | (with_reducible exact Nat.le_refl _) | (with_reducible exact hB.size) | (simp [go_sem]; done) | (have := hB.size; simp [go_sem]; omega))); done)); rintro a b c d k w' hb; apply after_call (w := w) hb; (focus ((repeat' (first | (with_reducible exact hM) | (with_reducible apply mem_alloc) | (with_reducible apply mem_set) | (with_reducible apply mem_drew) | (with_reducible apply mem_drewN))); done)); (focus ((repeat' (first | (with_reducible exact hB) | (with_reducible exact Below.refl _ _) | (with_reducible refine Below.alloc ?_ ?_ _) | (with_reducible refine Below.setCell ?_ ?_ _) | (with_reducible refine Below.drew ?_) | (with_reducible refine below_drewN ?_ _) | (with_reducible exact Nat.le_refl _) | (with_reducible exact hB.size) | (simp [go_sem]; done) | (have := hB.size; simp [go_sem]; omega))); done)); (focus ((repeat' (first | (with_reducible exact hB) | (with_reducible exact Below.refl _ _) | (with_reducible refine Below.alloc ?_ ?_ _) | (with_reducible refine Below.setCell ?_ ?_ _) | (with_reducible refine Below.drew ?_) | (with_reducible refine below_drewN ?_ _) | (with_reducible exact Nat.le_refl _) | (with_reducible exact hB.size) | (simp [go_sem]; done) | (have := hB.size; simp [go_sem]; omega))); done)); clear hM hB hb; intro hM hB; (try clear hC); have hC := mem_facts hM; simp at hC)
    have c1 := fun W => RestOrder_ a b c d k W
    have c2 := fun W => sRestOrder_ a b c d k W
    cases hok : (mOrd ⟨a, b, c, d⟩ k).2
    · rw [ord_none hok] at c1 c2
      clear hok
      dsimp only at c1 c2
      go_wp2_with (first | (go_at_call 11; refine (c1 _).mono ?_; rintro e w' ⟨rfl, hb⟩; apply after_call (w := w) hb; (focus ((repeat' (first | (with_reducible exact hM) | (with_reducible apply mem_alloc) | (with_reducible apply mem_set) | (with_reducible apply mem_drew) | (with_reducible apply mem_drewN))); done)); (focus ((repeat' (first | (with_reducible exact hB) | (with_reducible exact Below.refl _ _) | (with_reducible refine Below.alloc ?_ ?_ _) | (with_reducible refine Below.setCell ?_ ?_ _) | (with_reducible refine Below.drew ?_) | (with_reducible refine below_drewN ?_ _) | (with_reducible exact Nat.le_refl _) | (with_reducible exact hB.size) | (simp [go_sem]; done) | (have := hB.size; simp [go_sem]; omega))); done)); (focus ((repeat' (first | (with_reducible exact hB) | (with_reducible exact Below.refl _ _) | (with_reducible refine Below.alloc ?_ ?_ _) | (with_reducible refine Below.setCell ?_ ?_ _) | (with_reducible refine Below.drew ?_) | (with_reducible refine below_drewN ?_ _) | (with_reducible exact Nat.le_refl _) | (with_reducible exact hB.size) | (simp [go_sem]; done) | (have := hB.size; simp [go_sem]; omega))); done)); clear hM hB hb; intro hM hB; (try clear hC); have hC := mem_facts hM; simp at hC) | (go_at_call 12; refine (c2 _).mono ?_; rintro e w' ⟨rfl, hb⟩; apply after_call (w := w) hb; (focus ((repeat' (first | (with_reducible exact hM) | (with_reducible apply mem_alloc) | (with_reducible apply mem_set) | (with_reducible apply mem_drew) | (with_reducible apply mem_drewN))); done)); (focus ((repeat' (first | (with_reducible exact hB) | (with_reducible exact Below.refl _ _) | (with_reducible refine Below.alloc ?_ ?_ _) | (with_reducible refine Below.setCell ?_ ?_ _) | (with_reducible refine Below.drew ?_) | (with_reducible refine below_drewN ?_ _) | (with_reducible exact Nat.le_refl _) | (with_reducible exact hB.size) | (simp [go_sem]; done) | (have := hB.size; simp [go_sem]; omega))); done)); (focus ((repeat' (first | (with_reducible exact hB) | (with_reducible exact Below.refl _ _) | (with_reducible refine Below.alloc ?_ ?_ _) | (with_reducible refine Below.setCell ?_ ?_ _) | (with_reducible refine Below.drew ?_) | (with_reducible refine below_drewN ?_ _) | (with_reducible exact Nat.le_refl _) | (with_reducible exact hB.size) | (simp [go_sem]; done) | (have := hB.size; simp [go_sem]; omega))); done)); clear hM hB hb; intro hM hB; (try clear hC); have hC := mem_facts hM; simp at hC))
      go_ret
      exact ⟨rfl, by (repeat' (first | (with_reducible exact hB) | (with_reducible exact Below.refl _ _) | (with_reducible refine Below.alloc ?_ ?_ _) | (with_reducible refine Below.setCell ?_ ?_ _) | (with_reducible refine Below.drew ?_) | (with_reducible refine below_drewN ?_ _) | (with_reducible exact Nat.le_refl _) | (with_reducible exact hB.size) | (simp [go_sem]; done) | (have := hB.size; simp [go_sem]; omega)))⟩
    · obtain ⟨o, n, e1, e2, e3, e4, e5, e6⟩ := order_facts hok
      rw [e1] at c1 c2
      have c3 := fun W => RestCount_ k W
      rw [e2] at c3
      have hz : ((o : Int) == 0) = false := by simp; omega
      clear e1 e2 hok
      dsimp only at c1 c2 c3
      go_wp2_with (first | (go_at_call 11; refine (c1 _).mono ?_; rintro e w' ⟨rfl, hb⟩; apply after_call (w := w) hb; (focus ((repeat' (first | (with_reducible exact hM) | (with_reducible apply mem_alloc) | (with_reducible apply mem_set) | (with_reducible apply mem_drew) | (with_reducible apply mem_drewN))); done)); (focus ((repeat' (first | (with_reducible exact hB) | (with_reducible exact Below.refl _ _) | (with_reducible refine Below.alloc ?_ ?_ _) | (with_reducible refine Below.setCell ?_ ?_ _) | (with_reducible refine Below.drew ?_) | (with_reducible refine below_drewN ?_ _) | (with_reducible exact Nat.le_refl _) | (with_reducible exact hB.size) | (simp [go_sem]; done) | (have := hB.size; simp [go_sem]; omega))); done)); (focus ((repeat' (first | (with_reducible exact hB) | (with_reducible exact Below.refl _ _) | (with_reducible refine Below.alloc ?_ ?_ _) | (with_reducible refine Below.setCell ?_ ?_ _) | (with_reducible refine Below.drew ?_) | (with_reducible refine below_drewN ?_ _) | (with_reducible exact Nat.le_refl _) | (with_reducible exact hB.size) | (simp [go_sem]; done) | (have := hB.size; simp [go_sem]; omega))); done)); clear hM hB hb; intro hM hB; (try clear hC); have hC := mem_facts hM; simp at hC) | (go_at_call 12; refine (c2 _).mono ?_; rintro e w' ⟨rfl, hb⟩; apply after_call (w := w) hb; (focus ((repeat' (first | (with_reducible exact hM) | (with_reducible apply mem_alloc) | (with_reducible apply mem_set) | (with_reducible apply mem_drew) | (with_reducible apply mem_drewN))); done)); (focus ((repeat' (first | (with_reducible exact hB) | (with_reducible exact Below.refl _ _) | (with_reducible refine Below.alloc ?_ ?_ _) | (with_reducible refine Below.setCell ?_ ?_ _) | (with_reducible refine Below.drew ?_) | (with_reducible refine below_drewN ?_ _) | (with_reducible exact Nat.le_refl _) | (with_reducible exact hB.size) | (simp [go_sem]; done) | (have := hB.size; simp [go_sem]; omega))); done)); (focus ((repeat' (first | (with_reducible exact hB) | (with_reducible exact Below.refl _ _) | (with_reducible refine Below.alloc ?_ ?_ _) | (with_reducible refine Below.setCell ?_ ?_ _) | (with_reducible refine Below.drew ?_) | (with_reducible refine below_drewN ?_ _) | (with_reducible exact Nat.le_refl _) | (with_reducible exact hB.size) | (simp [go_sem]; done) | (have := hB.size; simp [go_sem]; omega))); done)); clear hM hB hb; intro hM hB; (try clear hC); have hC := mem_facts hM; simp at hC) | (go_at_call 13; refine (c3 _).mono ?_; rintro e w' ⟨rfl, hb⟩; apply after_call (w := w) hb; (focus ((repeat' (first | (with_reducible exact hM) | (with_reducible apply mem_alloc) | (with_reducible apply mem_set) | (with_reducible apply mem_drew) | (with_reducible apply mem_drewN))); done)); (focus ((repeat' (first | (with_reducible exact hB) | (with_reducible exact Below.refl _ _) | (with_reducible refine Below.alloc ?_ ?_ _) | (with_reducible refine Below.setCell ?_ ?_ _) | (with_reducible refine Below.drew ?_) | (with_reducible refine below_drewN ?_ _) | (with_reducible exact Nat.le_refl _) | (with_reducible exact hB.size) | (simp [go_sem]; done) | (have := hB.size; simp [go_sem]; omega))); done)); (focus ((repeat' (first | (with_reducible exact hB) | (with_reducible exact Below.refl _ _) | (with_reducible refine Below.alloc ?_ ?_ _) | (with_reducible refine Below.setCell ?_ ?_ _) | (with_reducible refine Below.drew ?_) | (with_reducible refine below_drewN ?_ _) | (with_reducible exact Nat.le_refl _) | (with_reducible exact hB.size) | (simp [go_sem]; done) | (have := hB.size; simp [go_sem]; omega))); done)); clear hM hB hb; intro hM hB; (try clear hC); have hC := mem_facts hM; simp at hC))
      go_ret
      exact ⟨rfl, by (repeat' (first | (with_reducible exact hB) | (with_reducible exact Below.refl _ _) | (with_reducible refine Below.alloc ?_ ?_ _) | (with_reducible refine Below.setCell ?_ ?_ _) | (with_reducible refine Below.drew ?_) | (with_reducible refine below_drewN ?_ _) | (with_reducible exact Nat.le_refl _) | (with_reducible exact hB.size) | (simp [go_sem]; done) | (have := hB.size; simp [go_sem]; omega)))⟩
theorem goRestOrder (A : Option Addr) (len cap : Nat) (zs : List Int) (w : World) (h : IsRow .u8 w A len cap zs) : Calls Try.prog 4 #[.slice A len cap] w (fun E' W' => E' = .returned (.bool true) ∧ Below w.heap.size w W') := lawRestOrderD A len cap zs w (rowB h)
end Go.Proofs.Ytkallllpjkkhhaa

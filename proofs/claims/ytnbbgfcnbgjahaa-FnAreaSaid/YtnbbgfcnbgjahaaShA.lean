
/- The program's small functions on pairs, walked. Under bounds on the numbers alone. -/
import Derived.Test.YtnbbgfcnbgjahaaShP
import Derived.Test.YtnbbgfcnbgjahaaHeld
import Derived.Deep.LoopGhost
import Derived.Deep.DeepCutAuto
namespace Go.Proofs.Ytnbbgfcnbgjahaa
open Go.RowKit

theorem in7_ (x y : Int) (w : World) : Calls Try.prog 27 #[.agg #[.int .i64 x, .int .i64 y]] w (fun E' W' => E' = .returned (.bool (pB ⟨x, y⟩)) ∧ Below w.heap.size w W') := by
  by_cases h1 : -10000 ≤ x
  · by_cases h2 : x ≤ 10000
    · by_cases h3 : -10000 ≤ y
      all_goals
        have hM := mem_nil w; have hB := Below.refl w.heap.size w; have hC := True.intro
        go_enter Try.func27, Try.ntmps27
        go_wp2
        go_ret
        exact ⟨by first | (simp [pB, pI]; omega) | (simp [pB, pI, h1, h2, h3]), by (repeat' (first | (with_reducible exact hB) | (with_reducible exact Below.refl _ _) | (with_reducible refine Below.alloc ?_ ?_ _) | (with_reducible refine Below.setCell ?_ ?_ _) | (with_reducible refine Below.drew ?_) | (with_reducible refine below_drewN ?_ _) | (with_reducible exact Nat.le_refl _) | (with_reducible exact hB.size) | (simp [go_sem]; done) | (have := hB.size; simp [go_sem]; omega)))⟩
    · have hM := mem_nil w; have hB := Below.refl w.heap.size w; have hC := True.intro
      go_enter Try.func27, Try.ntmps27
      go_wp2
      go_ret
      exact ⟨by simp [pB, pI]; omega, by (repeat' (first | (with_reducible exact hB) | (with_reducible exact Below.refl _ _) | (with_reducible refine Below.alloc ?_ ?_ _) | (with_reducible refine Below.setCell ?_ ?_ _) | (with_reducible refine Below.drew ?_) | (with_reducible refine below_drewN ?_ _) | (with_reducible exact Nat.le_refl _) | (with_reducible exact hB.size) | (simp [go_sem]; done) | (have := hB.size; simp [go_sem]; omega)))⟩
  · have hM := mem_nil w; have hB := Below.refl w.heap.size w; have hC := True.intro
    go_enter Try.func27, Try.ntmps27
    go_wp2
    go_ret
    exact ⟨by simp [pB, pI]; omega, by (repeat' (first | (with_reducible exact hB) | (with_reducible exact Below.refl _ _) | (with_reducible refine Below.alloc ?_ ?_ _) | (with_reducible refine Below.setCell ?_ ?_ _) | (with_reducible refine Below.drew ?_) | (with_reducible refine below_drewN ?_ _) | (with_reducible exact Nat.le_refl _) | (with_reducible exact hB.size) | (simp [go_sem]; done) | (have := hB.size; simp [go_sem]; omega)))⟩
theorem dot7_ (a b c d : Int) (ha : -100000 ≤ a ∧ a ≤ 100000) (hb : -100000 ≤ b ∧ b ≤ 100000) (hc : -100000 ≤ c ∧ c ≤ 100000) (hd : -100000 ≤ d ∧ d ≤ 100000) (w : World) :
    Calls Try.prog 44 #[.agg #[.int .i64 a, .int .i64 b], .agg #[.int .i64 c, .int .i64 d]] w (fun E' W' => E' = .returned (.int .i64 (dotP ⟨a, b⟩ ⟨c, d⟩)) ∧ Below w.heap.size w W') := by
  have e1 := mul_bd ha hc
  have e2 := mul_bd hb hd
  have hM := mem_nil w; have hB := Below.refl w.heap.size w; have hC := True.intro
  go_enter Try.func44, Try.ntmps44
  go_wp2
  go_ret
  exact ⟨rfl, by (repeat' (first | (with_reducible exact hB) | (with_reducible exact Below.refl _ _) | (with_reducible refine Below.alloc ?_ ?_ _) | (with_reducible refine Below.setCell ?_ ?_ _) | (with_reducible refine Below.drew ?_) | (with_reducible refine below_drewN ?_ _) | (with_reducible exact Nat.le_refl _) | (with_reducible exact hB.size) | (simp [go_sem]; done) | (have := hB.size; simp [go_sem]; omega)))⟩
theorem crs7_ (a b c d : Int) (ha : -100000 ≤ a ∧ a ≤ 100000) (hb : -100000 ≤ b ∧ b ≤ 100000) (hc : -100000 ≤ c ∧ c ≤ 100000) (hd : -100000 ≤ d ∧ d ≤ 100000) (w : World) :
    Calls Try.prog 50 #[.agg #[.int .i64 a, .int .i64 b], .agg #[.int .i64 c, .int .i64 d]] w (fun E' W' => E' = .returned (.int .i64 (crsP ⟨a, b⟩ ⟨c, d⟩)) ∧ Below w.heap.size w W') := by
  have e1 := mul_bd ha hd
  have e2 := mul_bd hb hc
  have hM := mem_nil w; have hB := Below.refl w.heap.size w; have hC := True.intro
  go_enter Try.func50, Try.ntmps50
  go_wp2
  go_ret
  exact ⟨rfl, by (repeat' (first | (with_reducible exact hB) | (with_reducible exact Below.refl _ _) | (with_reducible refine Below.alloc ?_ ?_ _) | (with_reducible refine Below.setCell ?_ ?_ _) | (with_reducible refine Below.drew ?_) | (with_reducible refine below_drewN ?_ _) | (with_reducible exact Nat.le_refl _) | (with_reducible exact hB.size) | (simp [go_sem]; done) | (have := hB.size; simp [go_sem]; omega)))⟩
theorem len7_ (a b : Int) (ha : -100000 ≤ a ∧ a ≤ 100000) (hb : -100000 ≤ b ∧ b ≤ 100000) (w : World) :
    Calls Try.prog 28 #[.agg #[.int .i64 a, .int .i64 b]] w (fun E' W' => E' = .returned (.int .i64 (dotP ⟨a, b⟩ ⟨a, b⟩)) ∧ Below w.heap.size w W') := by
  have c := fun W => dot7_ a b a b ha hb ha hb W
  generalize dotP ⟨a, b⟩ ⟨a, b⟩ = r at *
  have hM := mem_nil w; have hB := Below.refl w.heap.size w; have hC := True.intro
  go_enter Try.func28, Try.ntmps28
  go_wp2_with (go_at_call 44; refine (c _).mono ?_; rintro e w' ⟨rfl, hb⟩; apply after_call (w := w) hb; (focus ((repeat' (first | (with_reducible exact hM) | (with_reducible apply mem_alloc) | (with_reducible apply mem_set) | (with_reducible apply mem_drew) | (with_reducible apply mem_drewN))); done)); (focus ((repeat' (first | (with_reducible exact hB) | (with_reducible exact Below.refl _ _) | (with_reducible refine Below.alloc ?_ ?_ _) | (with_reducible refine Below.setCell ?_ ?_ _) | (with_reducible refine Below.drew ?_) | (with_reducible refine below_drewN ?_ _) | (with_reducible exact Nat.le_refl _) | (with_reducible exact hB.size) | (simp [go_sem]; done) | (have := hB.size; simp [go_sem]; omega))); done)); (focus ((repeat' (first | (with_reducible exact hB) | (with_reducible exact Below.refl _ _) | (with_reducible refine Below.alloc ?_ ?_ _) | (with_reducible refine Below.setCell ?_ ?_ _) | (with_reducible refine Below.drew ?_) | (with_reducible refine below_drewN ?_ _) | (with_reducible exact Nat.le_refl _) | (with_reducible exact hB.size) | (simp [go_sem]; done) | (have := hB.size; simp [go_sem]; omega))); done)); clear hM hB hb; intro hM hB; (try clear hC); have hC := mem_facts hM; simp at hC)
  go_ret
  exact ⟨rfl, by (repeat' (first | (with_reducible exact hB) | (with_reducible exact Below.refl _ _) | (with_reducible refine Below.alloc ?_ ?_ _) | (with_reducible refine Below.setCell ?_ ?_ _) | (with_reducible refine Below.drew ?_) | (with_reducible refine below_drewN ?_ _) | (with_reducible exact Nat.le_refl _) | (with_reducible exact hB.size) | (simp [go_sem]; done) | (have := hB.size; simp [go_sem]; omega)))⟩
theorem less7_ (a b k c d : Int) (ha : -100000 ≤ a ∧ a ≤ 100000) (hb : -100000 ≤ b ∧ b ≤ 100000) (hc : -100000 ≤ c ∧ c ≤ 100000) (hd : -100000 ≤ d ∧ d ≤ 100000) (hk : -3000000000 ≤ k ∧ k ≤ 3000000000) (w : World) :
    Calls Try.prog 51 #[.agg #[.int .i64 a, .int .i64 b], .int .i64 k, .agg #[.int .i64 c, .int .i64 d]] w (fun E' W' => E' = .returned (.agg #[.int .i64 ((lessP ⟨a, b⟩ k ⟨c, d⟩).x), .int .i64 ((lessP ⟨a, b⟩ k ⟨c, d⟩).y)]) ∧ Below w.heap.size w W') := by
  have e1 := mul_bd hk hc
  have e2 := mul_bd hk hd
  have hM := mem_nil w; have hB := Below.refl w.heap.size w; have hC := True.intro
  go_enter Try.func51, Try.ntmps51
  go_wp2
  refine bodyPost_ret (by (simp [results, Try.results51, go_sem, *]; try rfl)) rfl ?_
  exact ⟨rfl, by (repeat' (first | (with_reducible exact hB) | (with_reducible exact Below.refl _ _) | (with_reducible refine Below.alloc ?_ ?_ _) | (with_reducible refine Below.setCell ?_ ?_ _) | (with_reducible refine Below.drew ?_) | (with_reducible refine below_drewN ?_ _) | (with_reducible exact Nat.le_refl _) | (with_reducible exact hB.size) | (simp [go_sem]; done) | (have := hB.size; simp [go_sem]; omega)))⟩
theorem q_bd7 {N D : Int} (hD : 1 ≤ D) (hN : -1000000000000 ≤ N ∧ N ≤ 1000000000000) : -1000000000001 ≤ N / D ∧ N / D ≤ 1000000000000 := by
  have h := fl_bd (N := N) (D := D) (by omega)
  generalize N / D = q at *
  constructor
  · apply Int.not_lt.1; intro hq
    have := Int.mul_nonneg (show 0 ≤ D - 1 by omega) (show 0 ≤ -(q + 1) by omega)
    rw [Int.sub_mul, Int.mul_neg, Int.mul_add] at this
    omega
  · apply Int.not_lt.1; intro hq
    have := Int.mul_nonneg (show 0 ≤ D - 1 by omega) (show 0 ≤ q by omega)
    rw [Int.sub_mul] at this
    omega
theorem absV7_ (x : Int) (hx : -4000000000000000000 ≤ x ∧ x ≤ 4000000000000000000) (w : World) : Calls Try.prog 41 #[.int .i64 x] w (fun E' W' => E' = .returned (.int .i64 (absI x)) ∧ w = W') := by
  have h1 : wrap64 (-x) = -x := wrap_mid (by omega)
  by_cases h : x < 0
  · have e : absI x = -x := by unfold absI; rw [if_pos h]
    have h2 : (-x > x) = True := by simp; omega
    go_enter Try.func41, Try.ntmps41
    go_wp2
    go_ret
    exact ⟨by first | rfl | (rw [e]; rfl), rfl⟩
  · have e : absI x = x := by unfold absI; rw [if_neg h]
    have h2 : (-x > x) = False := by simp; omega
    go_enter Try.func41, Try.ntmps41
    go_wp2
    go_ret
    exact ⟨by first | rfl | (rw [e]; rfl), rfl⟩
end Go.Proofs.Ytnbbgfcnbgjahaa

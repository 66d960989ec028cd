
/- The model's small functions on pairs, walked. Under bounds on the numbers alone. -/
import Derived.Test.YtnbbgfcnbgjahaaShP
import Derived.Test.YtnbbgfcnbgjahaaSpecA
import Derived.Test.YtnbbgfcnbgjahaaHeld
import Derived.Deep.LoopGhost
import Derived.Deep.DeepCutAuto
namespace Go.Proofs.Ytnbbgfcnbgjahaa
open Go.RowKit

theorem pI_l6 (x : Int) : l6B x (-10000) 10000 = pI x := rfl
theorem sIn7_ (x y : Int) (w : World) : Calls Try.prog 29 #[.agg #[.int .i64 x, .int .i64 y]] w (fun E' W' => E' = .returned (.bool (pB ⟨x, y⟩)) ∧ Below w.heap.size w W') := by
  have c1 := fun W => l6In_ x (-10000) 10000 W
  have c2 := fun W => l6In_ y (-10000) 10000 W
  rw [pI_l6] at c1 c2
  have HE := Lib.hid (show pB ⟨x, y⟩ = (pI x && pI y) from rfl)
  generalize pI x = o1 at *
  generalize pI y = o2 at *
  cases o1
  all_goals
    have hM := mem_nil w; have hB := Below.refl w.heap.size w; have hC := True.intro
    go_enter Try.func29, Try.ntmps29
    go_wp2_with (first | ((go_at_call 34; refine (c1 _).mono ?_; rintro e w' ⟨rfl, rfl⟩); clear c1) | (go_at_call 34; refine (c2 _).mono ?_; rintro e w' ⟨rfl, rfl⟩))
    go_ret
    exact ⟨by rw [HE.out]; rfl, by (repeat' (first | (with_reducible exact hB) | (with_reducible exact Below.refl _ _) | (with_reducible refine Below.alloc ?_ ?_ _) | (with_reducible refine Below.setCell ?_ ?_ _) | (with_reducible refine Below.drew ?_) | (with_reducible refine below_drewN ?_ _) | (with_reducible exact Nat.le_refl _) | (with_reducible exact hB.size) | (simp [go_sem]; done) | (have := hB.size; simp [go_sem]; omega)))⟩
theorem sDot7_ (a b c d : Int) (ha : -100000 ≤ a ∧ a ≤ 100000) (hb : -100000 ≤ b ∧ b ≤ 100000) (hc : -100000 ≤ c ∧ c ≤ 100000) (hd : -100000 ≤ d ∧ d ≤ 100000) (w : World) :
    Calls Try.prog 30 #[.agg #[.int .i64 a, .int .i64 b], .agg #[.int .i64 c, .int .i64 d]] w (fun E' W' => E' = .returned (.int .i64 (dotP ⟨a, b⟩ ⟨c, d⟩)) ∧ Below w.heap.size w W') := by
  have e1 := mul_bd ha hc
  have e2 := mul_bd hb hd
  have hM := mem_nil w; have hB := Below.refl w.heap.size w; have hC := True.intro
  go_enter Try.func30, Try.ntmps30
  go_wp2
  go_ret
  exact ⟨rfl, by (repeat' (first | (with_reducible exact hB) | (with_reducible exact Below.refl _ _) | (with_reducible refine Below.alloc ?_ ?_ _) | (with_reducible refine Below.setCell ?_ ?_ _) | (with_reducible refine Below.drew ?_) | (with_reducible refine below_drewN ?_ _) | (with_reducible exact Nat.le_refl _) | (with_reducible exact hB.size) | (simp [go_sem]; done) | (have := hB.size; simp [go_sem]; omega)))⟩
theorem sCrs7_ (a b c d : Int) (ha : -100000 ≤ a ∧ a ≤ 100000) (hb : -100000 ≤ b ∧ b ≤ 100000) (hc : -100000 ≤ c ∧ c ≤ 100000) (hd : -100000 ≤ d ∧ d ≤ 100000) (w : World) :
    Calls Try.prog 42 #[.agg #[.int .i64 a, .int .i64 b], .agg #[.int .i64 c, .int .i64 d]] w (fun E' W' => E' = .returned (.int .i64 (crsP ⟨a, b⟩ ⟨c, d⟩)) ∧ Below w.heap.size w W') := by
  have e1 := mul_bd ha hd
  have e2 := mul_bd hb hc
  have hM := mem_nil w; have hB := Below.refl w.heap.size w; have hC := True.intro
  go_enter Try.func42, Try.ntmps42
  go_wp2
  go_ret
  exact ⟨rfl, by (repeat' (first | (with_reducible exact hB) | (with_reducible exact Below.refl _ _) | (with_reducible refine Below.alloc ?_ ?_ _) | (with_reducible refine Below.setCell ?_ ?_ _) | (with_reducible refine Below.drew ?_) | (with_reducible refine below_drewN ?_ _) | (with_reducible exact Nat.le_refl _) | (with_reducible exact hB.size) | (simp [go_sem]; done) | (have := hB.size; simp [go_sem]; omega)))⟩
theorem sq_bd7 {N D : Int} (hD : 1 ≤ D) (hN : -1000000000000 ≤ N ∧ N ≤ 1000000000000) : -1000000000001 ≤ N / D ∧ N / D ≤ 1000000000000 := by
  have h := fl_bd (N := N) (D := D) (by omega)
  generalize N / D = q at *
  constructor
  · apply Int.not_lt.1; intro hq
    have := Int.mul_nonneg (show 0 ≤ D - 1 by omega) (show 0 ≤ -(q + 1) by omega)
    rw [Int.sub_mul, Int.mul_neg, Int.mul_add] at this
    omega
  · apply Int.not_lt.1; intro hq
    have := Int.mul_nonneg (show 0 ≤ D - 1 by omega) (show 0 ≤ q by omega)
    rw [Int.sub_mul] at this
    omega
theorem sAbs7_ (x : Int) (hx : -4000000000000000000 ≤ x ∧ x ≤ 4000000000000000000) (w : World) : Calls Try.prog 43 #[.int .i64 x] w (fun E' W' => E' = .returned (.int .i64 (absI x)) ∧ w = W') := by
  have h1 : wrap64 (0 - x) = 0 - x := wrap_mid (by omega)
  by_cases h : x < 0
  · have e : absI x = 0 - x := by unfold absI; rw [if_pos h]; omega
    have h2 : (0 - x > x) = True := by simp; omega
    have h3 : (-x > x) = True := by simp; omega
    have h4 : wrap64 (-x) = -x := wrap_mid (by omega)
    go_enter Try.func43, Try.ntmps43
    go_wp2
    go_ret
    exact ⟨by first | rfl | (rw [e]; rfl) | (rw [e]; simp; done), rfl⟩
  · have e : absI x = x := by unfold absI; rw [if_neg h]
    have h2 : (0 - x > x) = False := by simp; omega
    have h3 : (-x > x) = False := by simp; omega
    have h4 : wrap64 (-x) = -x := wrap_mid (by omega)
    go_enter Try.func43, Try.ntmps43
    go_wp2
    go_ret
    exact ⟨by first | rfl | (rw [e]; rfl), rfl⟩
end Go.Proofs.Ytnbbgfcnbgjahaa


/- The program's small functions on forms, walked, each for every argument that it may come by. -/
import Derived.Test.YtdfclikobfjnoaaFoP
import Derived.Test.YtdfclikobfjnoaaImplB
import Derived.Test.YtdfclikobfjnoaaHeld
import Derived.Deep.LoopGhost
import Derived.Deep.DeepCutAuto
namespace Go.Proofs.Ytdfclikobfjnoaa
open Go.RowKit

theorem fIn_ (a b c : Int) (w : World) : Calls Try.prog 22 #[.agg #[.int .i64 a, .int .i64 b, .int .i64 c]] w (fun E' W' => E' = .returned (.bool (inF ⟨a, b, c⟩)) ∧ Below w.heap.size w W') := by
  have HE := Lib.hid (show ∀ v : Bool, (v = true ↔ (-10000 ≤ a ∧ a ≤ 10000) ∧ (-10000 ≤ b ∧ b ≤ 10000) ∧ (-10000 ≤ c ∧ c ≤ 10000)) → v = inF ⟨a, b, c⟩ from
    fun v h => by rw [Bool.eq_iff_iff, inF_iff]; exact h)
  have hM := mem_nil w; have hB := Below.refl w.heap.size w; have hC := True.intro
  go_enter Try.func22, Try.ntmps22
  go_wp2
  all_goals
    go_ret
    exact ⟨by refine congrArg Ending.returned (congrArg Value.bool (HE.out _ ?_)); simp; omega, by (repeat' (first | (with_reducible exact hB) | (with_reducible exact Below.refl _ _) | (with_reducible refine Below.alloc ?_ ?_ _) | (with_reducible refine Below.setCell ?_ ?_ _) | (with_reducible refine Below.drew ?_) | (with_reducible refine below_drewN ?_ _) | (with_reducible exact Nat.le_refl _) | (with_reducible exact hB.size) | (simp [go_sem]; done) | (have := hB.size; simp [go_sem]; omega)))⟩
theorem fValue_ (a b c x y : Int) (w : World) : Calls Try.prog 25 #[.agg #[.int .i64 a, .int .i64 b, .int .i64 c], .int .i64 x, .int .i64 y] w (fun E' W' => E' = .returned (.int .i64 (wrap64 (vF ⟨a, b, c⟩ x y))) ∧ Below w.heap.size w W') := by
  have hM := mem_nil w; have hB := Below.refl w.heap.size w; have hC := True.intro
  go_enter Try.func25, Try.ntmps25
  go_wp2
  go_ret
  exact ⟨by rw [← wr_vF]; rfl, by (repeat' (first | (with_reducible exact hB) | (with_reducible exact Below.refl _ _) | (with_reducible refine Below.alloc ?_ ?_ _) | (with_reducible refine Below.setCell ?_ ?_ _) | (with_reducible refine Below.drew ?_) | (with_reducible refine below_drewN ?_ _) | (with_reducible exact Nat.le_refl _) | (with_reducible exact hB.size) | (simp [go_sem]; done) | (have := hB.size; simp [go_sem]; omega)))⟩
theorem fDisc_ (a b c : Int) (w : World) : Calls Try.prog 31 #[.agg #[.int .i64 a, .int .i64 b, .int .i64 c]] w (fun E' W' => E' = .returned (.int .i64 (wrap64 (dF ⟨a, b, c⟩))) ∧ Below w.heap.size w W') := by
  have hM := mem_nil w; have hB := Below.refl w.heap.size w; have hC := True.intro
  go_enter Try.func31, Try.ntmps31
  go_wp2
  go_ret
  exact ⟨by simp only [wr_sl, wr_sr, wr_ml, dF]; rfl, by (repeat' (first | (with_reducible exact hB) | (with_reducible exact Below.refl _ _) | (with_reducible refine Below.alloc ?_ ?_ _) | (with_reducible refine Below.setCell ?_ ?_ _) | (with_reducible refine Below.drew ?_) | (with_reducible refine below_drewN ?_ _) | (with_reducible exact Nat.le_refl _) | (with_reducible exact hB.size) | (simp [go_sem]; done) | (have := hB.size; simp [go_sem]; omega)))⟩
theorem dF_bd {a b c : Int} (h : inF ⟨a, b, c⟩ = true) : -500000000 ≤ dF ⟨a, b, c⟩ ∧ dF ⟨a, b, c⟩ ≤ 500000000 := by
  obtain ⟨h1, h2, h3⟩ := inF_iff.1 h
  have k1 := mul_bd h2 h2
  have k2 := mul_bd h1 h3
  dsimp only at k1 k2
  simp only [dF]
  rw [Int.mul_assoc]
  omega
theorem vF_bd {a b c x y K L : Int} (hb : (-K ≤ a ∧ a ≤ K) ∧ (-K ≤ b ∧ b ≤ K) ∧ (-K ≤ c ∧ c ≤ K)) (hx : -L ≤ x ∧ x ≤ L) (hy : -L ≤ y ∧ y ≤ L) : -(3 * (K * L * L)) ≤ vF ⟨a, b, c⟩ x y ∧ vF ⟨a, b, c⟩ x y ≤ 3 * (K * L * L) := by
  obtain ⟨h1, h2, h3⟩ := hb
  have k1 := mul_bd (mul_bd h1 hx) hx
  have k2 := mul_bd (mul_bd h2 hx) hy
  have k3 := mul_bd (mul_bd h3 hy) hy
  simp only [vF]
  omega
theorem fDisc1_ (a b c : Int) (h : inF ⟨a, b, c⟩ = true) (w : World) : Calls Try.prog 31 #[.agg #[.int .i64 a, .int .i64 b, .int .i64 c]] w (fun E' W' => E' = .returned (.int .i64 (dF ⟨a, b, c⟩)) ∧ Below w.heap.size w W') := by
  have := dF_bd h
  have c1 := fDisc_ a b c w
  rw [wrap_mid (by omega)] at c1
  exact c1
theorem fArg_ (x : Int) (w : World) : Calls Try.prog 24 #[.int .i64 x] w (fun E' W' => E' = .returned (.bool (decide (-1000 ≤ x) && decide (x ≤ 1000))) ∧ w = W') := by
  go_enter Try.func24, Try.ntmps24
  go_wp2
  all_goals
    go_ret
    exact ⟨by refine congrArg Ending.returned (congrArg Value.bool ?_); rw [Bool.eq_iff_iff]; (try simp); (try omega), rfl⟩
theorem q_bd8 {N D : Int} (hD : 1 ≤ D) (hN : -1000000000000 ≤ N ∧ N ≤ 1000000000000) : -1000000000001 ≤ N / D ∧ N / D ≤ 1000000000000 := by
  have h := fl_bd (N := N) (D := D) (by omega)
  generalize N / D = q at *
  constructor
  · apply Int.not_lt.1; intro hq
    have := Int.mul_nonneg (show 0 ≤ D - 1 by omega) (show 0 ≤ -(q + 1) by omega)
    rw [Int.sub_mul, Int.mul_neg, Int.mul_add] at this
    omega
  · apply Int.not_lt.1; intro hq
    have := Int.mul_nonneg (show 0 ≤ D - 1 by omega) (show 0 ≤ q by omega)
    rw [Int.sub_mul] at this
    omega
end Go.Proofs.Ytdfclikobfjnoaa

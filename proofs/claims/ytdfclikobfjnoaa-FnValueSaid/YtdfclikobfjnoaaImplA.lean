
/- Contracts of the program's small functions on matrices (chapter 1), each for every argument. -/
import Derived.Test.YtdfclikobfjnoaaBase
namespace Go.Proofs.Ytdfclikobfjnoaa
open Go.RowKit

theorem numberIn_ (x : Int) (w : World) : Calls Try.prog 48 #[.int .i64 x] w (fun E' W' => E' = .returned (.bool (numB x)) ∧ w = W') := by
  by_cases h : -1000000 ≤ x
  all_goals
    have hM := mem_nil w; have hB := Below.refl w.heap.size w; have hC := True.intro
    go_enter Try.func48, Try.ntmps48
    go_wp2
    go_ret
    exact ⟨by simp [numB]; omega, rfl⟩

theorem in_ (a b c d : Int) (w : World) : Calls Try.prog 37 #[.agg #[.int .i64 a, .int .i64 b, .int .i64 c, .int .i64 d]] w (fun E' W' => E' = .returned (.bool (inB ⟨a, b, c, d⟩)) ∧ Below w.heap.size w W') := by
  cases h1 : numB a
  · go_enter Try.func37, Try.ntmps37
    go_wp2_with (go_at_call 48; refine (numberIn_ _ _).mono ?_; rintro e w' ⟨rfl, rfl⟩)
    go_returns
    exact ⟨by simp [inB, h1], by (repeat' (first | (with_reducible exact hB) | (with_reducible exact Below.refl _ _) | (with_reducible refine Below.alloc ?_ ?_ _) | (with_reducible refine Below.setCell ?_ ?_ _) | (with_reducible refine Below.drew ?_) | (with_reducible refine below_drewN ?_ _) | (with_reducible exact Nat.le_refl _) | (with_reducible exact hB.size) | (simp [go_sem]; done) | (have := hB.size; simp [go_sem]; omega)))⟩
  · cases h2 : numB b
    · go_enter Try.func37, Try.ntmps37
      go_wp2_with (go_at_call 48; refine (numberIn_ _ _).mono ?_; rintro e w' ⟨rfl, rfl⟩)
      go_returns
      exact ⟨by simp [inB, h1, h2], by (repeat' (first | (with_reducible exact hB) | (with_reducible exact Below.refl _ _) | (with_reducible refine Below.alloc ?_ ?_ _) | (with_reducible refine Below.setCell ?_ ?_ _) | (with_reducible refine Below.drew ?_) | (with_reducible refine below_drewN ?_ _) | (with_reducible exact Nat.le_refl _) | (with_reducible exact hB.size) | (simp [go_sem]; done) | (have := hB.size; simp [go_sem]; omega)))⟩
    · cases h3 : numB c
      all_goals
        have hM := mem_nil w; have hB := Below.refl w.heap.size w; have hC := True.intro
        go_enter Try.func37, Try.ntmps37
        go_wp2_with (go_at_call 48; refine (numberIn_ _ _).mono ?_; rintro e w' ⟨rfl, rfl⟩)
        go_returns
        exact ⟨by simp [inB, h1, h2, h3], by (repeat' (first | (with_reducible exact hB) | (with_reducible exact Below.refl _ _) | (with_reducible refine Below.alloc ?_ ?_ _) | (with_reducible refine Below.setCell ?_ ?_ _) | (with_reducible refine Below.drew ?_) | (with_reducible refine below_drewN ?_ _) | (with_reducible exact Nat.le_refl _) | (with_reducible exact hB.size) | (simp [go_sem]; done) | (have := hB.size; simp [go_sem]; omega)))⟩

end Go.Proofs.Ytdfclikobfjnoaa

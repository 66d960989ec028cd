
/- The program's number next to a fraction, walked; the turn that goes back. Each under bounds on its numbers. -/
import Derived.Test.YtbpaklcibkifnaaDoorTurnQ
import Derived.Test.YtbpaklcibkifnaaDoorTurnI
import Derived.Test.YtbpaklcibkifnaaDoorImplBack
namespace Go.Proofs.YtbpaklcibkifnaaDoor
open Go.RowKit

theorem w64 (x : Int) : IntKind.i64.wrap x = wrap64 x := by rw [IntKind.wrap_i64, wrap64]
theorem q_bd {N D : Int} (hD : 1 ≤ D) (hN : -4000000 ≤ N ∧ N ≤ 4000000) : -4000001 ≤ N / D ∧ N / D ≤ 4000000 := by
  have h := fl_bd (N := N) (D := D) (by omega)
  generalize N / D = q at *
  constructor
  · apply Int.not_lt.1; intro hq
    have := Int.mul_nonneg (show 0 ≤ D - 1 by omega) (show 0 ≤ -(q + 1) by omega)
    rw [Int.sub_mul, Int.mul_neg, Int.mul_add] at this
    omega
  · apply Int.not_lt.1; intro hq
    have := Int.mul_nonneg (show 0 ≤ D - 1 by omega) (show 0 ≤ q by omega)
    rw [Int.sub_mul] at this
    omega
theorem nearest_ (a c : Int) (ha : -1000000 ≤ a ∧ a ≤ 1000000) (hc : -1000000 ≤ c ∧ c ≤ 1000000) (h0 : c ≠ 0) (w : World) : Calls Tryd.prog 56 #[.int .i64 a, .int .i64 c] w (fun E' W' => E' = .returned (.int .i64 (near a c)) ∧ w = W') := by
  by_cases hn : c < 0
  · have e := floor_td (n := -(2 * a) - c) (d := -(2 * c)) (by omega)
    have hq : near a c = (-(2 * a) - c) / (-(2 * c)) := by rw [near, if_pos hn]
    have hb := q_bd (N := -(2 * a) - c) (D := -(2 * c)) (by omega) (by omega)
    have hw := wrap_mid (x := (-(2 * a) - c) / (-(2 * c))) (by omega)
    rw [hq]
    clear hq
    generalize hN : -(2 * a) - c = N at *
    generalize hD : -(2 * c) = D at *
    have e1 : 2 * -a + -c = N := by omega
    have e2 : 2 * -c = D := by omega
    have hD1 : (D = 0) = False := by simp; omega
    by_cases ht : N.tmod D < 0
    · have e' := e.1 ht
      go_enter Tryd.func56, Tryd.ntmps56
      go_wp2
      go_ret
      exact ⟨rfl, rfl⟩
    · have e' := e.2 ht
      go_enter Tryd.func56, Tryd.ntmps56
      go_wp2
      go_ret
      exact ⟨rfl, rfl⟩
  · have e := floor_td (n := 2 * a + c) (d := 2 * c) (by omega)
    have hq : near a c = (2 * a + c) / (2 * c) := by rw [near, if_neg hn]
    have hb := q_bd (N := 2 * a + c) (D := 2 * c) (by omega) (by omega)
    have hw := wrap_mid (x := (2 * a + c) / (2 * c)) (by omega)
    rw [hq]
    clear hq
    generalize hN : 2 * a + c = N at *
    generalize hD : 2 * c = D at *
    have hD1 : (D = 0) = False := by simp; omega
    by_cases ht : N.tmod D < 0
    · have e' := e.1 ht
      go_enter Tryd.func56, Tryd.ntmps56
      go_wp2
      go_ret
      exact ⟨rfl, rfl⟩
    · have e' := e.2 ht
      go_enter Tryd.func56, Tryd.ntmps56
      go_wp2
      go_ret
      exact ⟨rfl, rfl⟩
theorem backT_ (w : World) : Calls Tryd.prog 57 #[.agg #[.int .i64 0, .int .i64 (-1), .int .i64 1, .int .i64 0]] w (fun E' W' => E' = .returned (.agg #[.int .i64 0, .int .i64 1, .int .i64 (-1), .int .i64 0]) ∧ Below w.heap.size w W') := by
  have h := back_ 0 (-1) 1 0 w
  rw [show bki ⟨0, -1, 1, 0⟩ = ⟨0, 1, -1, 0⟩ from by kernel_rfl] at h
  exact h
theorem nx_tm {m : M} {x : Int} (hm : inB m = true) (hx : -1000000 ≤ x ∧ x ≤ 1000000) : tm (tm ⟨0, 1, -1, 0⟩ ⟨1, -x, 0, 1⟩) m = nxm m x := by
  have h1 : inB (⟨1, -x, 0, 1⟩ : M) = true := by simp [inB, numB]; omega
  have h2 : xm (⟨0, 1, -1, 0⟩ : M) ⟨1, -x, 0, 1⟩ = ⟨0, 1, -1, x⟩ := by simp [xm]
  have h3 : inB (⟨0, 1, -1, x⟩ : M) = true := by simp [inB, numB]; omega
  rw [tm_x (by decide) h1, h2, tm_x h3 hm]
  simp only [xm, nxm]
  apply M.ext' <;> simp <;> omega
end Go.Proofs.YtbpaklcibkifnaaDoor


/- The program's way from a matrix to one of positive numbers, walked; what stands in its rounds. Under what an even matrix with a trace from 3 to 2000 keeps. -/
import Derived.Test.YthmlkmlgehheoaaConj
import Derived.Test.YthmlkmlgehheoaaImplB
import Derived.Test.YthmlkmlgehheoaaImplBack
import Derived.Test.YthmlkmlgehheoaaHeld
import Derived.Deep.LoopGhost
import Derived.Deep.DeepCutAuto
namespace Go.Proofs.Ythmlkmlgehheoaa
open Go.RowKit

theorem i64wrap (x : Int) : IntKind.i64.wrap x = wrap64 x := by rw [IntKind.wrap_i64, wrap64]
theorem shift4_ (x : Int) (w : World) : Calls Try.prog 51 #[.int .i64 x] w (fun E' W' => E' = .returned (.agg #[.int .i64 1, .int .i64 x, .int .i64 0, .int .i64 1]) ∧ Below w.heap.size w W') := by
  have hM := mem_nil w; have hB := Below.refl w.heap.size w; have hC := True.intro
  go_enter Try.func51, Try.ntmps51
  go_wp2
  refine bodyPost_ret (by (simp [results, Try.results51, go_sem, *]; try rfl)) rfl ?_
  exact ⟨rfl, by (repeat' (first | (with_reducible exact hB) | (with_reducible exact Below.refl _ _) | (with_reducible refine Below.alloc ?_ ?_ _) | (with_reducible refine Below.setCell ?_ ?_ _) | (with_reducible refine Below.drew ?_) | (with_reducible refine below_drewN ?_ _) | (with_reducible exact Nat.le_refl _) | (with_reducible exact hB.size) | (simp [go_sem]; done) | (have := hB.size; simp [go_sem]; omega)))⟩
theorem turn4_ (w : World) : Calls Try.prog 49 #[] w (fun E' W' => E' = .returned (.agg #[.int .i64 0, .int .i64 (-1), .int .i64 1, .int .i64 0]) ∧ Below w.heap.size w W') := by
  have hM := mem_nil w; have hB := Below.refl w.heap.size w; have hC := True.intro
  go_enter Try.func49, Try.ntmps49
  go_wp2
  refine bodyPost_ret (by (simp [results, Try.results49, go_sem, *]; try rfl)) rfl ?_
  exact ⟨rfl, by (repeat' (first | (with_reducible exact hB) | (with_reducible exact Below.refl _ _) | (with_reducible refine Below.alloc ?_ ?_ _) | (with_reducible refine Below.setCell ?_ ?_ _) | (with_reducible refine Below.drew ?_) | (with_reducible refine below_drewN ?_ _) | (with_reducible exact Nat.le_refl _) | (with_reducible exact hB.size) | (simp [go_sem]; done) | (have := hB.size; simp [go_sem]; omega)))⟩
theorem q_bd2 {N D : Int} (hD : 1 ≤ D) (hN : -10000000 ≤ N ∧ N ≤ 10000000) : -10000001 ≤ N / D ∧ N / D ≤ 10000000 := by
  have h := fl_bd (N := N) (D := D) (by omega)
  generalize N / D = q at *
  constructor
  · apply Int.not_lt.1; intro hq
    have := Int.mul_nonneg (show 0 ≤ D - 1 by omega) (show 0 ≤ -(q + 1) by omega)
    rw [Int.sub_mul, Int.mul_neg, Int.mul_add] at this
    omega
  · apply Int.not_lt.1; intro hq
    have := Int.mul_nonneg (show 0 ≤ D - 1 by omega) (show 0 ≤ q by omega)
    rw [Int.sub_mul] at this
    omega
theorem near4_ (a c : Int) (ha : -2000000 ≤ a ∧ a ≤ 2000000) (hc : -2000000 ≤ c ∧ c ≤ 2000000) (h0 : c ≠ 0) (w : World) : Calls Try.prog 36 #[.int .i64 a, .int .i64 c] w (fun E' W' => E' = .returned (.int .i64 (near a c)) ∧ w = W') := by
  by_cases hn : c < 0
  · have e := floor_td (n := -(2 * a) - c) (d := -(2 * c)) (by omega)
    have hq : near a c = (-(2 * a) - c) / (-(2 * c)) := by rw [near, if_pos hn]
    have hb := q_bd2 (N := -(2 * a) - c) (D := -(2 * c)) (by omega) (by omega)
    have hw := wrap_mid (x := (-(2 * a) - c) / (-(2 * c))) (by omega)
    rw [hq]
    clear hq
    generalize hN : -(2 * a) - c = N at *
    generalize hD : -(2 * c) = D at *
    have e1 : 2 * -a + -c = N := by omega
    have e2 : 2 * -c = D := by omega
    have hD1 : (D = 0) = False := by simp; omega
    by_cases ht : N.tmod D < 0
    · have e' := e.1 ht
      go_enter Try.func36, Try.ntmps36
      go_wp2
      go_ret
      exact ⟨rfl, rfl⟩
    · have e' := e.2 ht
      go_enter Try.func36, Try.ntmps36
      go_wp2
      go_ret
      exact ⟨rfl, rfl⟩
  · have e := floor_td (n := 2 * a + c) (d := 2 * c) (by omega)
    have hq : near a c = (2 * a + c) / (2 * c) := by rw [near, if_neg hn]
    have hb := q_bd2 (N := 2 * a + c) (D := 2 * c) (by omega) (by omega)
    have hw := wrap_mid (x := (2 * a + c) / (2 * c)) (by omega)
    rw [hq]
    clear hq
    generalize hN : 2 * a + c = N at *
    generalize hD : 2 * c = D at *
    have hD1 : (D = 0) = False := by simp; omega
    by_cases ht : N.tmod D < 0
    · have e' := e.1 ht
      go_enter Try.func36, Try.ntmps36
      go_wp2
      go_ret
      exact ⟨rfl, rfl⟩
    · have e' := e.2 ht
      go_enter Try.func36, Try.ntmps36
      go_wp2
      go_ret
      exact ⟨rfl, rfl⟩
/-- conjugated by x -/
def byM (m x : M) : M := tm (tm x m) (bki x)
theorem near_le {u c : Int} (hc : c ≠ 0) (hu : -2000000 ≤ u ∧ u ≤ 2000000) : -1000000 ≤ near u (2 * c) ∧ near u (2 * c) ≤ 1000000 := by
  have h := near_ok (u := u) hc
  generalize near u (2 * c) = k at *
  rcases Int.lt_or_gt_of_ne hc with h0 | h0
  · constructor
    · apply Int.not_lt.1; intro hq
      have := Int.mul_nonneg (show 0 ≤ -k - 1000001 by omega) (show 0 ≤ -c - 1 by omega)
      grind
    · apply Int.not_lt.1; intro hq
      have := Int.mul_nonneg (show 0 ≤ k - 1000001 by omega) (show 0 ≤ -c - 1 by omega)
      grind
  · constructor
    · apply Int.not_lt.1; intro hq
      have := Int.mul_nonneg (show 0 ≤ -k - 1000001 by omega) (show 0 ≤ c - 1 by omega)
      grind
    · apply Int.not_lt.1; intro hq
      have := Int.mul_nonneg (show 0 ≤ k - 1000001 by omega) (show 0 ≤ c - 1 by omega)
      grind
theorem bki4_x {m : M} (h1 : inB m = true) : bki m = ⟨wrap64 (xd m * m.d), wrap64 (xd m * -m.b), wrap64 (xd m * -m.c), wrap64 (xd m * m.a)⟩ := by
  obtain ⟨k1, k2, k3, k4⟩ := inB_iff.1 h1
  simp only [bki, neg64, dt_x h1, neg_wrap k2, neg_wrap k3]
theorem byM_T {m : M} (hm : inB m = true) : byM m ⟨0, -1, 1, 0⟩ = cT m := by
  have hb : bki ⟨0, -1, 1, 0⟩ = ⟨0, 1, -1, 0⟩ := by kernel_rfl
  have h1 : tm ⟨0, -1, 1, 0⟩ m = ⟨-m.c, -m.d, m.a, m.b⟩ := by
    rw [tm_x (by decide) hm]; unfold xm; apply M.ext' <;> dsimp only <;> omega
  have h2 : inB ⟨-m.c, -m.d, m.a, m.b⟩ = true := by rw [inB_iff] at *; dsimp only; omega
  rw [byM, hb, h1, tm_x h2 (by decide)]
  unfold xm cT; apply M.ext' <;> dsimp only <;> omega
theorem byM_S {m : M} (hm : inB m = true) {k : Int} (hk : -1000000 ≤ k ∧ k ≤ 1000000) (hr : inB (cS m k) = true) : byM m ⟨1, k, 0, 1⟩ = cS m k := by
  have hs : inB ⟨1, k, 0, 1⟩ = true := inB_iff.2 ⟨by simp, hk, by simp, by simp⟩
  have hb : bki ⟨1, k, 0, 1⟩ = ⟨1, -k, 0, 1⟩ := by
    rw [bki4_x hs]
    simp only [xd, Int.mul_one, Int.mul_zero, Int.sub_zero, Int.one_mul, Int.neg_zero]
    rw [wrap_mid (x := 1) (by omega), wrap_mid (x := -k) (by omega), wrap_mid (x := 0) (by omega)]
  obtain ⟨a, b, c, d⟩ := m
  obtain ⟨h1, h2, h3, h4⟩ := inB_iff.1 hm
  obtain ⟨r1, r2, r3, r4⟩ := inB_iff.1 hr
  simp only [cS] at r1 r2 r3 r4
  dsimp only at h1 h2 h3 h4
  have p1 := mul6 hk h3
  have p2 := mul6 hk h4
  have p3 := mul6 r1 (y := -k) (by omega)
  rw [Int.mul_neg] at p3
  rw [Int.mul_comm] at p3
  have e1 : tm ⟨1, k, 0, 1⟩ ⟨a, b, c, d⟩ = ⟨a + k * c, b + k * d, c, d⟩ := by
    rw [tm_x hs hm]; unfold xm; apply M.ext' <;> dsimp only <;> omega
  rw [byM, hb, e1]
  unfold tm cS
  dsimp only
  simp only [Int.mul_one, Int.mul_zero, Int.mul_neg]
  have q1 := mul6 h3 hk
  apply M.ext' <;> dsimp only
  · rw [wrap_mid (x := a + k * c) (by omega), wrap_mid (x := 0) (by omega), wrap_mid (by omega)]; omega
  · rw [Int.mul_comm (a + k * c) k, wrap_mid (x := -(k * (a + k * c))) (by omega), wrap_mid (x := b + k * d) (by omega), wrap_mid (by omega)]; omega
  · rw [wrap_mid (x := c) (by omega), wrap_mid (x := 0) (by omega), wrap_mid (by omega)]; omega
  · rw [Int.mul_comm c k, wrap_mid (x := -(k * c)) (by omega), wrap_mid (x := d) (by omega), wrap_mid (by omega)]; omega
/-- at the head of a round: g more at most -/
def PoRel (m0 : M) (N : Nat) (w : World) (g : Nat) (wr : World) : Prop := ∃ m : M, goodM m ∧ muP m ≤ g ∧ posF N m0 = posF g m ∧
  Mem wr [(w.heap.size + 1, #[.int .i64 0, .int .i64 0, .int .i64 0, .int .i64 0], 33), (w.heap.size, #[.int .i64 m.a, .int .i64 m.b, .int .i64 m.c, .int .i64 m.d], 33)] ∧ Below w.heap.size w wr
end Go.Proofs.Ythmlkmlgehheoaa

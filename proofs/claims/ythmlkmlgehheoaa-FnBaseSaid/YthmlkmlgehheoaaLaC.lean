
/- The program's lattices, walked: of two matrices; whether one has a pair; the exported functions on lattices but for meets and joins. No condition. -/
import Derived.Test.YthmlkmlgehheoaaLaB
namespace Go.Proofs.Ythmlkmlgehheoaa
open Go.RowKit

set_option maxHeartbeats 4000000 in
theorem latticesUpTo_ (k a b c d e f g h : Int) (w : World) : Calls Try.prog 26 #[.int .i64 k, .agg #[.int .i64 a, .int .i64 b, .int .i64 c, .int .i64 d], .agg #[.int .i64 e, .int .i64 f, .int .i64 g, .int .i64 h]] w
    (fun E' W' => E' = .returned (.tuple #[.agg #[.int .i64 ((ltM k ⟨a, b, c, d⟩)).a, .int .i64 ((ltM k ⟨a, b, c, d⟩)).b, .int .i64 ((ltM k ⟨a, b, c, d⟩)).c, .int .i64 ((ltM k ⟨a, b, c, d⟩)).d], .agg #[.int .i64 ((ltM k ⟨e, f, g, h⟩)).a, .int .i64 ((ltM k ⟨e, f, g, h⟩)).b, .int .i64 ((ltM k ⟨e, f, g, h⟩)).c, .int .i64 ((ltM k ⟨e, f, g, h⟩)).d], .bool (ltB k ⟨a, b, c, d⟩ && ltB k ⟨e, f, g, h⟩)]) ∧ Below w.heap.size w W') := by
  have c1 := fun W => latticeUpTo_ k a b c d W
  have c2 := fun W => latticeUpTo_ k e f g h W
  generalize ltM k ⟨a, b, c, d⟩ = l at *
  generalize ltM k ⟨e, f, g, h⟩ = n at *
  obtain ⟨x, y, z, t⟩ := l
  obtain ⟨x', y', z', t'⟩ := n
  dsimp only at c1 c2
  generalize ltB k ⟨a, b, c, d⟩ = o1 at *
  generalize ltB k ⟨e, f, g, h⟩ = o2 at *
  have hM := mem_nil w; have hB := Below.refl w.heap.size w; have hC := True.intro
  go_enter Try.func26, Try.ntmps26
  go_upto_region 2 with (go_at_call 42; refine (c1 _).mono ?_; rintro e w' ⟨rfl, hb⟩; apply after_call (w := w) hb; (focus ((repeat' (first | (with_reducible exact hM) | (with_reducible apply mem_alloc) | (with_reducible apply mem_set) | (with_reducible apply mem_drew) | (with_reducible apply mem_drewN))); done)); (focus ((repeat' (first | (with_reducible exact hB) | (with_reducible exact Below.refl _ _) | (with_reducible refine Below.alloc ?_ ?_ _) | (with_reducible refine Below.setCell ?_ ?_ _) | (with_reducible refine Below.drew ?_) | (with_reducible refine below_drewN ?_ _) | (with_reducible exact Nat.le_refl _) | (with_reducible exact hB.size) | (simp [go_sem]; done) | (have := hB.size; simp [go_sem]; omega))); done)); (focus ((repeat' (first | (with_reducible exact hB) | (with_reducible exact Below.refl _ _) | (with_reducible refine Below.alloc ?_ ?_ _) | (with_reducible refine Below.setCell ?_ ?_ _) | (with_reducible refine Below.drew ?_) | (with_reducible refine below_drewN ?_ _) | (with_reducible exact Nat.le_refl _) | (with_reducible exact hB.size) | (simp [go_sem]; done) | (have := hB.size; simp [go_sem]; omega))); done)); clear hM hB hb; intro hM hB; (try clear hC); have hC := mem_facts hM; simp at hC)
  obtain ⟨w1, rfl⟩ : ∃ w1 : World, w1 = w' := ⟨_, rfl⟩
  have hs1 : w.heap.size ≤ w1.heap.size := hB.size
  go_cut [11, 12] (fun s11 s12 wx => ∃ b2 : Nat, s11 = .pointer (some ⟨b2, 0, none⟩) ∧ s12 = .bool o2 ∧
    Mem wx [(b2, #[.int .i64 x', .int .i64 y', .int .i64 z', .int .i64 t'], 46), (w1.heap.size, #[.int .i64 x, .int .i64 y, .int .i64 z, .int .i64 t], 46), (w.heap.size + 1 + 1 + 1, #[.int .i64 0, .int .i64 0, .int .i64 0, .int .i64 0], 46), (w.heap.size + 1 + 1, #[.int .i64 0, .int .i64 0, .int .i64 0, .int .i64 0], 46), (w.heap.size + 1, #[.int .i64 e, .int .i64 f, .int .i64 g, .int .i64 h], 33), (w.heap.size, #[.int .i64 a, .int .i64 b, .int .i64 c, .int .i64 d], 33)] ∧ Below w.heap.size w wx)
  case first =>
    go_wp2_with (go_at_call 42; refine (c2 _).mono ?_; rintro e w' ⟨rfl, hb⟩; apply after_call (w := w) hb; (focus ((repeat' (first | (with_reducible exact hM) | (with_reducible apply mem_alloc) | (with_reducible apply mem_set) | (with_reducible apply mem_drew) | (with_reducible apply mem_drewN))); done)); (focus ((repeat' (first | (with_reducible exact hB) | (with_reducible exact Below.refl _ _) | (with_reducible refine Below.alloc ?_ ?_ _) | (with_reducible refine Below.setCell ?_ ?_ _) | (with_reducible refine Below.drew ?_) | (with_reducible refine below_drewN ?_ _) | (with_reducible exact Nat.le_refl _) | (with_reducible exact hB.size) | (simp [go_sem]; done) | (have := hB.size; simp [go_sem]; omega))); done)); (focus ((repeat' (first | (with_reducible exact hB) | (with_reducible exact Below.refl _ _) | (with_reducible refine Below.alloc ?_ ?_ _) | (with_reducible refine Below.setCell ?_ ?_ _) | (with_reducible refine Below.drew ?_) | (with_reducible refine below_drewN ?_ _) | (with_reducible exact Nat.le_refl _) | (with_reducible exact hB.size) | (simp [go_sem]; done) | (have := hB.size; simp [go_sem]; omega))); done)); clear hM hB hb; intro hM hB; (try clear hC); have hC := mem_facts hM; simp at hC)
    go_meet
    refine ⟨_, rfl, rfl, ?_, by (repeat' (first | (with_reducible exact hB) | (with_reducible exact Below.refl _ _) | (with_reducible refine Below.alloc ?_ ?_ _) | (with_reducible refine Below.setCell ?_ ?_ _) | (with_reducible refine Below.drew ?_) | (with_reducible refine below_drewN ?_ _) | (with_reducible exact Nat.le_refl _) | (with_reducible exact hB.size) | (simp [go_sem]; done) | (have := hB.size; simp [go_sem]; omega)))⟩
    apply mem_drop 0
    · (repeat' (first | (with_reducible exact hM) | (with_reducible apply mem_alloc) | (with_reducible apply mem_set) | (with_reducible apply mem_drew) | (with_reducible apply mem_drewN)))
    · simp
  case rest =>
    obtain ⟨b2, rfl, rfl, hM', hB'⟩ := hcut
    (try clear hC); clear hM hB; have hM := hM'; have hB := hB'; clear hM' hB'; have hC := mem_facts hM; simp at hC
    cases o1
    all_goals
      go_wp2_with fail
      go_region
      go_wp2_with fail
      refine bodyPost_ret (by (simp [results, Try.results26, go_sem, *]; try rfl)) rfl ?_
      exact ⟨rfl, by (repeat' (first | (with_reducible exact hB) | (with_reducible exact Below.refl _ _) | (with_reducible refine Below.alloc ?_ ?_ _) | (with_reducible refine Below.setCell ?_ ?_ _) | (with_reducible refine Below.drew ?_) | (with_reducible refine below_drewN ?_ _) | (with_reducible exact Nat.le_refl _) | (with_reducible exact hB.size) | (simp [go_sem]; done) | (have := hB.size; simp [go_sem]; omega)))⟩
end Go.Proofs.Ythmlkmlgehheoaa

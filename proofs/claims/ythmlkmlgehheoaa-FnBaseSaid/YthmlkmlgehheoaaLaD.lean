
/- The program's lattices, walked: the row form, and whether two lattices are the same. No condition. -/
import Derived.Test.YthmlkmlgehheoaaLaC
namespace Go.Proofs.Ythmlkmlgehheoaa
open Go.RowKit

def mForm (m : M) : M × Bool := (ltM 1000000 m, ltB 1000000 m)
/-- two matrices compared -/
def sameM (m n : M) : Bool := m.a == n.a && m.b == n.b && m.c == n.c && m.d == n.d
theorem sameM_iff {m n : M} : sameM m n = true ↔ m = n := by
  simp only [sameM, Bool.and_eq_true, beq_iff_eq]
  exact ⟨fun ⟨⟨⟨h1, h2⟩, h3⟩, h4⟩ => M.ext' h1 h2 h3 h4, fun h => by subst h; exact ⟨⟨⟨rfl, rfl⟩, rfl⟩, rfl⟩⟩
theorem run_sameL (a b c d a' b' c' d' : Int) (W : World) : (binOp .eql 46 (.agg #[.int .i64 a, .int .i64 b, .int .i64 c, .int .i64 d]) (.agg #[.int .i64 a', .int .i64 b', .int .i64 c', .int .i64 d'])).run Try.prog W = .ok (.bool (sameM ⟨a, b, c, d⟩ ⟨a', b', c', d'⟩)) W := by
  cases h1 : a == a'
  · have e : sameM ⟨a, b, c, d⟩ ⟨a', b', c', d'⟩ = false := by simp only [sameM, h1, Bool.false_and]
    rw [e]; go_simp
  · cases h2 : b == b'
    · have e : sameM ⟨a, b, c, d⟩ ⟨a', b', c', d'⟩ = false := by simp only [sameM, h2, Bool.false_and, Bool.and_false]
      rw [e]; go_simp
    · cases h3 : c == c'
      · have e : sameM ⟨a, b, c, d⟩ ⟨a', b', c', d'⟩ = false := by simp only [sameM, h3, Bool.false_and, Bool.and_false]
        rw [e]; go_simp
      · have e : sameM ⟨a, b, c, d⟩ ⟨a', b', c', d'⟩ = (d == d') := by simp only [sameM, h1, h2, h3, Bool.true_and]
        rw [e]; go_simp
        by_cases h4 : d = d' <;> simp [h4]
theorem run_sameM (a b c d a' b' c' d' : Int) (W : World) : (binOp .eql 33 (.agg #[.int .i64 a, .int .i64 b, .int .i64 c, .int .i64 d]) (.agg #[.int .i64 a', .int .i64 b', .int .i64 c', .int .i64 d'])).run Try.prog W = .ok (.bool (sameM ⟨a, b, c, d⟩ ⟨a', b', c', d'⟩)) W := by
  cases h1 : a == a'
  · have e : sameM ⟨a, b, c, d⟩ ⟨a', b', c', d'⟩ = false := by simp only [sameM, h1, Bool.false_and]
    rw [e]; go_simp
  · cases h2 : b == b'
    · have e : sameM ⟨a, b, c, d⟩ ⟨a', b', c', d'⟩ = false := by simp only [sameM, h2, Bool.false_and, Bool.and_false]
      rw [e]; go_simp
    · cases h3 : c == c'
      · have e : sameM ⟨a, b, c, d⟩ ⟨a', b', c', d'⟩ = false := by simp only [sameM, h3, Bool.false_and, Bool.and_false]
        rw [e]; go_simp
      · have e : sameM ⟨a, b, c, d⟩ ⟨a', b', c', d'⟩ = (d == d') := by simp only [sameM, h1, h2, h3, Bool.true_and]
        rw [e]; go_simp
        by_cases h4 : d = d' <;> simp [h4]
def mSameL (m n : M) : Bool := (ltB 1000000 m && ltB 1000000 n) && sameM (ltM 1000000 m) (ltM 1000000 n)
set_option maxHeartbeats 4000000 in
theorem LatticeSame_ (a b c d e f g h : Int) (w : World) : Calls Try.prog 11 #[.agg #[.int .i64 a, .int .i64 b, .int .i64 c, .int .i64 d], .agg #[.int .i64 e, .int .i64 f, .int .i64 g, .int .i64 h]] w (fun E' W' => E' = .returned (.bool (mSameL ⟨a, b, c, d⟩ ⟨e, f, g, h⟩)) ∧ Below w.heap.size w W') := by
  have c1 := fun W => latticesUpTo_ 1000000 a b c d e f g h W
  have HE := Lib.hid (show mSameL ⟨a, b, c, d⟩ ⟨e, f, g, h⟩ = ((ltB 1000000 ⟨a, b, c, d⟩ && ltB 1000000 ⟨e, f, g, h⟩) && sameM (ltM 1000000 ⟨a, b, c, d⟩) (ltM 1000000 ⟨e, f, g, h⟩)) from rfl)
  generalize ltM 1000000 ⟨a, b, c, d⟩ = l at *
  generalize ltM 1000000 ⟨e, f, g, h⟩ = n at *
  obtain ⟨x, y, z, t⟩ := l
  obtain ⟨x', y', z', t'⟩ := n
  dsimp only at c1
  have hE := run_sameL x y z t x' y' z' t'
  generalize (ltB 1000000 ⟨a, b, c, d⟩ && ltB 1000000 ⟨e, f, g, h⟩) = o1 at *
  generalize sameM ⟨x, y, z, t⟩ ⟨x', y', z', t'⟩ = o2 at *
  cases o1
  all_goals
    have hM := mem_nil w; have hB := Below.refl w.heap.size w; have hC := True.intro
    go_enter Try.func11, Try.ntmps11
    go_wp2_with (first | (go_at_call 26; refine (c1 _).mono ?_; rintro e w' ⟨rfl, hb⟩; apply after_call (w := w) hb; (focus ((repeat' (first | (with_reducible exact hM) | (with_reducible apply mem_alloc) | (with_reducible apply mem_set) | (with_reducible apply mem_drew) | (with_reducible apply mem_drewN))); done)); (focus ((repeat' (first | (with_reducible exact hB) | (with_reducible exact Below.refl _ _) | (with_reducible refine Below.alloc ?_ ?_ _) | (with_reducible refine Below.setCell ?_ ?_ _) | (with_reducible refine Below.drew ?_) | (with_reducible refine below_drewN ?_ _) | (with_reducible exact Nat.le_refl _) | (with_reducible exact hB.size) | (simp [go_sem]; done) | (have := hB.size; simp [go_sem]; omega))); done)); (focus ((repeat' (first | (with_reducible exact hB) | (with_reducible exact Below.refl _ _) | (with_reducible refine Below.alloc ?_ ?_ _) | (with_reducible refine Below.setCell ?_ ?_ _) | (with_reducible refine Below.drew ?_) | (with_reducible refine below_drewN ?_ _) | (with_reducible exact Nat.le_refl _) | (with_reducible exact hB.size) | (simp [go_sem]; done) | (have := hB.size; simp [go_sem]; omega))); done)); clear hM hB hb; intro hM hB; (try clear hC); have hC := mem_facts hM; simp at hC))
    go_ret
    exact ⟨by rw [HE.out]; rfl, by (repeat' (first | (with_reducible exact hB) | (with_reducible exact Below.refl _ _) | (with_reducible refine Below.alloc ?_ ?_ _) | (with_reducible refine Below.setCell ?_ ?_ _) | (with_reducible refine Below.drew ?_) | (with_reducible refine below_drewN ?_ _) | (with_reducible exact Nat.le_refl _) | (with_reducible exact hB.size) | (simp [go_sem]; done) | (have := hB.size; simp [go_sem]; omega)))⟩
end Go.Proofs.Ythmlkmlgehheoaa

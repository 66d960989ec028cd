
/- The program's lattices, walked: the row form, and whether two lattices are the same. No condition. -/
import Derived.Test.YtkihoccfmjigiaaLaC
namespace Go.Proofs.Ytkihoccfmjigiaa
open Go.RowKit

def mForm (m : M) : M × Bool := (ltM 1000000 m, ltB 1000000 m)
theorem LatticeForm_ (a b c d : Int) (w : World) : Calls Try.prog 8 #[.agg #[.int .i64 a, .int .i64 b, .int .i64 c, .int .i64 d]] w (fun E' W' => E' = .returned (.tuple #[.agg #[.int .i64 ((mForm ⟨a, b, c, d⟩).1).a, .int .i64 ((mForm ⟨a, b, c, d⟩).1).b, .int .i64 ((mForm ⟨a, b, c, d⟩).1).c, .int .i64 ((mForm ⟨a, b, c, d⟩).1).d], .bool (mForm ⟨a, b, c, d⟩).2]) ∧ Below w.heap.size w W') := by
  have c1 := fun W => latticeUpTo_ 1000000 a b c d W
  have HE := Lib.hid (show mForm ⟨a, b, c, d⟩ = (ltM 1000000 ⟨a, b, c, d⟩, ltB 1000000 ⟨a, b, c, d⟩) from rfl)
  generalize ltM 1000000 ⟨a, b, c, d⟩ = l at *
  obtain ⟨x, y, z, t⟩ := l
  dsimp only at c1
  generalize ltB 1000000 ⟨a, b, c, d⟩ = o1 at *
  have hM := mem_nil w; have hB := Below.refl w.heap.size w; have hC := True.intro
  go_enter Try.func8, Try.ntmps8
  go_wp2_with (first | (go_at_call 13; refine (c1 _).mono ?_; rintro e w' ⟨rfl, hb⟩; apply after_call (w := w) hb; (focus ((repeat' (first | (with_reducible exact hM) | (with_reducible apply mem_alloc) | (with_reducible apply mem_set) | (with_reducible apply mem_drew) | (with_reducible apply mem_drewN))); done)); (focus ((repeat' (first | (with_reducible exact hB) | (with_reducible exact Below.refl _ _) | (with_reducible refine Below.alloc ?_ ?_ _) | (with_reducible refine Below.setCell ?_ ?_ _) | (with_reducible refine Below.drew ?_) | (with_reducible refine below_drewN ?_ _) | (with_reducible exact Nat.le_refl _) | (with_reducible exact hB.size) | (simp [go_sem]; done) | (have := hB.size; simp [go_sem]; omega))); done)); (focus ((repeat' (first | (with_reducible exact hB) | (with_reducible exact Below.refl _ _) | (with_reducible refine Below.alloc ?_ ?_ _) | (with_reducible refine Below.setCell ?_ ?_ _) | (with_reducible refine Below.drew ?_) | (with_reducible refine below_drewN ?_ _) | (with_reducible exact Nat.le_refl _) | (with_reducible exact hB.size) | (simp [go_sem]; done) | (have := hB.size; simp [go_sem]; omega))); done)); clear hM hB hb; intro hM hB; (try clear hC); have hC := mem_facts hM; simp at hC))
  refine bodyPost_ret (by (simp [results, Try.results8, go_sem, *]; try rfl)) rfl ?_
  exact ⟨by rw [HE.out], by (repeat' (first | (with_reducible exact hB) | (with_reducible exact Below.refl _ _) | (with_reducible refine Below.alloc ?_ ?_ _) | (with_reducible refine Below.setCell ?_ ?_ _) | (with_reducible refine Below.drew ?_) | (with_reducible refine below_drewN ?_ _) | (with_reducible exact Nat.le_refl _) | (with_reducible exact hB.size) | (simp [go_sem]; done) | (have := hB.size; simp [go_sem]; omega)))⟩
/-- two matrices compared -/
def sameM (m n : M) : Bool := m.a == n.a && m.b == n.b && m.c == n.c && m.d == n.d
theorem sameM_iff {m n : M} : sameM m n = true ↔ m = n := by
  simp only [sameM, Bool.and_eq_true, beq_iff_eq]
  exact ⟨fun ⟨⟨⟨h1, h2⟩, h3⟩, h4⟩ => M.ext' h1 h2 h3 h4, fun h => by subst h; exact ⟨⟨⟨rfl, rfl⟩, rfl⟩, rfl⟩⟩
theorem run_sameL (a b c d a' b' c' d' : Int) (W : World) : (binOp .eql 39 (.agg #[.int .i64 a, .int .i64 b, .int .i64 c, .int .i64 d]) (.agg #[.int .i64 a', .int .i64 b', .int .i64 c', .int .i64 d'])).run Try.prog W = .ok (.bool (sameM ⟨a, b, c, d⟩ ⟨a', b', c', d'⟩)) W := by
  cases h1 : a == a'
  · have e : sameM ⟨a, b, c, d⟩ ⟨a', b', c', d'⟩ = false := by simp only [sameM, h1, Bool.false_and]
    rw [e]; go_simp
  · cases h2 : b == b'
    · have e : sameM ⟨a, b, c, d⟩ ⟨a', b', c', d'⟩ = false := by simp only [sameM, h2, Bool.false_and, Bool.and_false]
      rw [e]; go_simp
    · cases h3 : c == c'
      · have e : sameM ⟨a, b, c, d⟩ ⟨a', b', c', d'⟩ = false := by simp only [sameM, h3, Bool.false_and, Bool.and_false]
        rw [e]; go_simp
      · have e : sameM ⟨a, b, c, d⟩ ⟨a', b', c', d'⟩ = (d == d') := by simp only [sameM, h1, h2, h3, Bool.true_and]
        rw [e]; go_simp
        by_cases h4 : d = d' <;> simp [h4]
theorem run_sameM (a b c d a' b' c' d' : Int) (W : World) : (binOp .eql 29 (.agg #[.int .i64 a, .int .i64 b, .int .i64 c, .int .i64 d]) (.agg #[.int .i64 a', .int .i64 b', .int .i64 c', .int .i64 d'])).run Try.prog W = .ok (.bool (sameM ⟨a, b, c, d⟩ ⟨a', b', c', d'⟩)) W := by
  cases h1 : a == a'
  · have e : sameM ⟨a, b, c, d⟩ ⟨a', b', c', d'⟩ = false := by simp only [sameM, h1, Bool.false_and]
    rw [e]; go_simp
  · cases h2 : b == b'
    · have e : sameM ⟨a, b, c, d⟩ ⟨a', b', c', d'⟩ = false := by simp only [sameM, h2, Bool.false_and, Bool.and_false]
      rw [e]; go_simp
    · cases h3 : c == c'
      · have e : sameM ⟨a, b, c, d⟩ ⟨a', b', c', d'⟩ = false := by simp only [sameM, h3, Bool.false_and, Bool.and_false]
        rw [e]; go_simp
      · have e : sameM ⟨a, b, c, d⟩ ⟨a', b', c', d'⟩ = (d == d') := by simp only [sameM, h1, h2, h3, Bool.true_and]
        rw [e]; go_simp
        by_cases h4 : d = d' <;> simp [h4]
def mSameL (m n : M) : Bool := (ltB 1000000 m && ltB 1000000 n) && sameM (ltM 1000000 m) (ltM 1000000 n)
end Go.Proofs.Ytkihoccfmjigiaa

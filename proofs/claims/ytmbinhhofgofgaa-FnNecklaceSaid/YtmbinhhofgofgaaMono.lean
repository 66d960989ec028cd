
/- The model's way from a matrix to one of positive numbers, walked. Under what an even matrix with a trace from 3 to 2000 keeps. -/
import Derived.Test.YtmbinhhofgofgaaConj
import Derived.Test.YtmbinhhofgofgaaSpecA
import Derived.Test.YtmbinhhofgofgaaHeld
import Derived.Deep.LoopGhost
import Derived.Deep.DeepCutAuto
namespace Go.Proofs.Ytmbinhhofgofgaa
open Go.RowKit

theorem q_bd3 {N D : Int} (hD : 1 ≤ D) (hN : -10000000 ≤ N ∧ N ≤ 10000000) : -10000001 ≤ N / D ∧ N / D ≤ 10000000 := by
  have h := fl_bd (N := N) (D := D) (by omega)
  generalize N / D = q at *
  constructor
  · apply Int.not_lt.1; intro hq
    have := Int.mul_nonneg (show 0 ≤ D - 1 by omega) (show 0 ≤ -(q + 1) by omega)
    rw [Int.sub_mul, Int.mul_neg, Int.mul_add] at this
    omega
  · apply Int.not_lt.1; intro hq
    have := Int.mul_nonneg (show 0 ≤ D - 1 by omega) (show 0 ≤ q by omega)
    rw [Int.sub_mul] at this
    omega
theorem i64wrap2 (x : Int) : IntKind.i64.wrap x = wrap64 x := by rw [IntKind.wrap_i64, wrap64]
def ltM (m : M) : M := ⟨m.d, wrap64 (-m.c), wrap64 (-m.b), m.a⟩
theorem ltM_x {m : M} (hm : inB m = true) : ltM m = cT m := by
  obtain ⟨h1, h2, h3, h4⟩ := inB_iff.1 hm
  unfold ltM cT
  rw [neg_wrap h3, neg_wrap h2]
def lsM (m : M) (q : Int) : M := ⟨wrap64 (m.a - wrap64 (q * m.c)), wrap64 (wrap64 (wrap64 (m.a - wrap64 (q * m.c)) * q) + wrap64 (m.b - wrap64 (q * m.d))), m.c, wrap64 (wrap64 (m.c * q) + m.d)⟩
theorem lsM_x {m : M} (hm : inB m = true) {k : Int} (hk : -1000000 ≤ k ∧ k ≤ 1000000) (hr : inB (cS m (-k)) = true) : lsM m k = cS m (-k) := by
  obtain ⟨a, b, c, d⟩ := m
  obtain ⟨h1, h2, h3, h4⟩ := inB_iff.1 hm
  obtain ⟨r1, r2, r3, r4⟩ := inB_iff.1 hr
  simp only [cS] at r1 r2 r3 r4
  dsimp only at h1 h2 h3 h4
  have p1 := mul6 hk h3
  have p2 := mul6 hk h4
  have p3 := mul6 r1 hk
  rw [Int.neg_mul] at *
  unfold lsM cS
  dsimp only
  rw [wrap_mid (x := k * c) (by omega), wrap_mid (x := k * d) (by omega), wrap_mid (x := a - k * c) (by omega), wrap_mid (x := b - k * d) (by omega),
    show a - k * c = a + -k * c from by rw [Int.neg_mul]; omega, wrap_mid (x := (a + -k * c) * k) (by rw [Int.neg_mul]; omega), Int.mul_comm c k, wrap_mid (x := k * c) (by omega)]
  have e1 : (a + -k * c) * k + (b - k * d) = b + -k * d - -k * (a + -k * c) := by grind
  rw [e1]
  apply M.ext' <;> dsimp only
  · exact wrap_mid (x := b + -k * d - -k * (a + -k * c)) (by simp only [Int.neg_mul] at *; omega)
  · rw [wrap_mid (x := k * c + d) (by omega), Int.neg_mul]; omega
theorem near_le4 {u c : Int} (hc : c ≠ 0) (hu : -2000000 ≤ u ∧ u ≤ 2000000) : -1000000 ≤ near u (2 * c) ∧ near u (2 * c) ≤ 1000000 := by
  have h := near_ok (u := u) hc
  generalize near u (2 * c) = k at *
  rcases Int.lt_or_gt_of_ne hc with h0 | h0
  · constructor
    · apply Int.not_lt.1; intro hq
      have := Int.mul_nonneg (show 0 ≤ -k - 1000001 by omega) (show 0 ≤ -c - 1 by omega)
      grind
    · apply Int.not_lt.1; intro hq
      have := Int.mul_nonneg (show 0 ≤ k - 1000001 by omega) (show 0 ≤ -c - 1 by omega)
      grind
  · constructor
    · apply Int.not_lt.1; intro hq
      have := Int.mul_nonneg (show 0 ≤ -k - 1000001 by omega) (show 0 ≤ c - 1 by omega)
      grind
    · apply Int.not_lt.1; intro hq
      have := Int.mul_nonneg (show 0 ≤ k - 1000001 by omega) (show 0 ≤ c - 1 by omega)
      grind
/-- at the head of a round: g more at most -/
def MoRel (m0 : M) (N : Nat) (w : World) (g : Nat) (wr : World) : Prop := ∃ m : M, goodM m ∧ muM m ≤ g ∧ monF N m0 = monF g m ∧
  Mem wr [(w.heap.size + 1, #[.int .i64 0, .int .i64 0, .int .i64 0, .int .i64 0], 28), (w.heap.size, #[.int .i64 m.a, .int .i64 m.b, .int .i64 m.c, .int .i64 m.d], 28)] ∧ Below w.heap.size w wr
end Go.Proofs.Ytmbinhhofgofgaa


/- What goes back makes the unit: plain, and the law walked over every slice of bytes. -/
import Derived.Test.YteepjgamcgceoaaDrawG
import Derived.Test.YteepjgamcgceoaaSpecC
namespace Go.Proofs.Yteepjgamcgceoaa
open Go.RowKit

theorem mbk_ok {m : M} (h : (mbk m).2 = true) : inB m = true ∧ whB m = true ∧ (mbk m).1 = bki m := by
  unfold mbk at h ⊢
  cases h1 : inB m <;> cases h2 : whB m <;> simp [h1, h2] at h ⊢
theorem bki_pos {m : M} (h : inB m = true) (hd : xd m = 1) : bki m = ⟨m.d, -m.b, -m.c, m.a⟩ := by
  obtain ⟨k1, k2, k3, k4⟩ := inB_iff.1 h
  rw [bki_x h, hd]
  simp only [Int.one_mul]
  rw [wrap_mid (by omega), wrap_mid (by omega), wrap_mid (by omega), wrap_mid (by omega)]
theorem bki_neg {m : M} (h : inB m = true) (hd : xd m = -1) : bki m = ⟨-m.d, m.b, m.c, -m.a⟩ := by
  obtain ⟨k1, k2, k3, k4⟩ := inB_iff.1 h
  rw [bki_x h, hd]
  simp only [Int.neg_mul, Int.one_mul, Int.neg_neg]
  rw [wrap_mid (by omega), wrap_mid (by omega), wrap_mid (by omega), wrap_mid (by omega)]
theorem mt_of {m n : M} (hm : inB m = true) (hn : inB n = true) (hx : inB (xm m n) = true) : mt m n = (xm m n, true) := by
  simp [mt, hm, hn, tm_x hm hn, ck, hx]
theorem back_right {m : M} (h : inB m = true) (hw : whB m = true) : xm m (bki m) = unitM ∧ xm (bki m) m = unitM ∧ xd (bki m) = xd m := by
  have e : xd m = m.a * m.d - m.b * m.c := rfl
  have p1 := Int.mul_comm m.d m.a
  have p2 := Int.mul_comm m.d m.b
  have p3 := Int.mul_comm m.c m.b
  have p4 := Int.mul_comm m.c m.a
  have p5 := Int.mul_comm m.d m.c
  have p6 := Int.mul_comm m.b m.a
  rcases (whB_iff h).1 hw with hd | hd
  · rw [bki_pos h hd]
    rw [hd] at e
    refine ⟨?_, ?_, ?_⟩
    · apply M.ext' <;> simp only [xm, unitM, Int.mul_neg] <;> omega
    · apply M.ext' <;> simp only [xm, unitM, Int.neg_mul] <;> omega
    · simp only [xd, Int.mul_neg, Int.neg_mul]; omega
  · rw [bki_neg h hd]
    rw [hd] at e
    refine ⟨?_, ?_, ?_⟩
    · apply M.ext' <;> simp only [xm, unitM, Int.mul_neg] <;> omega
    · apply M.ext' <;> simp only [xm, unitM, Int.neg_mul] <;> omega
    · simp only [xd, Int.mul_neg, Int.neg_mul]; omega
theorem back_back {m : M} (h : inB m = true) (hw : whB m = true) : mbk (bki m) = (m, true) := by
  have h1 := bki_in h hw
  have h2 := (back_right h hw).2.2
  have h3 : whB (bki m) = true := (whB_iff h1).2 (by rw [h2]; exact (whB_iff h).1 hw)
  have h4 : bki (bki m) = m := by
    rcases (whB_iff h).1 hw with hd | hd
    · rw [bki_pos h1 (by rw [h2, hd]), bki_pos h hd]; simp
    · rw [bki_neg h1 (by rw [h2, hd]), bki_neg h hd]; simp
  simp [mbk, h1, h3, h4]
theorem back_facts {m : M} (h : (mbk m).2 = true) : mt m (mbk m).1 = (⟨1, 0, 0, 1⟩, true) ∧ mt (mbk m).1 m = (⟨1, 0, 0, 1⟩, true) ∧ mbk (mbk m).1 = (m, true) := by
  obtain ⟨h1, h2, h3⟩ := mbk_ok h
  rw [h3]
  obtain ⟨e1, e2, _⟩ := back_right h1 h2
  have h4 := bki_in h1 h2
  exact ⟨by rw [mt_of h1 h4 (by rw [e1]; decide), e1]; rfl, by rw [mt_of h4 h1 (by rw [e2]; decide), e2]; rfl, back_back h1 h2⟩

theorem unitL_ (w : World) : Calls Try.prog 9 #[] w (fun E' W' => E' = .returned (.agg #[.int .i64 1, .int .i64 0, .int .i64 0, .int .i64 1]) ∧ Below w.heap.size w W') := by
  have hM := mem_nil w; have hB := Below.refl w.heap.size w; have hC := True.intro
  go_enter Try.func9, Try.ntmps9
  go_wp2
  refine bodyPost_ret (by (simp [results, Try.results9, go_sem, *]; try rfl)) rfl ?_
  exact ⟨rfl, by (repeat' (first | (with_reducible exact hB) | (with_reducible exact Below.refl _ _) | (with_reducible refine Below.alloc ?_ ?_ _) | (with_reducible refine Below.setCell ?_ ?_ _) | (with_reducible refine Below.drew ?_) | (with_reducible refine below_drewN ?_ _) | (with_reducible exact Nat.le_refl _) | (with_reducible exact hB.size) | (simp [go_sem]; done) | (have := hB.size; simp [go_sem]; omega)))⟩

end Go.Proofs.Yteepjgamcgceoaa

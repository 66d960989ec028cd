
/- The model's functions that go back, make powers, and move; each for every argument, by the same answers as the program's. -/
import Derived.Test.YtphjoeocmhaboaaSpecA
import Derived.Test.YtphjoeocmhaboaaPlain
import Derived.Test.YtphjoeocmhaboaaImplC
namespace Go.Proofs.Ytphjoeocmhaboaa
open Go.RowKit

/-! ### plain: the model's way back and its powers are the program's -/
theorem bks_eq {m : M} (h1 : inB m = true) (h2 : whB m = true) : bks m = bki m := by
  have hd := (whB_iff h1).1 h2
  obtain ⟨k1, k2, k3, k4⟩ := inB_iff.1 h1
  have e := dt_x h1
  rcases hd with hd | hd
  all_goals
    rw [hd] at e
    apply M.ext' <;> simp only [bks, bki, neg64, e, neg_wrap k2, neg_wrap k3, Int.mul_one, Int.one_mul, Int.mul_neg, Int.neg_mul, Int.neg_neg, Int.zero_sub]
    all_goals (try rw [wrap_mid (x := m.b) (by omega)])
    all_goals (try rw [wrap_mid (x := m.c) (by omega)])
    all_goals (try rw [wrap_mid (x := -m.b) (by omega)])
    all_goals (try rw [wrap_mid (x := -m.c) (by omega)])
    all_goals (try simp only [Int.neg_neg])
    all_goals (try rw [wrap_mid (x := m.b) (by omega)])
    all_goals (try rw [wrap_mid (x := m.c) (by omega)])
theorem bki_x {m : M} (h1 : inB m = true) : bki m = ⟨wrap64 (xd m * m.d), wrap64 (xd m * -m.b), wrap64 (xd m * -m.c), wrap64 (xd m * m.a)⟩ := by
  obtain ⟨k1, k2, k3, k4⟩ := inB_iff.1 h1
  simp only [bki, neg64, dt_x h1, neg_wrap k2, neg_wrap k3]
theorem bki_in {m : M} (h1 : inB m = true) (h2 : whB m = true) : inB (bki m) = true := by
  have hd := (whB_iff h1).1 h2
  obtain ⟨k1, k2, k3, k4⟩ := inB_iff.1 h1
  rw [bki_x h1]
  rcases hd with hd | hd
  all_goals
    rw [hd]
    simp only [Int.one_mul, Int.neg_mul, Int.neg_neg]
    rw [wrap_mid (by omega), wrap_mid (by omega), wrap_mid (by omega), wrap_mid (by omega)]
    exact inB_iff.2 ⟨by dsimp only; omega, by dsimp only; omega, by dsimp only; omega, by dsimp only; omega⟩

/-- powers as the model makes them: the factor behind -/
def pws (m : M) : Nat → M
  | 0 => unitM
  | n + 1 => tm (pws m n) m
def spok (m : M) : Nat → Bool
  | 0 => true
  | n + 1 => spok m n && inB (pws m (n + 1))
theorem pok_in {m : M} : ∀ {n : Nat}, pok m n = true → inB (pw m n) = true
  | 0, _ => unit_in
  | n + 1, h => by simp only [pok, Bool.and_eq_true] at h; exact h.2
theorem pw_commutes {m : M} (hm : inB m = true) : ∀ {n : Nat}, pok m n = true → xm m (pw m n) = xm (pw m n) m
  | 0, _ => by rw [pw, xm_unit, unit_xm]
  | n + 1, h => by
    have h0 : pok m n = true := by simp only [pok, Bool.and_eq_true] at h; exact h.1
    have ih := pw_commutes hm h0
    show xm m (tm m (pw m n)) = xm (tm m (pw m n)) m
    rw [tm_x hm (pok_in h0), xm_assoc, ih]
theorem pws_eq {m : M} (hm : inB m = true) : ∀ {n : Nat}, pok m n = true → pws m n = pw m n
  | 0, _ => rfl
  | n + 1, h => by
    have h0 : pok m n = true := by simp only [pok, Bool.and_eq_true] at h; exact h.1
    show tm (pws m n) m = tm m (pw m n)
    rw [pws_eq hm h0, tm_x hm (pok_in h0), tm_x (pok_in h0) hm, pw_commutes hm h0]
theorem spok_eq {m : M} (hm : inB m = true) : ∀ n : Nat, spok m n = pok m n
  | 0 => rfl
  | n + 1 => by
    simp only [spok, pok, spok_eq hm n]
    cases h : pok m n
    · rfl
    · have e : pws m (n + 1) = pw m (n + 1) := by
        show tm (pws m n) m = tm m (pw m n)
        rw [pws_eq hm h, tm_x hm (pok_in h), tm_x (pok_in h) hm, pw_commutes hm h]
      rw [e]
theorem spok_succ {m : M} {j : Nat} (h : spok m j = true) : spok m (j + 1) = inB (tm (pws m j) m) := by simp [spok, h, pws]
theorem spok_no {m : M} {j : Nat} (h : spok m j = false) : ∀ n, spok m (j + n) = false
  | 0 => h
  | n + 1 => by show (spok m (j + n) && _) = false; rw [spok_no h n]; rfl
def mpws (m : M) (n : Nat) : M × Bool := if spok m n then (pws m n, true) else (zm, false)
theorem mpws_eq {m : M} (hm : inB m = true) (n : Nat) : mpws m n = mpw m n := by
  unfold mpws mpw
  rw [spok_eq hm n]
  cases h : pok m n
  · rfl
  · rw [if_pos rfl, if_pos rfl, pws_eq hm h]

/-! ### the walks -/
/-- at the head of round j of the model's power: the counter, the power so far, the walk's own blocks -/
def SpRel (m : M) (k : Nat) (w w0 : World) (v : Value) (wr : World) : Prop := ∃ j : Nat, j ≤ k ∧ v = .int .i64 j ∧ spok m j = true ∧
  Mem wr [(w0.heap.size, #[.int .i64 (pws m j).a, .int .i64 (pws m j).b, .int .i64 (pws m j).c, .int .i64 (pws m j).d], 24),
    (w.heap.size + 1, #[.int .i64 0, .int .i64 0, .int .i64 0, .int .i64 0], 24), (w.heap.size, #[.int .i64 m.a, .int .i64 m.b, .int .i64 m.c, .int .i64 m.d], 24)] ∧ Below w.heap.size w wr
theorem l6B_50 {k : Int} : l6B k (-50) 50 = true ↔ -50 ≤ k ∧ k ≤ 50 := by simp [l6B]
end Go.Proofs.Ytphjoeocmhaboaa

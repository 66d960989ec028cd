
/- Orders of even rest matrices, walked. No condition. -/
import Derived.Test.YtmaefhcgjaapgaaMoT
import Derived.Test.YtmaefhcgjaapgaaMoO
namespace Go.Proofs.Ytmaefhcgjaapgaa
open Go.RowKit

theorem mem_sub {w : World} {L L' : List (Nat × Array Value × TypeId)} (h : Mem w L) (e : List.Sublist L' L) : Mem w L' :=
  ⟨fun p hp => h.1 p (e.subset hp), h.2.sublist e⟩
def ordM (k a b c d : Nat) : Nat := ordN k a b c d 40 a b c d 1
theorem reB_nat {k a b c d : Nat} (h : reB k (nM a b c d) = true) : a < k ∧ b < k ∧ c < k ∧ d < k ∧ (a * d + k * k - b * c) % k = 1 := by
  simp only [reB, Bool.and_eq_true, beq_iff_eq] at h
  obtain ⟨h1, h2⟩ := h
  obtain ⟨k1, k2, k3, k4⟩ := rbM_iff.1 h1
  simp only [nM] at k1 k2 k3 k4
  refine ⟨by omega, by omega, by omega, by omega, ?_⟩
  have hbc : b * c ≤ k * k := Nat.mul_le_mul (by omega) (by omega)
  have e : ((a * d + k * k - b * c : Nat) : Int) = xd (nM a b c d) + k * k := by
    rw [Int.ofNat_sub (by omega)]
    simp only [xd, nM]
    push_cast
    omega
  have : ((((a * d + k * k - b * c) % k : Nat)) : Int) = 1 := by
    rw [Int.natCast_emod, e, Int.add_mul_emod_self_left, h2]
  omega
theorem ordM_ok {k a b c d : Nat} (hk : 2 ≤ k ∧ k ≤ 12) (h : reB k (nM a b c d) = true) : 0 < ordM k a b c d ∧ cntT k % ordM k a b c d = 0 := by
  obtain ⟨h1, h2, h3, h4, h5⟩ := reB_nat h
  have := okO_all hk
  simp only [okO, List.all_eq_true, List.mem_range] at this
  have := this a h1 b h2 c h3 d h4
  simp only [h5, beq_self_eq_true, Bool.not_true, Bool.false_or, Bool.and_eq_true, beq_iff_eq, Nat.blt_eq] at this
  exact this
theorem ord_stop {k a b c d n o : Nat} (h : ordN k a b c d (41 - n) 1 0 0 1 n = o) (ho : 0 < o) : o = n := by
  cases e : 41 - n with
  | zero => rw [e] at h; simp only [ordN] at h; omega
  | succ f => rw [e] at h; simp [ordN] at h; omega
theorem ord_step {k a b c d x y z t n o : Nat} (h : ordN k a b c d (41 - n) x y z t n = o) (ho : 0 < o) (hne : ¬ ((x : Int) = 1 ∧ (y : Int) = 0 ∧ (z : Int) = 0 ∧ (t : Int) = 1)) :
    n < 41 ∧ ordN k a b c d (41 - (n + 1)) ((x * a + y * c) % k) ((x * b + y * d) % k) ((z * a + t * c) % k) ((z * b + t * d) % k) (n + 1) = o := by
  cases e : 41 - n with
  | zero => rw [e] at h; simp only [ordN] at h; omega
  | succ f =>
    have hb : (x == 1 && y == 0 && z == 0 && t == 1) = false := by
      cases hh : (x == 1 && y == 0 && z == 0 && t == 1)
      · rfl
      · simp only [Bool.and_eq_true, beq_iff_eq] at hh
        exact absurd ⟨by omega, by omega, by omega, by omega⟩ hne
    rw [e] at h
    simp only [ordN, hb, cond_false] at h
    rw [show 41 - (n + 1) = f by omega]
    exact ⟨by omega, h⟩
/-- a power goes on: what the program and the model make of it -/
theorem pow_facts {k a b c d x y z t : Nat} (hk : 2 ≤ k ∧ k ≤ 12) (ha : a < k ∧ b < k ∧ c < k ∧ d < k) (hx : x < k ∧ y < k ∧ z < k ∧ t < k) :
    ∃ X Y Z T : Nat, X = (x * a + y * c) % k ∧ Y = (x * b + y * d) % k ∧ Z = (z * a + t * c) % k ∧ T = (z * b + t * d) % k ∧ X < k ∧ Y < k ∧ Z < k ∧ T < k ∧
    ∃ p q r s : Int, tm ⟨x, y, z, t⟩ ⟨a, b, c, d⟩ = ⟨p, q, r, s⟩ ∧ p % (k : Int) = X ∧ q % (k : Int) = Y ∧ r % (k : Int) = Z ∧ s % (k : Int) = T := by
  have hi : ∀ {u v s t : Nat}, u < k ∧ v < k ∧ s < k ∧ t < k → inB ⟨u, v, s, t⟩ = true := fun h => inB_iff.2 ⟨by simp; omega, by simp; omega, by simp; omega, by simp; omega⟩
  refine ⟨_, _, _, _, rfl, rfl, rfl, rfl, Nat.mod_lt _ (by omega), Nat.mod_lt _ (by omega), Nat.mod_lt _ (by omega), Nat.mod_lt _ (by omega), _, _, _, _, tm_x (hi hx) (hi ha), ?_, ?_, ?_, ?_⟩ <;> simp
theorem mat_ne1 {a b c d : Int} (h : ¬ (a = 1 ∧ b = 0 ∧ c = 0 ∧ d = 1)) (W : World) : (binOp .neq 24 (.agg #[.int .i64 a, .int .i64 b, .int .i64 c, .int .i64 d]) (.agg #[.int .i64 1, .int .i64 0, .int .i64 0, .int .i64 1])).run Try.prog W = .ok (.bool true) W := by
  by_cases h1 : a = 1
  · by_cases h2 : b = 0
    · by_cases h3 : c = 0
      · have h4 : ¬ d = 1 := fun h4 => h ⟨h1, h2, h3, h4⟩
        subst h1 h2 h3
        have h5 : (d == 1) = false := by simp [h4]
        go_simp
      · subst h1 h2
        have h5 : (c == 0) = false := by simp [h3]
        go_simp
    · subst h1
      have h5 : (b == 0) = false := by simp [h2]
      go_simp
  · have h5 : (a == 1) = false := by simp [h1]
    go_simp
def OrR (k a b c d o A : Nat) (w : World) (v v6 : Value) (wr : World) : Prop := ∃ x y z t n B : Nat, v = .int .i64 n ∧ v6 = .pointer (some ⟨B, 0, none⟩) ∧
  Mem wr [(B, #[.int .i64 x, .int .i64 y, .int .i64 z, .int .i64 t], 24), (A, #[.int .i64 a, .int .i64 b, .int .i64 c, .int .i64 d], 24)] ∧
  Below w.heap.size w wr ∧ (x < k ∧ y < k ∧ z < k ∧ t < k) ∧ n ≤ 41 ∧ ordN k a b c d (41 - n) x y z t n = o
/-- what RestOrder tells -/
def mOrd (m : M) (n : Int) : Int × Bool := if mRestEven m n then (((ordM n.toNat m.a.toNat m.b.toNat m.c.toNat m.d.toNat : Nat) : Int), true) else (0, false)
end Go.Proofs.Ytmaefhcgjaapgaa

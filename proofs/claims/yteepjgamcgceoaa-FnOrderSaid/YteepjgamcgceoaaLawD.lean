
/- Powers go on: plain, and the law walked over every slice of bytes. -/
import Derived.Test.YteepjgamcgceoaaDrawH
import Derived.Test.YteepjgamcgceoaaLawC
namespace Go.Proofs.Yteepjgamcgceoaa
open Go.RowKit

theorem xd_xm (m n : M) : xd (xm m n) = xd m * xd n := by
  simp only [xd, xm, Int.sub_mul, Int.mul_sub, Int.add_mul, Int.mul_add]
  have p1 : m.a * n.a * (m.c * n.b) = m.a * n.b * (m.c * n.a) := by rw [Int.mul_assoc, Int.mul_assoc, Int.mul_left_comm n.a, Int.mul_left_comm n.b, Int.mul_comm n.a n.b]
  have p2 : m.b * n.c * (m.d * n.d) = m.b * n.d * (m.d * n.c) := by rw [Int.mul_assoc, Int.mul_assoc, Int.mul_left_comm n.c, Int.mul_left_comm n.d, Int.mul_comm n.c n.d]
  have p3 : m.a * n.a * (m.d * n.d) = m.a * m.d * (n.a * n.d) := by rw [Int.mul_assoc, Int.mul_assoc, Int.mul_left_comm n.a]
  have p4 : m.b * n.c * (m.c * n.b) = m.b * m.c * (n.b * n.c) := by rw [Int.mul_assoc, Int.mul_assoc, Int.mul_left_comm n.c, Int.mul_comm n.c n.b]
  have p5 : m.a * n.b * (m.d * n.c) = m.a * m.d * (n.b * n.c) := by rw [Int.mul_assoc, Int.mul_assoc, Int.mul_left_comm n.b]
  have p6 : m.b * n.d * (m.c * n.a) = m.b * m.c * (n.a * n.d) := by rw [Int.mul_assoc, Int.mul_assoc, Int.mul_left_comm n.d, Int.mul_comm n.d n.a]
  omega
theorem pok_pred {m : M} {n : Nat} (h : pok m (n + 1) = true) : pok m n = true := by simp only [pok, Bool.and_eq_true] at h; exact h.1
theorem xd_pw {m : M} (hm : inB m = true) (hw : whB m = true) : ∀ {n : Nat}, pok m n = true → xd (pw m n) = 1 ∨ xd (pw m n) = -1
  | 0, _ => .inl rfl
  | n + 1, h => by
    have h0 := pok_pred h
    show xd (tm m (pw m n)) = 1 ∨ xd (tm m (pw m n)) = -1
    rw [tm_x hm (pok_in h0), xd_xm]
    rcases (whB_iff hm).1 hw with e | e <;> rcases xd_pw hm hw h0 with k | k <;> rw [e, k] <;> decide
/-- a power of what goes back is what goes back of the power -/
theorem pw_back {m : M} (hm : inB m = true) (hw : whB m = true) : ∀ {n : Nat}, pok m n = true → pok (bki m) n = true → xm (pw m n) (pw (bki m) n) = unitM
  | 0, _, _ => by rw [pw, pw, xm_unit]
  | n + 1, h, k => by
    have h0 := pok_pred h
    have k0 := pok_pred k
    have hb := bki_in hm hw
    show xm (tm m (pw m n)) (tm (bki m) (pw (bki m) n)) = unitM
    rw [tm_x hm (pok_in h0), tm_x hb (pok_in k0), pw_commutes hm h0, xm_assoc, ← xm_assoc m, (back_right hm hw).1, unit_xm]
    exact pw_back hm hw h0 k0
theorem mbk_pw {m : M} (hm : inB m = true) (hw : whB m = true) {n : Nat} (h : pok m n = true) (k : pok (bki m) n = true) : mbk (pw m n) = (pw (bki m) n, true) := by
  have hi := pok_in h
  have hwp : whB (pw m n) = true := (whB_iff hi).2 (xd_pw hm hw h)
  have e := pw_back hm hw h k
  have e2 := (back_right hi hwp).2.1
  have e3 : bki (pw m n) = pw (bki m) n := by
    rw [← xm_unit (bki (pw m n)), ← e, ← xm_assoc, e2, unit_xm]
  simp [mbk, hi, hwp, e3]
theorem mmp_ok {m : M} {k : Int} (h : (mmp m k).2 = true) : inB m = true ∧ -50 ≤ k ∧ k ≤ 50 := by
  unfold mmp at h
  by_cases h1 : inB m = true ∧ -50 ≤ k ∧ k ≤ 50
  · exact h1
  · rw [if_neg h1] at h; cases h
theorem mpw_ok {m : M} {n : Nat} (h : (mpw m n).2 = true) : pok m n = true ∧ (mpw m n).1 = pw m n := by
  unfold mpw at h ⊢
  cases e : pok m n <;> simp [e] at h ⊢
theorem power_up {m : M} {k : Int} (h : (mmp m k).2 = true) (h0 : 0 ≤ k) (h1 : k < 50) : mt (mmp m k).1 m = mmp m (k + 1) := by
  obtain ⟨hm, _, _⟩ := mmp_ok h
  have e1 : mmp m k = mpw m k.toNat := by rw [mmp, if_pos ⟨hm, by omega, by omega⟩, if_pos h0]
  have e2 : mmp m (k + 1) = mpw m (k.toNat + 1) := by rw [mmp, if_pos ⟨hm, by omega, by omega⟩, if_pos (by omega), show (k + 1).toNat = k.toNat + 1 from by omega]
  rw [e1] at h ⊢
  rw [e2]
  obtain ⟨p1, p2⟩ := mpw_ok h
  rw [p2]
  have hi := pok_in p1
  have e3 : tm (pw m k.toNat) m = pw m (k.toNat + 1) := by
    show _ = tm m (pw m k.toNat)
    rw [tm_x hi hm, tm_x hm hi, pw_commutes hm p1]
  unfold mpw
  simp only [mt, hi, hm, Bool.and_self, if_true, e3, ck, pok, p1, Bool.true_and]
theorem power_down {m : M} {k : Int} (h : (mmp m k).2 = true) (h0 : k < 0) (hp : (mmp m (-k)).2 = true) : mbk (mmp m (-k)).1 = ((mmp m k).1, true) := by
  obtain ⟨hm, h1, h2⟩ := mmp_ok h
  have e2 : mmp m (-k) = mpw m (-k).toNat := by rw [mmp, if_pos ⟨hm, by omega, by omega⟩, if_pos (by omega)]
  cases hw : whB m
  · rw [mmp, if_pos ⟨hm, h1, h2⟩, if_neg (by omega), hw] at h; cases h
  · have e1 : mmp m k = mpw (bki m) (-k).toNat := by rw [mmp, if_pos ⟨hm, h1, h2⟩, if_neg (by omega), if_pos hw]
    rw [e1] at h ⊢
    rw [e2] at hp ⊢
    obtain ⟨p1, p2⟩ := mpw_ok h
    obtain ⟨q1, q2⟩ := mpw_ok hp
    rw [p2, q2]
    exact mbk_pw hm hw q1 p1

theorem use_matnum {P : Program} {f : FuncId} {w W : World} {a : Option Addr} {len cap : Nat} {zs : List Int} {Q : Ending → World → Prop} (hRow : RowB .u8 w w.heap.size a len cap zs)
    (hc : ∀ W : World, RowB .u8 W W.heap.size a len cap zs → Calls P f #[.slice a len cap] W (MatNumPost W)) (hB : Below w.heap.size w W) (hs : w.heap.size ≤ W.heap.size)
    (h : ∀ a b c d k w', Below W.heap.size W w' → Q (.returned (.tuple #[.agg #[.int .i64 a, .int .i64 b, .int .i64 c, .int .i64 d], .int .i64 k])) w') : Calls P f #[.slice a len cap] W Q :=
  (hc W (hRow.at_ hB hs)).mono fun e w' ⟨a, b, c, d, k, he, hb⟩ => by rw [he]; exact h a b c d k w' hb

end Go.Proofs.Yteepjgamcgceoaa

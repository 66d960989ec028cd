
/- The model's functions on words and fractions, walked: the same answers as the program's. -/
import Derived.Test.YthpbdcookhpdaaaSpecA
import Derived.Test.YthpbdcookhpdaaaImplW
import Derived.Deep.DeepCutAuto
namespace Go.Proofs.Ythpbdcookhpdaaa
open Go.RowKit

theorem cast76 (c : UInt8) : ((c.toNat : Int) == 76) = (c == 76) := by
  rw [Bool.eq_iff_iff]; simp [← UInt8.toNat_inj]; omega
theorem cast82 (c : UInt8) : ((c.toNat : Int) == 82) = (c == 82) := by
  rw [Bool.eq_iff_iff]; simp [← UInt8.toNat_inj]; omega
theorem cast76' (c : UInt8) : ((c.toNat : Int) != 76) = !(c == 76) := by rw [← cast76]; rfl
theorem cast82' (c : UInt8) : ((c.toNat : Int) != 82) = !(c == 82) := by rw [← cast82]; rfl

/-- at the head of round k of 'l2Mat' -/
def L2XRel (s : ByteArray) (w w0 : World) (v : Value) (wr : World) : Prop := ∃ k : Nat, k ≤ s.size ∧ v = .int .i64 k ∧
  Mem wr [(w0.heap.size, #[.int .i64 (sm (s.data.toList.take k)).a, .int .i64 (sm (s.data.toList.take k)).b, .int .i64 (sm (s.data.toList.take k)).c, .int .i64 (sm (s.data.toList.take k)).d], 31),
    (w.heap.size, #[.int .i64 0, .int .i64 0, .int .i64 0, .int .i64 0], 31)] ∧ Below w.heap.size w wr
/-- a word's fraction is told just where the model tells it -/
theorem wfr_eq {l : List UInt8} (h : wdL l = true) : (inB (im l) && numB (wrap64 ((im l).a + (im l).b)) && numB (wrap64 ((im l).c + (im l).d))) = frB (wrap64 ((im l).a + (im l).b)) (wrap64 ((im l).c + (im l).d)) := by
  have h40 : l.length ≤ 40 := by simp only [wdL, Bool.and_eq_true, decide_eq_true_eq] at h; exact h.2
  rw [im_pm (by omega)]
  obtain ⟨k1, k2, k3, k4⟩ := pm_nn h40
  have hf := pm_fp l
  have hp := fp_pos l
  have hg := fp_gcd l
  rw [wrap_mid (by omega), wrap_mid (by omega), hf.1, hf.2, Bool.eq_iff_iff, frB_iff]
  simp only [Bool.and_eq_true, inB_iff, numB_iff, Int.toNat_natCast, hg, and_true]
  omega
end Go.Proofs.Ythpbdcookhpdaaa

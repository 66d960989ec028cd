
/- The model's functions on words and fractions, walked: the same answers as the program's. -/
import Derived.Test.YtphjoeocmhaboaaSpecA
import Derived.Test.YtphjoeocmhaboaaImplW
import Derived.Deep.DeepCutAuto
namespace Go.Proofs.Ytphjoeocmhaboaa
open Go.RowKit

theorem cast76 (c : UInt8) : ((c.toNat : Int) == 76) = (c == 76) := by
  rw [Bool.eq_iff_iff]; simp [← UInt8.toNat_inj]; omega
theorem cast82 (c : UInt8) : ((c.toNat : Int) == 82) = (c == 82) := by
  rw [Bool.eq_iff_iff]; simp [← UInt8.toNat_inj]; omega
theorem cast76' (c : UInt8) : ((c.toNat : Int) != 76) = !(c == 76) := by rw [← cast76]; rfl
theorem cast82' (c : UInt8) : ((c.toNat : Int) != 82) = !(c == 82) := by rw [← cast82]; rfl

/-- at the head of round k of 'l2Mat' -/
def L2XRel (s : ByteArray) (w w0 : World) (v : Value) (wr : World) : Prop := ∃ k : Nat, k ≤ s.size ∧ v = .int .i64 k ∧
  Mem wr [(w0.heap.size, #[.int .i64 (sm (s.data.toList.take k)).a, .int .i64 (sm (s.data.toList.take k)).b, .int .i64 (sm (s.data.toList.take k)).c, .int .i64 (sm (s.data.toList.take k)).d], 24),
    (w.heap.size, #[.int .i64 0, .int .i64 0, .int .i64 0, .int .i64 0], 24)] ∧ Below w.heap.size w wr
set_option maxHeartbeats 2000000 in
theorem l2MatX_ (s : ByteArray) (hs : s.size ≤ 1000000000) (w : World) : Calls Try.prog 42 #[.string s] w (fun E' W' => E' = .returned (.agg #[.int .i64 ((sm s.data.toList)).a, .int .i64 ((sm s.data.toList)).b, .int .i64 ((sm s.data.toList)).c, .int .i64 ((sm s.data.toList)).d]) ∧ Below w.heap.size w W') := by
  have hM := mem_nil w; have hB := Below.refl w.heap.size w; have hC := True.intro
  go_enter Try.func42, Try.ntmps42
  go_wp2_with (go_at_call 53; refine (l1Unit_ _).mono ?_; rintro e w' ⟨rfl, hb⟩; apply after_call (w := w) hb; (focus ((repeat' (first | (with_reducible exact hM) | (with_reducible apply mem_alloc) | (with_reducible apply mem_set) | (with_reducible apply mem_drew) | (with_reducible apply mem_drewN))); done)); (focus ((repeat' (first | (with_reducible exact hB) | (with_reducible exact Below.refl _ _) | (with_reducible refine Below.alloc ?_ ?_ _) | (with_reducible refine Below.setCell ?_ ?_ _) | (with_reducible refine Below.drew ?_) | (with_reducible refine below_drewN ?_ _) | (with_reducible exact Nat.le_refl _) | (with_reducible exact hB.size) | (simp [go_sem]; done) | (have := hB.size; simp [go_sem]; omega))); done)); (focus ((repeat' (first | (with_reducible exact hB) | (with_reducible exact Below.refl _ _) | (with_reducible refine Below.alloc ?_ ?_ _) | (with_reducible refine Below.setCell ?_ ?_ _) | (with_reducible refine Below.drew ?_) | (with_reducible refine below_drewN ?_ _) | (with_reducible exact Nat.le_refl _) | (with_reducible exact hB.size) | (simp [go_sem]; done) | (have := hB.size; simp [go_sem]; omega))); done)); clear hM hB hb; intro hM hB; (try clear hC); have hC := mem_facts hM; simp at hC)
  obtain ⟨w0, rfl⟩ : ∃ w0 : World, w0 = w' := ⟨_, rfl⟩
  go_loopw [4] (L2XRel s w w0) (fun v _ => s.size - (intOf v).toNat)
  case atStart =>
    refine ⟨0, Nat.zero_le _, rfl, ?_, by (repeat' (first | (with_reducible exact hB) | (with_reducible exact Below.refl _ _) | (with_reducible refine Below.alloc ?_ ?_ _) | (with_reducible refine Below.setCell ?_ ?_ _) | (with_reducible refine Below.drew ?_) | (with_reducible refine below_drewN ?_ _) | (with_reducible exact Nat.le_refl _) | (with_reducible exact hB.size) | (simp [go_sem]; done) | (have := hB.size; simp [go_sem]; omega)))⟩
    apply mem_drop 0
    · (repeat' (first | (with_reducible exact hM) | (with_reducible apply mem_alloc) | (with_reducible apply mem_set) | (with_reducible apply mem_drew) | (with_reducible apply mem_drewN)))
    · simp [sm, unitM]
  case round =>
    obtain ⟨k, hk, rfl, hM', hB'⟩ := hrel
    (try clear hC); clear hM hB; have hM := hM'; have hB := hB'; clear hM' hB'; have hC := mem_facts hM; simp at hC
    by_cases hlt : k < s.size
    · have HT := Lib.hid (take_snoc s k hlt)
      by_cases e : s[k] = 76
      · have h1 : ((s[k].toNat : Int) == 76) = true := by rw [cast76]; simp [e]
        have HE := Lib.hid e
        clear e
        go_wp2
        go_roundw
        case rel =>
          refine ⟨k + 1, by omega, by go_num, ?_, by (repeat' (first | (with_reducible exact hB) | (with_reducible exact Below.refl _ _) | (with_reducible refine Below.alloc ?_ ?_ _) | (with_reducible refine Below.setCell ?_ ?_ _) | (with_reducible refine Below.drew ?_) | (with_reducible refine below_drewN ?_ _) | (with_reducible exact Nat.le_refl _) | (with_reducible exact hB.size) | (simp [go_sem]; done) | (have := hB.size; simp [go_sem]; omega)))⟩
          rw [HT.out, sm_snoc]
          apply mem_drop 0
          · (repeat' (first | (with_reducible exact hM) | (with_reducible apply mem_alloc) | (with_reducible apply mem_set) | (with_reducible apply mem_drew) | (with_reducible apply mem_drewN)))
          · simp [st, HE.out, *]
        case measure => simp [intOf]; omega
      · have h1 : ((s[k].toNat : Int) == 76) = false := by rw [cast76]; simp [e]
        have HE := Lib.hid e
        clear e
        go_wp2
        go_roundw
        case rel =>
          refine ⟨k + 1, by omega, by go_num, ?_, by (repeat' (first | (with_reducible exact hB) | (with_reducible exact Below.refl _ _) | (with_reducible refine Below.alloc ?_ ?_ _) | (with_reducible refine Below.setCell ?_ ?_ _) | (with_reducible refine Below.drew ?_) | (with_reducible refine below_drewN ?_ _) | (with_reducible exact Nat.le_refl _) | (with_reducible exact hB.size) | (simp [go_sem]; done) | (have := hB.size; simp [go_sem]; omega)))⟩
          rw [HT.out, sm_snoc]
          apply mem_drop 0
          · (repeat' (first | (with_reducible exact hM) | (with_reducible apply mem_alloc) | (with_reducible apply mem_set) | (with_reducible apply mem_drew) | (with_reducible apply mem_drewN)))
          · simp [st, HE.out, *]
        case measure => simp [intOf]; omega
    · obtain rfl : k = s.size := by omega
      have HT := Lib.hid (show s.data.toList.take s.size = s.data.toList from List.take_of_length_le (by simp))
      rw [HT.out] at hM hC
      go_wp2
      refine bodyPost_ret (by (simp [results, Try.results42, go_sem, *]; try rfl)) rfl ?_
      exact ⟨rfl, by (repeat' (first | (with_reducible exact hB) | (with_reducible exact Below.refl _ _) | (with_reducible refine Below.alloc ?_ ?_ _) | (with_reducible refine Below.setCell ?_ ?_ _) | (with_reducible refine Below.drew ?_) | (with_reducible refine below_drewN ?_ _) | (with_reducible exact Nat.le_refl _) | (with_reducible exact hB.size) | (simp [go_sem]; done) | (have := hB.size; simp [go_sem]; omega)))⟩

/-- a word's fraction is told just where the model tells it -/
theorem wfr_eq {l : List UInt8} (h : wdL l = true) : (inB (im l) && numB (wrap64 ((im l).a + (im l).b)) && numB (wrap64 ((im l).c + (im l).d))) = frB (wrap64 ((im l).a + (im l).b)) (wrap64 ((im l).c + (im l).d)) := by
  have h40 : l.length ≤ 40 := by simp only [wdL, Bool.and_eq_true, decide_eq_true_eq] at h; exact h.2
  rw [im_pm (by omega)]
  obtain ⟨k1, k2, k3, k4⟩ := pm_nn h40
  have hf := pm_fp l
  have hp := fp_pos l
  have hg := fp_gcd l
  rw [wrap_mid (by omega), wrap_mid (by omega), hf.1, hf.2, Bool.eq_iff_iff, frB_iff]
  simp only [Bool.and_eq_true, inB_iff, numB_iff, Int.toNat_natCast, hg, and_true]
  omega
end Go.Proofs.Ytphjoeocmhaboaa

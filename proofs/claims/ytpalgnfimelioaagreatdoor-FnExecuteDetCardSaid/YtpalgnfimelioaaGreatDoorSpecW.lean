
/- The model's functions on words and fractions, walked: the same answers as the program's. -/
import Derived.Test.YtpalgnfimelioaaGreatDoorSpecA
import Derived.Test.YtpalgnfimelioaaGreatDoorImplW
import Derived.Deep.DeepCutAuto
namespace Go.Proofs.YtpalgnfimelioaaGreatDoor
open Go.RowKit

theorem cast76 (c : UInt8) : ((c.toNat : Int) == 76) = (c == 76) := by
  rw [Bool.eq_iff_iff]; simp [← UInt8.toNat_inj]; omega
theorem cast82 (c : UInt8) : ((c.toNat : Int) == 82) = (c == 82) := by
  rw [Bool.eq_iff_iff]; simp [← UInt8.toNat_inj]; omega
theorem cast76' (c : UInt8) : ((c.toNat : Int) != 76) = !(c == 76) := by rw [← cast76]; rfl
theorem cast82' (c : UInt8) : ((c.toNat : Int) != 82) = !(c == 82) := by rw [← cast82]; rfl

set_option maxHeartbeats 1000000 in
theorem sWordIn_ (s : ByteArray) (hs : s.size ≤ 9223372036854775807) (w : World) : Calls Tryz.prog 21 #[.string s] w (fun E' W' => E' = .returned (.bool (wdL s.data.toList)) ∧ w = W') := by
  go_enter Tryz.func21, Tryz.ntmps21
  go_wp2
  go_loop [3] (fun i => ∃ k : Nat, k ≤ s.size ∧ i = .int .i64 k ∧ (s.data.toList.take k).all letB = true) (fun i => s.size - (intOf i).toNat)
  case atStart => exact ⟨0, Nat.zero_le _, rfl, rfl⟩
  case round =>
    obtain ⟨k, hk, rfl, hall⟩ := hrel
    have HA := Lib.hid hall
    clear hall
    by_cases hlt : k < s.size
    · have HT := Lib.hid (take_snoc s k hlt)
      have hm : s[k] ∈ s.data.toList := by
        rw [show s[k] = s.data[k] from rfl]; simp
      cases hc : letB s[k]
      · have h1 : ((s[k].toNat : Int) == 76) = false := by rw [cast76]; simp [letB] at hc; simp [hc]
        have h2 : ((s[k].toNat : Int) == 82) = false := by rw [cast82]; simp [letB] at hc; simp [hc]
        have h3 : ((s[k].toNat : Int) != 76) = true := by rw [cast76']; simp [letB] at hc; simp [hc]
        have h4 : ((s[k].toNat : Int) != 82) = true := by rw [cast82']; simp [letB] at hc; simp [hc]
        go_wp2
        go_ret
        refine ⟨?_, rfl⟩
        have : s.data.toList.all letB = false := by
          cases hh : s.data.toList.all letB
          · rfl
          · rw [List.all_eq_true] at hh; rw [hh _ hm] at hc; cases hc
        simp only [wdL, this, Bool.false_and]; rfl
      · by_cases e : s[k] = 76
        · have h1 : ((s[k].toNat : Int) == 76) = true := by rw [cast76]; simp [e]
          have h3 : ((s[k].toNat : Int) != 76) = false := by rw [cast76']; simp [e]
          clear e
          go_wp2
          go_round
          case rel => exact ⟨k + 1, by omega, by go_num, by rw [HT.out, List.all_append, HA.out]; simp [hc]⟩
          case measure => simp [intOf]; omega
        · have h1 : ((s[k].toNat : Int) == 76) = false := by rw [cast76]; simp [e]
          have h3 : ((s[k].toNat : Int) != 76) = true := by rw [cast76']; simp [e]
          have h2 : ((s[k].toNat : Int) == 82) = true := by rw [cast82]; simp [letB, e] at hc; simp [hc]
          have h4 : ((s[k].toNat : Int) != 82) = false := by rw [cast82']; simp [letB, e] at hc; simp [hc]
          clear e
          go_wp2
          go_round
          case rel => exact ⟨k + 1, by omega, by go_num, by rw [HT.out, List.all_append, HA.out]; simp [hc]⟩
          case measure => simp [intOf]; omega
    · obtain rfl : k = s.size := by omega
      go_wp2
      go_ret
      refine ⟨?_, rfl⟩
      have : s.data.toList.all letB = true := by
        have := HA.out
        rwa [List.take_of_length_le (by simp)] at this
      simp [wdL, this]
      omega

/-- at the head of round k of 'l2Mat' -/
def L2XRel (s : ByteArray) (w w0 : World) (v : Value) (wr : World) : Prop := ∃ k : Nat, k ≤ s.size ∧ v = .int .i64 k ∧
  Mem wr [(w0.heap.size, #[.int .i64 (sm (s.data.toList.take k)).a, .int .i64 (sm (s.data.toList.take k)).b, .int .i64 (sm (s.data.toList.take k)).c, .int .i64 (sm (s.data.toList.take k)).d], 25),
    (w.heap.size, #[.int .i64 0, .int .i64 0, .int .i64 0, .int .i64 0], 25)] ∧ Below w.heap.size w wr
set_option maxHeartbeats 2000000 in
theorem l2MatX_ (s : ByteArray) (hs : s.size ≤ 1000000000) (w : World) : Calls Tryz.prog 24 #[.string s] w (fun E' W' => E' = .returned (.agg #[.int .i64 ((sm s.data.toList)).a, .int .i64 ((sm s.data.toList)).b, .int .i64 ((sm s.data.toList)).c, .int .i64 ((sm s.data.toList)).d]) ∧ Below w.heap.size w W') := by
  have hM := mem_nil w; have hB := Below.refl w.heap.size w; have hC := True.intro
  go_enter Tryz.func24, Tryz.ntmps24
  go_wp2_with (go_at_call 43; refine (l1Unit_ _).mono ?_; rintro e w' ⟨rfl, hb⟩; apply after_call (w := w) hb; (focus ((repeat' (first | (with_reducible exact hM) | (with_reducible apply mem_alloc) | (with_reducible apply mem_set) | (with_reducible apply mem_drew) | (with_reducible apply mem_drewN))); done)); (focus ((repeat' (first | (with_reducible exact hB) | (with_reducible exact Below.refl _ _) | (with_reducible refine Below.alloc ?_ ?_ _) | (with_reducible refine Below.setCell ?_ ?_ _) | (with_reducible refine Below.drew ?_) | (with_reducible refine below_drewN ?_ _) | (with_reducible exact Nat.le_refl _) | (with_reducible exact hB.size) | (simp [go_sem]; done) | (have := hB.size; simp [go_sem]; omega))); done)); (focus ((repeat' (first | (with_reducible exact hB) | (with_reducible exact Below.refl _ _) | (with_reducible refine Below.alloc ?_ ?_ _) | (with_reducible refine Below.setCell ?_ ?_ _) | (with_reducible refine Below.drew ?_) | (with_reducible refine below_drewN ?_ _) | (with_reducible exact Nat.le_refl _) | (with_reducible exact hB.size) | (simp [go_sem]; done) | (have := hB.size; simp [go_sem]; omega))); done)); clear hM hB hb; intro hM hB; (try clear hC); have hC := mem_facts hM; simp at hC)
  obtain ⟨w0, rfl⟩ : ∃ w0 : World, w0 = w' := ⟨_, rfl⟩
  go_loopw [4] (L2XRel s w w0) (fun v _ => s.size - (intOf v).toNat)
  case atStart =>
    refine ⟨0, Nat.zero_le _, rfl, ?_, by (repeat' (first | (with_reducible exact hB) | (with_reducible exact Below.refl _ _) | (with_reducible refine Below.alloc ?_ ?_ _) | (with_reducible refine Below.setCell ?_ ?_ _) | (with_reducible refine Below.drew ?_) | (with_reducible refine below_drewN ?_ _) | (with_reducible exact Nat.le_refl _) | (with_reducible exact hB.size) | (simp [go_sem]; done) | (have := hB.size; simp [go_sem]; omega)))⟩
    apply mem_drop 0
    · (repeat' (first | (with_reducible exact hM) | (with_reducible apply mem_alloc) | (with_reducible apply mem_set) | (with_reducible apply mem_drew) | (with_reducible apply mem_drewN)))
    · simp [sm, unitM]
  case round =>
    obtain ⟨k, hk, rfl, hM', hB'⟩ := hrel
    (try clear hC); clear hM hB; have hM := hM'; have hB := hB'; clear hM' hB'; have hC := mem_facts hM; simp at hC
    by_cases hlt : k < s.size
    · have HT := Lib.hid (take_snoc s k hlt)
      by_cases e : s[k] = 76
      · have h1 : ((s[k].toNat : Int) == 76) = true := by rw [cast76]; simp [e]
        have HE := Lib.hid e
        clear e
        go_wp2
        go_roundw
        case rel =>
          refine ⟨k + 1, by omega, by go_num, ?_, by (repeat' (first | (with_reducible exact hB) | (with_reducible exact Below.refl _ _) | (with_reducible refine Below.alloc ?_ ?_ _) | (with_reducible refine Below.setCell ?_ ?_ _) | (with_reducible refine Below.drew ?_) | (with_reducible refine below_drewN ?_ _) | (with_reducible exact Nat.le_refl _) | (with_reducible exact hB.size) | (simp [go_sem]; done) | (have := hB.size; simp [go_sem]; omega)))⟩
          rw [HT.out, sm_snoc]
          apply mem_drop 0
          · (repeat' (first | (with_reducible exact hM) | (with_reducible apply mem_alloc) | (with_reducible apply mem_set) | (with_reducible apply mem_drew) | (with_reducible apply mem_drewN)))
          · simp [st, HE.out, *]
        case measure => simp [intOf]; omega
      · have h1 : ((s[k].toNat : Int) == 76) = false := by rw [cast76]; simp [e]
        have HE := Lib.hid e
        clear e
        go_wp2
        go_roundw
        case rel =>
          refine ⟨k + 1, by omega, by go_num, ?_, by (repeat' (first | (with_reducible exact hB) | (with_reducible exact Below.refl _ _) | (with_reducible refine Below.alloc ?_ ?_ _) | (with_reducible refine Below.setCell ?_ ?_ _) | (with_reducible refine Below.drew ?_) | (with_reducible refine below_drewN ?_ _) | (with_reducible exact Nat.le_refl _) | (with_reducible exact hB.size) | (simp [go_sem]; done) | (have := hB.size; simp [go_sem]; omega)))⟩
          rw [HT.out, sm_snoc]
          apply mem_drop 0
          · (repeat' (first | (with_reducible exact hM) | (with_reducible apply mem_alloc) | (with_reducible apply mem_set) | (with_reducible apply mem_drew) | (with_reducible apply mem_drewN)))
          · simp [st, HE.out, *]
        case measure => simp [intOf]; omega
    · obtain rfl : k = s.size := by omega
      have HT := Lib.hid (show s.data.toList.take s.size = s.data.toList from List.take_of_length_le (by simp))
      rw [HT.out] at hM hC
      go_wp2
      refine bodyPost_ret (by (simp [results, Tryz.results24, go_sem, *]; try rfl)) rfl ?_
      exact ⟨rfl, by (repeat' (first | (with_reducible exact hB) | (with_reducible exact Below.refl _ _) | (with_reducible refine Below.alloc ?_ ?_ _) | (with_reducible refine Below.setCell ?_ ?_ _) | (with_reducible refine Below.drew ?_) | (with_reducible refine below_drewN ?_ _) | (with_reducible exact Nat.le_refl _) | (with_reducible exact hB.size) | (simp [go_sem]; done) | (have := hB.size; simp [go_sem]; omega)))⟩

theorem sWordMat_ (s : ByteArray) (hs : s.size ≤ 9223372036854775807) (w : World) : Calls Tryz.prog 7 #[.string s] w (fun E' W' => E' = .returned (.tuple #[.agg #[.int .i64 ((wmt s.data.toList).1).a, .int .i64 ((wmt s.data.toList).1).b, .int .i64 ((wmt s.data.toList).1).c, .int .i64 ((wmt s.data.toList).1).d], .bool (wmt s.data.toList).2]) ∧ Below w.heap.size w W') := by
  cases h : wdL s.data.toList
  · have hM := mem_nil w; have hB := Below.refl w.heap.size w; have hC := True.intro
    go_enter Tryz.func7, Tryz.ntmps7
    go_wp2_with (first | (go_at_call 21; refine (sWordIn_ _ hs _).mono ?_; rintro e w' ⟨rfl, rfl⟩) | (go_at_call 22; refine (l1None_ _).mono ?_; rintro e w' ⟨rfl, hb⟩; apply after_call (w := w) hb; (focus ((repeat' (first | (with_reducible exact hM) | (with_reducible apply mem_alloc) | (with_reducible apply mem_set) | (with_reducible apply mem_drew) | (with_reducible apply mem_drewN))); done)); (focus ((repeat' (first | (with_reducible exact hB) | (with_reducible exact Below.refl _ _) | (with_reducible refine Below.alloc ?_ ?_ _) | (with_reducible refine Below.setCell ?_ ?_ _) | (with_reducible refine Below.drew ?_) | (with_reducible refine below_drewN ?_ _) | (with_reducible exact Nat.le_refl _) | (with_reducible exact hB.size) | (simp [go_sem]; done) | (have := hB.size; simp [go_sem]; omega))); done)); (focus ((repeat' (first | (with_reducible exact hB) | (with_reducible exact Below.refl _ _) | (with_reducible refine Below.alloc ?_ ?_ _) | (with_reducible refine Below.setCell ?_ ?_ _) | (with_reducible refine Below.drew ?_) | (with_reducible refine below_drewN ?_ _) | (with_reducible exact Nat.le_refl _) | (with_reducible exact hB.size) | (simp [go_sem]; done) | (have := hB.size; simp [go_sem]; omega))); done)); clear hM hB hb; intro hM hB; (try clear hC); have hC := mem_facts hM; simp at hC))
    refine bodyPost_ret (by (simp [results, Tryz.results7, go_sem, *]; try rfl)) rfl ?_
    exact ⟨by simp [wmt, h, zm], by (repeat' (first | (with_reducible exact hB) | (with_reducible exact Below.refl _ _) | (with_reducible refine Below.alloc ?_ ?_ _) | (with_reducible refine Below.setCell ?_ ?_ _) | (with_reducible refine Below.drew ?_) | (with_reducible refine below_drewN ?_ _) | (with_reducible exact Nat.le_refl _) | (with_reducible exact hB.size) | (simp [go_sem]; done) | (have := hB.size; simp [go_sem]; omega)))⟩
  · have h40 := wdL_size h
    have HE := Lib.hid (show im s.data.toList = sm s.data.toList from by rw [im_pm (by simpa using (by omega : s.size ≤ 60)), sm_pm (by simpa using (by omega : s.size ≤ 60))])
    have hM := mem_nil w; have hB := Below.refl w.heap.size w; have hC := True.intro
    go_enter Tryz.func7, Tryz.ntmps7
    go_wp2_with (first | (go_at_call 21; refine (sWordIn_ _ hs _).mono ?_; rintro e w' ⟨rfl, rfl⟩) | (go_at_call 24; refine (l2MatX_ _ (by omega) _).mono ?_; rintro e w' ⟨rfl, hb⟩; apply after_call (w := w) hb; (focus ((repeat' (first | (with_reducible exact hM) | (with_reducible apply mem_alloc) | (with_reducible apply mem_set) | (with_reducible apply mem_drew) | (with_reducible apply mem_drewN))); done)); (focus ((repeat' (first | (with_reducible exact hB) | (with_reducible exact Below.refl _ _) | (with_reducible refine Below.alloc ?_ ?_ _) | (with_reducible refine Below.setCell ?_ ?_ _) | (with_reducible refine Below.drew ?_) | (with_reducible refine below_drewN ?_ _) | (with_reducible exact Nat.le_refl _) | (with_reducible exact hB.size) | (simp [go_sem]; done) | (have := hB.size; simp [go_sem]; omega))); done)); (focus ((repeat' (first | (with_reducible exact hB) | (with_reducible exact Below.refl _ _) | (with_reducible refine Below.alloc ?_ ?_ _) | (with_reducible refine Below.setCell ?_ ?_ _) | (with_reducible refine Below.drew ?_) | (with_reducible refine below_drewN ?_ _) | (with_reducible exact Nat.le_refl _) | (with_reducible exact hB.size) | (simp [go_sem]; done) | (have := hB.size; simp [go_sem]; omega))); done)); clear hM hB hb; intro hM hB; (try clear hC); have hC := mem_facts hM; simp at hC) | (go_at_call 23; refine (l1Done_ _ _ _ _ _).mono ?_; rintro e w' ⟨rfl, hb⟩; apply after_call (w := w) hb; (focus ((repeat' (first | (with_reducible exact hM) | (with_reducible apply mem_alloc) | (with_reducible apply mem_set) | (with_reducible apply mem_drew) | (with_reducible apply mem_drewN))); done)); (focus ((repeat' (first | (with_reducible exact hB) | (with_reducible exact Below.refl _ _) | (with_reducible refine Below.alloc ?_ ?_ _) | (with_reducible refine Below.setCell ?_ ?_ _) | (with_reducible refine Below.drew ?_) | (with_reducible refine below_drewN ?_ _) | (with_reducible exact Nat.le_refl _) | (with_reducible exact hB.size) | (simp [go_sem]; done) | (have := hB.size; simp [go_sem]; omega))); done)); (focus ((repeat' (first | (with_reducible exact hB) | (with_reducible exact Below.refl _ _) | (with_reducible refine Below.alloc ?_ ?_ _) | (with_reducible refine Below.setCell ?_ ?_ _) | (with_reducible refine Below.drew ?_) | (with_reducible refine below_drewN ?_ _) | (with_reducible exact Nat.le_refl _) | (with_reducible exact hB.size) | (simp [go_sem]; done) | (have := hB.size; simp [go_sem]; omega))); done)); clear hM hB hb; intro hM hB; (try clear hC); have hC := mem_facts hM; simp at hC))
    refine bodyPost_ret (by (simp [results, Tryz.results7, go_sem, *]; try rfl)) rfl ?_
    exact ⟨by simp [wmt, h, HE.out], by (repeat' (first | (with_reducible exact hB) | (with_reducible exact Below.refl _ _) | (with_reducible refine Below.alloc ?_ ?_ _) | (with_reducible refine Below.setCell ?_ ?_ _) | (with_reducible refine Below.drew ?_) | (with_reducible refine below_drewN ?_ _) | (with_reducible exact Nat.le_refl _) | (with_reducible exact hB.size) | (simp [go_sem]; done) | (have := hB.size; simp [go_sem]; omega)))⟩

/-- a word's fraction is told just where the model tells it -/
theorem wfr_eq {l : List UInt8} (h : wdL l = true) : (inB (im l) && numB (wrap64 ((im l).a + (im l).b)) && numB (wrap64 ((im l).c + (im l).d))) = frB (wrap64 ((im l).a + (im l).b)) (wrap64 ((im l).c + (im l).d)) := by
  have h40 : l.length ≤ 40 := by simp only [wdL, Bool.and_eq_true, decide_eq_true_eq] at h; exact h.2
  rw [im_pm (by omega)]
  obtain ⟨k1, k2, k3, k4⟩ := pm_nn h40
  have hf := pm_fp l
  have hp := fp_pos l
  have hg := fp_gcd l
  rw [wrap_mid (by omega), wrap_mid (by omega), hf.1, hf.2, Bool.eq_iff_iff, frB_iff]
  simp only [Bool.and_eq_true, inB_iff, numB_iff, Int.toNat_natCast, hg, and_true]
  omega
end Go.Proofs.YtpalgnfimelioaaGreatDoor

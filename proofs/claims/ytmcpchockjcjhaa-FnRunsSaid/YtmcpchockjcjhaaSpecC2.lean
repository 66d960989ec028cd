
/- The model's words changed and backwards, walked. -/
import Derived.Test.YtmcpchockjcjhaaSpecY
import Derived.Test.YtmcpchockjcjhaaReverse
namespace Go.Proofs.Ytmcpchockjcjhaa
open Go.RowKit

theorem l2Other_ (c : UInt8) (h : letB c = true) (w : World) : Calls Try.prog 46 #[.int .u8 (c.toNat : Int)] w (fun E' W' => E' = .returned (.int .u8 ((oth c).toNat : Int)) ∧ w = W') := by
  rcases letB_iff.1 h with rfl | rfl
  · go_enter Try.func46, Try.ntmps46
    go_wp2
    go_ret
    exact ⟨rfl, rfl⟩
  · go_enter Try.func46, Try.ntmps46
    go_wp2
    go_ret
    exact ⟨rfl, rfl⟩
theorem all_get {s : ByteArray} (h : s.data.toList.all letB = true) {k : Nat} (hk : k < s.size) : letB s[k] = true := by
  rw [List.all_eq_true] at h
  exact h _ (by rw [show s[k] = s.data[k] from rfl]; simp)

theorem row_text {W : World} {base : Nat} {e : TypeId} {v : Value} {xs : List Value} {l : List UInt8} (h : W.ownsRow base e 1 v xs.length xs) (hx : xs = l.map byteV) : W.ownsRow base e 1 v l.length (l.map byteV) := by
  subst hx; rwa [List.length_map] at h
/-- the word with each letter changed -/
def wch (l : List UInt8) : ByteArray × Bool := if wdL l then (txt (l.map oth), true) else (⟨#[]⟩, false)
/-- at the head of round k -/
def ChRel (s : ByteArray) (w : World) (v u : Value) (wr : World) : Prop := ∃ k : Nat, k ≤ s.size ∧ u = .int .i64 k ∧ wr.ownsRow w.heap.size 5 1 v ((s.data.toList.take k).map (fun c => byteV (oth c))).length ((s.data.toList.take k).map (fun c => byteV (oth c))) ∧ Below w.heap.size w wr
set_option maxHeartbeats 2000000 in
theorem sWordChanged_ (s : ByteArray) (hs : s.size ≤ 9223372036854775807) (w : World) : Calls Try.prog 26 #[.string s] w (fun E' W' => E' = .returned (.tuple #[.string (wch s.data.toList).1, .bool (wch s.data.toList).2]) ∧ Below w.heap.size w W') := by
  cases h : wdL s.data.toList
  · have HE := Lib.hid (show wch s.data.toList = (⟨#[]⟩, false) from by simp [wch, h])
    have hM := mem_nil w; have hB := Below.refl w.heap.size w; have hC := True.intro
    go_enter Try.func26, Try.ntmps26
    go_wp2_with (first | (go_at_call 22; refine (sWordIn_ _ hs _).mono ?_; rintro e w' ⟨rfl, rfl⟩))
    go_ret2
    exact ⟨by rw [HE.out]; rfl, by (repeat' (first | (with_reducible exact hB) | (with_reducible exact Below.refl _ _) | (with_reducible refine Below.alloc ?_ ?_ _) | (with_reducible refine Below.setCell ?_ ?_ _) | (with_reducible refine Below.drew ?_) | (with_reducible refine below_drewN ?_ _) | (with_reducible exact Nat.le_refl _) | (with_reducible exact hB.size) | (simp [go_sem]; done) | (have := hB.size; simp [go_sem]; omega)))⟩
  · have h40 := wdL_size h
    have HE := Lib.hid (show wch s.data.toList = (txt (s.data.toList.map oth), true) from by simp [wch, h])
    have HA := Lib.hid (show s.data.toList.all letB = true from by simp only [wdL, Bool.and_eq_true] at h; exact h.1)
    obtain ⟨i0, hi, hz0, hz1, hz2⟩ := info_parts infoU8
    have hM := mem_nil w; have hB := Below.refl w.heap.size w; have hC := True.intro
    go_enter Try.func26, Try.ntmps26
    go_wp2_with (first | (go_at_call 22; refine (sWordIn_ _ hs _).mono ?_; rintro e w' ⟨rfl, rfl⟩))
    go_loopw [4, 5] (ChRel s w) (fun _ u _ => s.size - (intOf u).toNat)
    case atStart =>
      refine ⟨0, Nat.zero_le _, rfl, ?_, by (repeat' (first | (with_reducible exact hB) | (with_reducible exact Below.refl _ _) | (with_reducible refine Below.alloc ?_ ?_ _) | (with_reducible refine Below.setCell ?_ ?_ _) | (with_reducible refine Below.drew ?_) | (with_reducible refine below_drewN ?_ _) | (with_reducible exact Nat.le_refl _) | (with_reducible exact hB.size) | (simp [go_sem]; done) | (have := hB.size; simp [go_sem]; omega)))⟩
      exact World.ownsRow_lit w #[] 0 (Nat.le_refl _) (by decide) rfl
    case round =>
      obtain ⟨k, hk, rfl, hR, hB'⟩ := hrel
      clear hB hM hC h
      have hB := hB'
      clear hB'
      by_cases hlt : k < s.size
      · have hlet := all_get HA.out hlt
        have HT := Lib.hid (take_snoc s k hlt)
        go_wp2_with (first | (go_at_call 46; refine (l2Other_ _ hlet _).mono ?_; rintro e w' ⟨rfl, rfl⟩) | (at_builtin; refine wpList_append_own _ rfl _ _ 22 rfl w.heap.size 5 i0 (.int .u8 0) 1 1 Try.underlying22 hi hz0 hz1 hz2 rfl (by decide) _ _ _ rfl (hR.alloc _) ⟨_, 0, none⟩ 1 1 [.int .u8 ((oth s[k]).toNat : Int)] rfl rfl (cell_one_new _ _ _) (by simp [Value.oneCell']) (by simp [maxLen]; omega) (by first | omega | (simp; omega)) (by have := hB.size; simp; omega) ?_; intro v' w1 hown' hgrow _; obtain ⟨g', cap', rfl⟩ := ownsRow_succ hown'; apply after_app (w := w) (A := wr) (L := []) hgrow (hR.alloc _) (mem_nil _) (by simp) (hB.alloc hB.size _) (by have := hB.size; simp; omega) (keeps_alloc (KeepsOthers.refl wr) _); clear hB hgrow hR; intro _ hB _; have hR := hown'; clear hown'))
        go_roundw
        case rel =>
          refine ⟨k + 1, by omega, by go_num, ?_, by (repeat' (first | (with_reducible exact hB) | (with_reducible exact Below.refl _ _) | (with_reducible refine Below.alloc ?_ ?_ _) | (with_reducible refine Below.setCell ?_ ?_ _) | (with_reducible refine Below.drew ?_) | (with_reducible refine below_drewN ?_ _) | (with_reducible exact Nat.le_refl _) | (with_reducible exact hB.size) | (simp [go_sem]; done) | (have := hB.size; simp [go_sem]; omega)))⟩
          rw [HT.out]
          simpa [byteV, Nat.min_eq_left (show k ≤ s.size by omega)] using hR
        case measure => simp [intOf]; omega
      · obtain rfl : k = s.size := by omega
        have hR2 := row_text (l := s.data.toList.map oth) hR (by rw [List.take_of_length_le (by simp)]; simp)
        have hconv := run_text (P := Try.prog) (src := 22) (dst := 9) (e := 5) Try.underlying22 Try.underlying5 Try.underlying9 hR2
        clear hR hR2
        go_wp2
        go_ret2
        exact ⟨by rw [HE.out]; rfl, by (repeat' (first | (with_reducible exact hB) | (with_reducible exact Below.refl _ _) | (with_reducible refine Below.alloc ?_ ?_ _) | (with_reducible refine Below.setCell ?_ ?_ _) | (with_reducible refine Below.drew ?_) | (with_reducible refine below_drewN ?_ _) | (with_reducible exact Nat.le_refl _) | (with_reducible exact hB.size) | (simp [go_sem]; done) | (have := hB.size; simp [go_sem]; omega)))⟩

/-- at the head of a round: j letters are left -/
def BkRel (s : ByteArray) (w : World) (v u : Value) (wr : World) : Prop := ∃ (j : Nat) (i : Int), j ≤ s.size ∧ u = .int .i64 i ∧ i = (j : Int) - 1 ∧ wr.ownsRow w.heap.size 5 1 v ((s.data.toList.drop j).reverse.map (fun c => byteV (oth c))).length ((s.data.toList.drop j).reverse.map (fun c => byteV (oth c))) ∧ Below w.heap.size w wr
theorem drop_get (s : ByteArray) (j : Nat) (h : j < s.size) : s.data.toList.drop j = s[j] :: s.data.toList.drop (j + 1) := by
  rw [List.drop_eq_getElem_cons (by simpa using h)]; rfl
set_option maxHeartbeats 2000000 in
theorem sWordBack_ (s : ByteArray) (hs : s.size ≤ 9223372036854775807) (w : World) : Calls Try.prog 28 #[.string s] w (fun E' W' => E' = .returned (.tuple #[.string (wbk s.data.toList).1, .bool (wbk s.data.toList).2]) ∧ Below w.heap.size w W') := by
  cases h : wdL s.data.toList
  · have HE := Lib.hid (show wbk s.data.toList = (⟨#[]⟩, false) from by simp [wbk, h])
    have hM := mem_nil w; have hB := Below.refl w.heap.size w; have hC := True.intro
    go_enter Try.func28, Try.ntmps28
    go_wp2_with (first | (go_at_call 22; refine (sWordIn_ _ hs _).mono ?_; rintro e w' ⟨rfl, rfl⟩))
    go_ret2
    exact ⟨by rw [HE.out]; rfl, by (repeat' (first | (with_reducible exact hB) | (with_reducible exact Below.refl _ _) | (with_reducible refine Below.alloc ?_ ?_ _) | (with_reducible refine Below.setCell ?_ ?_ _) | (with_reducible refine Below.drew ?_) | (with_reducible refine below_drewN ?_ _) | (with_reducible exact Nat.le_refl _) | (with_reducible exact hB.size) | (simp [go_sem]; done) | (have := hB.size; simp [go_sem]; omega)))⟩
  · have h40 := wdL_size h
    have HE := Lib.hid (show wbk s.data.toList = (txt (s.data.toList.map oth).reverse, true) from by simp [wbk, h])
    have HA := Lib.hid (show s.data.toList.all letB = true from by simp only [wdL, Bool.and_eq_true] at h; exact h.1)
    obtain ⟨i0, hi, hz0, hz1, hz2⟩ := info_parts infoU8
    have hM := mem_nil w; have hB := Below.refl w.heap.size w; have hC := True.intro
    go_enter Try.func28, Try.ntmps28
    go_wp2_with (first | (go_at_call 22; refine (sWordIn_ _ hs _).mono ?_; rintro e w' ⟨rfl, rfl⟩))
    go_loopw [4, 5] (BkRel s w) (fun _ u _ => (intOf u + 1).toNat)
    case atStart =>
      refine ⟨s.size, (s.size : Int) - 1, Nat.le_refl _, rfl, rfl, ?_, by (repeat' (first | (with_reducible exact hB) | (with_reducible exact Below.refl _ _) | (with_reducible refine Below.alloc ?_ ?_ _) | (with_reducible refine Below.setCell ?_ ?_ _) | (with_reducible refine Below.drew ?_) | (with_reducible refine below_drewN ?_ _) | (with_reducible exact Nat.le_refl _) | (with_reducible exact hB.size) | (simp [go_sem]; done) | (have := hB.size; simp [go_sem]; omega)))⟩
      rw [List.drop_of_length_le (by simp)]
      exact World.ownsRow_lit w #[] 0 (Nat.le_refl _) (by decide) rfl
    case round =>
      obtain ⟨j, i, hj, rfl, hji, hR, hB'⟩ := hrel
      clear hB hM hC h
      have hB := hB'
      have HJ := Lib.hid hji
      clear hB' hji
      by_cases hlt : 0 ≤ i
      · obtain ⟨k, rfl⟩ : ∃ k : Nat, i = k := ⟨i.toNat, by omega⟩
        have hkl : k < s.size := by have := HJ.out; omega
        obtain rfl : j = k + 1 := by have := HJ.out; omega
        have hlet := all_get HA.out hkl
        have HT := Lib.hid (drop_get s k hkl)
        have hlen : (s.data.toList.drop (k + 1)).length ≤ 40 := by simp; omega
        go_wp2_with (first | (go_at_call 46; refine (l2Other_ _ hlet _).mono ?_; rintro e w' ⟨rfl, rfl⟩) | (at_builtin; refine wpList_append_own _ rfl _ _ 22 rfl w.heap.size 5 i0 (.int .u8 0) 1 1 Try.underlying22 hi hz0 hz1 hz2 rfl (by decide) _ _ _ rfl (hR.alloc _) ⟨_, 0, none⟩ 1 1 [.int .u8 ((oth s[k]).toNat : Int)] rfl rfl (cell_one_new _ _ _) (by simp [Value.oneCell']) (by simp [maxLen]; omega) (by first | omega | (simp; omega)) (by have := hB.size; simp; omega) ?_; intro v' w1 hown' hgrow _; obtain ⟨g', cap', rfl⟩ := ownsRow_succ hown'; apply after_app (w := w) (A := wr) (L := []) hgrow (hR.alloc _) (mem_nil _) (by simp) (hB.alloc hB.size _) (by have := hB.size; simp; omega) (keeps_alloc (KeepsOthers.refl wr) _); clear hB hgrow hR; intro _ hB _; have hR := hown'; clear hown'))
        go_roundw
        case rel =>
          refine ⟨k, (k : Int) - 1, by omega, rfl, rfl, ?_, by (repeat' (first | (with_reducible exact hB) | (with_reducible exact Below.refl _ _) | (with_reducible refine Below.alloc ?_ ?_ _) | (with_reducible refine Below.setCell ?_ ?_ _) | (with_reducible refine Below.drew ?_) | (with_reducible refine below_drewN ?_ _) | (with_reducible exact Nat.le_refl _) | (with_reducible exact hB.size) | (simp [go_sem]; done) | (have := hB.size; simp [go_sem]; omega)))⟩
          rw [HT.out]
          simpa [byteV] using hR
        case measure => simp [intOf]
      · obtain rfl : j = 0 := by have := HJ.out; omega
        have hR2 := row_text (l := s.data.toList.reverse.map oth) hR (by simp)
        have hconv := run_text (P := Try.prog) (src := 22) (dst := 9) (e := 5) Try.underlying22 Try.underlying5 Try.underlying9 hR2
        clear hR hR2
        go_wp2
        go_ret2
        exact ⟨by rw [HE.out]; rfl, by (repeat' (first | (with_reducible exact hB) | (with_reducible exact Below.refl _ _) | (with_reducible refine Below.alloc ?_ ?_ _) | (with_reducible refine Below.setCell ?_ ?_ _) | (with_reducible refine Below.drew ?_) | (with_reducible refine below_drewN ?_ _) | (with_reducible exact Nat.le_refl _) | (with_reducible exact hB.size) | (simp [go_sem]; done) | (have := hB.size; simp [go_sem]; omega)))⟩
end Go.Proofs.Ytmcpchockjcjhaa


/- The model's necklaces, walked: a word of both letters, the least that comes round. Under the bound of Go's strings. -/
import Derived.Test.YtmbinhhofgofgaaNeckQ
import Derived.Test.YtmbinhhofgofgaaSpecW
namespace Go.Proofs.Ytmbinhhofgofgaa
open Go.RowKit

theorem contains_snoc (s : ByteArray) (k : Nat) (h : k < s.size) (c : UInt8) : (s.data.toList.take (k + 1)).contains c = ((s.data.toList.take k).contains c || s[k] == c) := by
  rw [take_snoc s k h, Bool.eq_iff_iff]
  simp only [List.contains_iff_mem, List.mem_append, List.mem_singleton, Bool.or_eq_true, beq_iff_eq]
  constructor
  · rintro (h | h)
    · exact .inl h
    · exact .inr h.symm
  · rintro (h | h)
    · exact .inl h
    · exact .inr h.symm
set_option maxHeartbeats 1000000 in
theorem l4Both_ (s : ByteArray) (hs : s.size ≤ 9223372036854775807) (w : World) : Calls Try.prog 22 #[.string s] w (fun E' W' => E' = .returned (.bool (mxB s.data.toList)) ∧ w = W') := by
  have hm : mxB s.data.toList = (wdL s.data.toList && s.data.toList.contains 76 && s.data.toList.contains 82) := rfl
  go_enter Try.func22, Try.ntmps22
  go_wp2
  go_loop [3, 4, 5] (fun l r i => ∃ k : Nat, k ≤ s.size ∧ i = .int .i64 k ∧ l = .bool ((s.data.toList.take k).contains 76) ∧ r = .bool ((s.data.toList.take k).contains 82)) (fun _ _ i => s.size - (intOf i).toNat)
  case atStart => exact ⟨0, Nat.zero_le _, rfl, rfl, rfl⟩
  case round =>
    obtain ⟨k, hk, rfl, rfl, rfl⟩ := hrel
    by_cases hlt : k < s.size
    · have HP := Lib.hid (contains_snoc s k hlt 76)
      have HR := Lib.hid (contains_snoc s k hlt 82)
      have h1 := cast76 s[k]
      have h2 := cast82 s[k]
      generalize (s.data.toList.take k).contains 76 = p at *
      generalize (s.data.toList.take k).contains 82 = q at *
      generalize (s[k] == 76) = u at *
      generalize (s[k] == 82) = v at *
      cases p <;> cases q <;> cases u <;> cases v
      all_goals
        go_wp2
        go_round
        case rel => exact ⟨k + 1, by omega, by go_num, by rw [HP.out]; rfl, by rw [HR.out]; rfl⟩
        case measure => simp [intOf]; omega
    · obtain rfl : k = s.size := by omega
      have HT := Lib.hid (show s.data.toList.take s.size = s.data.toList from List.take_of_length_le (by simp))
      rw [HT.out]
      cases h : wdL s.data.toList <;> cases h1 : s.data.toList.contains 76 <;> cases h2 : s.data.toList.contains 82
      all_goals
        go_wp2_with (go_at_call 46; refine (sWordIn_ _ hs _).mono ?_; rintro e w' ⟨rfl, rfl⟩)
        go_ret
        exact ⟨by rw [hm, h, h1, h2]; rfl, rfl⟩
/-- the least of the first k that come round -/
def nkF (l : List UInt8) (k : Nat) : List UInt8 := ((List.range k).map (rotW l)).foldl mn l
theorem nkF_one (l : List UInt8) : nkF l 1 = l := by
  show mn l (rotW l 0) = l
  rw [rotW_zero, mn_self]
theorem nkF_succ (l : List UInt8) (k : Nat) : nkF l (k + 1) = mn (nkF l k) (rotW l k) := by
  unfold nkF
  rw [List.range_succ, List.map_append, List.foldl_append]; rfl
theorem nkF_all (l : List UInt8) {k : Nat} (h1 : 1 ≤ k) (h : l.length ≤ k) (h2 : k ≤ l.length ∨ k = 1) : nkF l k = nk l := by
  by_cases e : l.length = 0
  · have : l = [] := List.length_eq_zero_iff.1 e
    subst this
    obtain rfl : k = 1 := by simp at h2; omega
    rfl
  · obtain rfl : k = l.length := by omega
    rfl
set_option maxHeartbeats 1000000 in
theorem l4Least_ (s : ByteArray) (hs : s.size ≤ 1000000000) (w : World) : Calls Try.prog 23 #[.string s] w (fun E' W' => E' = .returned (.string (txt (nk s.data.toList))) ∧ Below w.heap.size w W') := by
  have hl : s.data.toList.length = s.size := by simp
  go_enter Try.func23, Try.ntmps23
  go_wp2
  go_loopw [3, 4] (fun b i wr => ∃ k : Nat, 1 ≤ k ∧ (k ≤ s.size ∨ k = 1) ∧ i = .int .i64 k ∧ b = .string (txt (nkF s.data.toList k)) ∧ Below w.heap.size w wr) (fun _ i _ => s.size - (intOf i).toNat)
  case atStart => exact ⟨1, Nat.le_refl _, .inr rfl, rfl, by rw [nkF_one, txt_of], Below.refl _ _⟩
  case round =>
    obtain ⟨k, hk1, hk, rfl, rfl, hB⟩ := hrel
    by_cases hlt : k < s.size
    · have HP := Lib.hid (nkF_succ s.data.toList k)
      have hmin := fun ts t W => run_minT ts t (nkF s.data.toList k) (rotW s.data.toList k) W
      simp only [← rotS_list] at hmin
      unfold rotS at hmin
      generalize nkF s.data.toList k = x at *
      go_wp2
      go_quiet (fail)
      go_wp2
      go_roundw
      case rel => exact ⟨k + 1, by omega, by omega, by go_num, by rw [HP.out], by (repeat' (first | (with_reducible exact hB) | (with_reducible exact Below.refl _ _) | (with_reducible refine Below.alloc ?_ ?_ _) | (with_reducible refine Below.setCell ?_ ?_ _) | (with_reducible refine Below.drew ?_) | (with_reducible refine below_drewN ?_ _) | (with_reducible exact Nat.le_refl _) | (with_reducible exact hB.size) | (simp [go_sem]; done) | (have := hB.size; simp [go_sem]; omega)))⟩
      case measure => simp [intOf]; omega
    · have HP := Lib.hid (nkF_all s.data.toList hk1 (by omega) (by omega))
      rw [HP.out]
      go_wp2
      go_ret
      exact ⟨rfl, by (repeat' (first | (with_reducible exact hB) | (with_reducible exact Below.refl _ _) | (with_reducible refine Below.alloc ?_ ?_ _) | (with_reducible refine Below.setCell ?_ ?_ _) | (with_reducible refine Below.drew ?_) | (with_reducible refine below_drewN ?_ _) | (with_reducible exact Nat.le_refl _) | (with_reducible exact hB.size) | (simp [go_sem]; done) | (have := hB.size; simp [go_sem]; omega)))⟩
theorem sNecklaceIn_ (s : ByteArray) (hs : s.size ≤ 9223372036854775807) (w : World) : Calls Try.prog 8 #[.string s] w (fun E' W' => E' = .returned (.bool (nin s.data.toList)) ∧ Below w.heap.size w W') := by
  cases h : mxB s.data.toList
  · have hM := mem_nil w; have hB := Below.refl w.heap.size w; have hC := True.intro
    go_enter Try.func8, Try.ntmps8
    go_wp2_with (go_at_call 22; refine (l4Both_ _ hs _).mono ?_; rintro e w' ⟨rfl, rfl⟩)
    go_ret
    exact ⟨by simp [nin, h], by (repeat' (first | (with_reducible exact hB) | (with_reducible exact Below.refl _ _) | (with_reducible refine Below.alloc ?_ ?_ _) | (with_reducible refine Below.setCell ?_ ?_ _) | (with_reducible refine Below.drew ?_) | (with_reducible refine below_drewN ?_ _) | (with_reducible exact Nat.le_refl _) | (with_reducible exact hB.size) | (simp [go_sem]; done) | (have := hB.size; simp [go_sem]; omega)))⟩
  · have h40 := mxB_size h
    have hM := mem_nil w; have hB := Below.refl w.heap.size w; have hC := True.intro
    go_enter Try.func8, Try.ntmps8
    go_wp2_with (first | (go_at_call 22; refine (l4Both_ _ hs _).mono ?_; rintro e w' ⟨rfl, rfl⟩) | (go_at_call 23; refine (l4Least_ _ (by omega) _).mono ?_; rintro e w' ⟨rfl, hb⟩; apply after_call (w := w) hb; (focus ((repeat' (first | (with_reducible exact hM) | (with_reducible apply mem_alloc) | (with_reducible apply mem_set) | (with_reducible apply mem_drew) | (with_reducible apply mem_drewN))); done)); (focus ((repeat' (first | (with_reducible exact hB) | (with_reducible exact Below.refl _ _) | (with_reducible refine Below.alloc ?_ ?_ _) | (with_reducible refine Below.setCell ?_ ?_ _) | (with_reducible refine Below.drew ?_) | (with_reducible refine below_drewN ?_ _) | (with_reducible exact Nat.le_refl _) | (with_reducible exact hB.size) | (simp [go_sem]; done) | (have := hB.size; simp [go_sem]; omega))); done)); (focus ((repeat' (first | (with_reducible exact hB) | (with_reducible exact Below.refl _ _) | (with_reducible refine Below.alloc ?_ ?_ _) | (with_reducible refine Below.setCell ?_ ?_ _) | (with_reducible refine Below.drew ?_) | (with_reducible refine below_drewN ?_ _) | (with_reducible exact Nat.le_refl _) | (with_reducible exact hB.size) | (simp [go_sem]; done) | (have := hB.size; simp [go_sem]; omega))); done)); clear hM hB hb; intro hM hB; (try clear hC); have hC := mem_facts hM; simp at hC))
    go_ret
    refine ⟨?_, by (repeat' (first | (with_reducible exact hB) | (with_reducible exact Below.refl _ _) | (with_reducible refine Below.alloc ?_ ?_ _) | (with_reducible refine Below.setCell ?_ ?_ _) | (with_reducible refine Below.drew ?_) | (with_reducible refine below_drewN ?_ _) | (with_reducible exact Nat.le_refl _) | (with_reducible exact hB.size) | (simp [go_sem]; done) | (have := hB.size; simp [go_sem]; omega)))⟩
    rw [ByteArray.toList_eq, ByteArray.toList_eq, txt_list]
    simp only [nin, h, Bool.true_and]
    first | rfl | (rw [BEq.comm]; rfl)
theorem sNecklaceOf_ (s : ByteArray) (hs : s.size ≤ 9223372036854775807) (w : World) : Calls Try.prog 13 #[.string s] w (fun E' W' => E' = .returned (.tuple #[.string (nof s.data.toList).1, .bool (nof s.data.toList).2]) ∧ Below w.heap.size w W') := by
  cases h : mxB s.data.toList
  · have hM := mem_nil w; have hB := Below.refl w.heap.size w; have hC := True.intro
    go_enter Try.func13, Try.ntmps13
    go_wp2_with (go_at_call 22; refine (l4Both_ _ hs _).mono ?_; rintro e w' ⟨rfl, rfl⟩)
    go_ret2
    exact ⟨by simp [nof, h], by (repeat' (first | (with_reducible exact hB) | (with_reducible exact Below.refl _ _) | (with_reducible refine Below.alloc ?_ ?_ _) | (with_reducible refine Below.setCell ?_ ?_ _) | (with_reducible refine Below.drew ?_) | (with_reducible refine below_drewN ?_ _) | (with_reducible exact Nat.le_refl _) | (with_reducible exact hB.size) | (simp [go_sem]; done) | (have := hB.size; simp [go_sem]; omega)))⟩
  · have h40 := mxB_size h
    have hM := mem_nil w; have hB := Below.refl w.heap.size w; have hC := True.intro
    go_enter Try.func13, Try.ntmps13
    go_wp2_with (first | (go_at_call 22; refine (l4Both_ _ hs _).mono ?_; rintro e w' ⟨rfl, rfl⟩) | (go_at_call 23; refine (l4Least_ _ (by omega) _).mono ?_; rintro e w' ⟨rfl, hb⟩; apply after_call (w := w) hb; (focus ((repeat' (first | (with_reducible exact hM) | (with_reducible apply mem_alloc) | (with_reducible apply mem_set) | (with_reducible apply mem_drew) | (with_reducible apply mem_drewN))); done)); (focus ((repeat' (first | (with_reducible exact hB) | (with_reducible exact Below.refl _ _) | (with_reducible refine Below.alloc ?_ ?_ _) | (with_reducible refine Below.setCell ?_ ?_ _) | (with_reducible refine Below.drew ?_) | (with_reducible refine below_drewN ?_ _) | (with_reducible exact Nat.le_refl _) | (with_reducible exact hB.size) | (simp [go_sem]; done) | (have := hB.size; simp [go_sem]; omega))); done)); (focus ((repeat' (first | (with_reducible exact hB) | (with_reducible exact Below.refl _ _) | (with_reducible refine Below.alloc ?_ ?_ _) | (with_reducible refine Below.setCell ?_ ?_ _) | (with_reducible refine Below.drew ?_) | (with_reducible refine below_drewN ?_ _) | (with_reducible exact Nat.le_refl _) | (with_reducible exact hB.size) | (simp [go_sem]; done) | (have := hB.size; simp [go_sem]; omega))); done)); clear hM hB hb; intro hM hB; (try clear hC); have hC := mem_facts hM; simp at hC))
    go_ret2
    exact ⟨by simp [nof, h], by (repeat' (first | (with_reducible exact hB) | (with_reducible exact Below.refl _ _) | (with_reducible refine Below.alloc ?_ ?_ _) | (with_reducible refine Below.setCell ?_ ?_ _) | (with_reducible refine Below.drew ?_) | (with_reducible refine below_drewN ?_ _) | (with_reducible exact Nat.le_refl _) | (with_reducible exact hB.size) | (simp [go_sem]; done) | (have := hB.size; simp [go_sem]; omega)))⟩
end Go.Proofs.Ytmbinhhofgofgaa

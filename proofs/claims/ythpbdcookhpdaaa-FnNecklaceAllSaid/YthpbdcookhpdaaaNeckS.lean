
/- The model's necklaces, walked: a word of both letters, the least that comes round. Under the bound of Go's strings. -/
import Derived.Test.YthpbdcookhpdaaaNeckQ
import Derived.Test.YthpbdcookhpdaaaSpecW
namespace Go.Proofs.Ythpbdcookhpdaaa
open Go.RowKit

theorem contains_snoc (s : ByteArray) (k : Nat) (h : k < s.size) (c : UInt8) : (s.data.toList.take (k + 1)).contains c = ((s.data.toList.take k).contains c || s[k] == c) := by
  rw [take_snoc s k h, Bool.eq_iff_iff]
  simp only [List.contains_iff_mem, List.mem_append, List.mem_singleton, Bool.or_eq_true, beq_iff_eq]
  constructor
  · rintro (h | h)
    · exact .inl h
    · exact .inr h.symm
  · rintro (h | h)
    · exact .inl h
    · exact .inr h.symm
/-- the least of the first k that come round -/
def nkF (l : List UInt8) (k : Nat) : List UInt8 := ((List.range k).map (rotW l)).foldl mn l
theorem nkF_one (l : List UInt8) : nkF l 1 = l := by
  show mn l (rotW l 0) = l
  rw [rotW_zero, mn_self]
theorem nkF_succ (l : List UInt8) (k : Nat) : nkF l (k + 1) = mn (nkF l k) (rotW l k) := by
  unfold nkF
  rw [List.range_succ, List.map_append, List.foldl_append]; rfl
theorem nkF_all (l : List UInt8) {k : Nat} (h1 : 1 ≤ k) (h : l.length ≤ k) (h2 : k ≤ l.length ∨ k = 1) : nkF l k = nk l := by
  by_cases e : l.length = 0
  · have : l = [] := List.length_eq_zero_iff.1 e
    subst this
    obtain rfl : k = 1 := by simp at h2; omega
    rfl
  · obtain rfl : k = l.length := by omega
    rfl
set_option maxHeartbeats 1000000 in
theorem l4Least_ (s : ByteArray) (hs : s.size ≤ 1000000000) (w : World) : Calls Try.prog 30 #[.string s] w (fun E' W' => E' = .returned (.string (txt (nk s.data.toList))) ∧ Below w.heap.size w W') := by
  have hl : s.data.toList.length = s.size := by simp
  go_enter Try.func30, Try.ntmps30
  go_wp2
  go_loopw [3, 4] (fun b i wr => ∃ k : Nat, 1 ≤ k ∧ (k ≤ s.size ∨ k = 1) ∧ i = .int .i64 k ∧ b = .string (txt (nkF s.data.toList k)) ∧ Below w.heap.size w wr) (fun _ i _ => s.size - (intOf i).toNat)
  case atStart => exact ⟨1, Nat.le_refl _, .inr rfl, rfl, by rw [nkF_one, txt_of], Below.refl _ _⟩
  case round =>
    obtain ⟨k, hk1, hk, rfl, rfl, hB⟩ := hrel
    by_cases hlt : k < s.size
    · have HP := Lib.hid (nkF_succ s.data.toList k)
      have hmin := fun ts t W => run_minT ts t (nkF s.data.toList k) (rotW s.data.toList k) W
      simp only [← rotS_list] at hmin
      unfold rotS at hmin
      generalize nkF s.data.toList k = x at *
      go_wp2
      go_quiet (fail)
      go_wp2
      go_roundw
      case rel => exact ⟨k + 1, by omega, by omega, by go_num, by rw [HP.out], by (repeat' (first | (with_reducible exact hB) | (with_reducible exact Below.refl _ _) | (with_reducible refine Below.alloc ?_ ?_ _) | (with_reducible refine Below.setCell ?_ ?_ _) | (with_reducible refine Below.drew ?_) | (with_reducible refine below_drewN ?_ _) | (with_reducible exact Nat.le_refl _) | (with_reducible exact hB.size) | (simp [go_sem]; done) | (have := hB.size; simp [go_sem]; omega)))⟩
      case measure => simp [intOf]; omega
    · have HP := Lib.hid (nkF_all s.data.toList hk1 (by omega) (by omega))
      rw [HP.out]
      go_wp2
      go_ret
      exact ⟨rfl, by (repeat' (first | (with_reducible exact hB) | (with_reducible exact Below.refl _ _) | (with_reducible refine Below.alloc ?_ ?_ _) | (with_reducible refine Below.setCell ?_ ?_ _) | (with_reducible refine Below.drew ?_) | (with_reducible refine below_drewN ?_ _) | (with_reducible exact Nat.le_refl _) | (with_reducible exact hB.size) | (simp [go_sem]; done) | (have := hB.size; simp [go_sem]; omega)))⟩
end Go.Proofs.Ythpbdcookhpdaaa

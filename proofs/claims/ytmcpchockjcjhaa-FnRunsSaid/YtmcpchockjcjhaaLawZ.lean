
/- Runs are all letters: the law walked over every slice of bytes. -/
import Derived.Test.YtmcpchockjcjhaaRunsB
import Derived.Test.YtmcpchockjcjhaaDrawW
namespace Go.Proofs.Ytmcpchockjcjhaa
open Go.RowKit

set_option maxHeartbeats 1000000 in
theorem sameInts_same (v u : Value) (zs : List Int) (hz : zs.length ≤ 1000000000) (w : World) (hv : ReadsI w v zs) (hu : ReadsI w u zs) : Calls Try.prog 18 #[v, u] w (fun E' W' => E' = .returned (.bool true) ∧ Below w.heap.size w W') := by
  obtain ⟨ao, cap, rfl, hc⟩ := hv
  obtain ⟨bo, cap', rfl, hd⟩ := hu
  have HC := Lib.hid hc
  have HD := Lib.hid hd
  clear hc hd
  have hM := mem_nil w; have hB := Below.refl w.heap.size w; have hC := True.intro
  go_enter Try.func18, Try.ntmps18
  go_wp2
  go_loopw [5] (fun i wr => ∃ k : Nat, k ≤ zs.length ∧ i = .int .i64 k ∧ Below w.heap.size w wr) (fun i _ => zs.length - (intOf i).toNat)
  case atStart => exact ⟨0, Nat.zero_le _, rfl, by (repeat' (first | (with_reducible exact hB) | (with_reducible exact Below.refl _ _) | (with_reducible refine Below.alloc ?_ ?_ _) | (with_reducible refine Below.setCell ?_ ?_ _) | (with_reducible refine Below.drew ?_) | (with_reducible refine below_drewN ?_ _) | (with_reducible exact Nat.le_refl _) | (with_reducible exact hB.size) | (simp [go_sem]; done) | (have := hB.size; simp [go_sem]; omega)))⟩
  case round =>
    obtain ⟨k, hk, rfl, hB'⟩ := hrel
    clear hB hM hC
    have hB := hB'
    clear hB'
    by_cases hlt : k < zs.length
    · obtain ⟨g, rfl, h1⟩ := HC.out k hlt
      obtain ⟨g', rfl, h2⟩ := HD.out k hlt
      have c1 : wr.cell? ⟨g, k, none⟩ = some (.int .i64 (zs.getD k 0)) := by rw [hB.cell (World.block_lt_of_cell? w _ h1)]; exact h1
      have c2 : wr.cell? ⟨g', k, none⟩ = some (.int .i64 (zs.getD k 0)) := by rw [hB.cell (World.block_lt_of_cell? w _ h2)]; exact h2
      clear h1 h2
      generalize zs.getD k 0 = z at c1 c2
      go_wp2_with fail
      go_quiet (fail)
      go_wp2
      go_roundw
      case rel => exact ⟨k + 1, by omega, by go_num, by (repeat' (first | (with_reducible exact hB) | (with_reducible exact Below.refl _ _) | (with_reducible refine Below.alloc ?_ ?_ _) | (with_reducible refine Below.setCell ?_ ?_ _) | (with_reducible refine Below.drew ?_) | (with_reducible refine below_drewN ?_ _) | (with_reducible exact Nat.le_refl _) | (with_reducible exact hB.size) | (simp [go_sem]; done) | (have := hB.size; simp [go_sem]; omega)))⟩
      case measure => simp [intOf]; omega
    · obtain rfl : k = zs.length := by omega
      go_wp2
      go_ret
      exact ⟨rfl, by (repeat' (first | (with_reducible exact hB) | (with_reducible exact Below.refl _ _) | (with_reducible refine Below.alloc ?_ ?_ _) | (with_reducible refine Below.setCell ?_ ?_ _) | (with_reducible refine Below.drew ?_) | (with_reducible refine below_drewN ?_ _) | (with_reducible exact Nat.le_refl _) | (with_reducible exact hB.size) | (simp [go_sem]; done) | (have := hB.size; simp [go_sem]; omega)))⟩
theorem isum_take {zs : List Int} {k : Nat} (h : k < zs.length) : isum (zs.take (k + 1)) = isum (zs.take k) + zs.getD k 0 := by
  rw [List.take_succ_eq_append_getElem h, isum_app]
  simp [isum, List.getD, h]
set_option maxHeartbeats 1000000 in
theorem total_ (v : Value) (zs : List Int) (hz : zs.length ≤ 1000000000) (hb : ∀ k, 0 ≤ isum (zs.take k) ∧ isum (zs.take k) ≤ 1000000000) (w : World) (hv : ReadsI w v zs) : Calls Try.prog 19 #[v] w (fun E' W' => E' = .returned (.int .i64 (isum zs)) ∧ w = W') := by
  obtain ⟨ao, cap, rfl, hc⟩ := hv
  have HC := Lib.hid hc
  have HB := Lib.hid hb
  clear hc hb
  go_enter Try.func19, Try.ntmps19
  go_wp2
  go_loop [3, 4] (fun n i => ∃ k : Nat, k ≤ zs.length ∧ i = .int .i64 k ∧ n = .int .i64 (isum (zs.take k))) (fun _ i => zs.length - (intOf i).toNat)
  case atStart => exact ⟨0, Nat.zero_le _, rfl, rfl⟩
  case round =>
    obtain ⟨k, hk, rfl, rfl⟩ := hrel
    by_cases hlt : k < zs.length
    · obtain ⟨g, rfl, h1⟩ := HC.out k hlt
      have HT := Lib.hid (isum_take hlt)
      have b1 := HB.out k
      have b2 := HB.out (k + 1)
      rw [HT.out] at b2
      generalize zs.getD k 0 = z at *
      generalize hs : isum (zs.take k) = a at *
      have HA := Lib.hid hs
      clear hs
      go_wp2
      go_round
      case rel => exact ⟨k + 1, by omega, by go_num, by rw [HT.out]⟩
      case measure => simp [intOf]; omega
    · obtain rfl : k = zs.length := by omega
      rw [List.take_of_length_le (Nat.le_refl _)]
      go_wp2
      go_ret
      exact ⟨rfl, rfl⟩
end Go.Proofs.Ytmcpchockjcjhaa


/- The program's functions on lists of shifts and turns, walked: what is a list; the matrix of a list; the matrix of an argument that is one. Each for every argument; what asks for an error, under the card's condition on the package's variable. -/
import Derived.Test.YtbpaklcibkifnaaTurnR
import Derived.Test.YtbpaklcibkifnaaImplB
import Derived.Test.YtbpaklcibkifnaaAsB
import Derived.Deep.LoopGhost
import Derived.Deep.DeepCutAuto
namespace Go.Proofs.Ytbpaklcibkifnaa
open Go.RowKit

set_option maxHeartbeats 1000000 in
theorem turnsIn_ (v : Value) (zs : List Int) (hz : zs.length ≤ 1000000000) (w : World) (hv : RdO w v zs) : Calls Try.prog 30 #[v] w (fun E' W' => E' = .returned (.bool (lsB zs)) ∧ w = W') := by
  obtain ⟨ao, cap, rfl, _, hc⟩ := hv
  by_cases h1 : zs.length < 1
  · go_enter Try.func30, Try.ntmps30
    go_wp2
    go_ret
    exact ⟨by simp [lsB]; omega, rfl⟩
  · by_cases h2 : 20 < zs.length
    · go_enter Try.func30, Try.ntmps30
      go_wp2
      go_ret
      exact ⟨by simp [lsB]; omega, rfl⟩
    · have HC := Lib.hid hc
      clear hc
      go_enter Try.func30, Try.ntmps30
      go_wp2
      go_loop [4, 15] (fun _ i => ∃ k : Nat, k ≤ zs.length ∧ i = .int .i64 k ∧ (zs.take k).all thB = true) (fun _ i => zs.length - (intOf i).toNat)
      case atStart => exact ⟨0, Nat.zero_le _, rfl, by simp⟩
      case round =>
        obtain ⟨k, hk, rfl, ha⟩ := hrel
        have HA := Lib.hid ha
        clear ha
        by_cases hlt : k < zs.length
        · obtain ⟨g, o, rfl, h3⟩ := HC.out k hlt
          have HS := Lib.hid (all_take_succ (p := thB) hlt)
          have HF := Lib.hid (all_false_of (p := thB) hlt)
          generalize zs.getD k 0 = z at *
          by_cases h4 : z < -1000
          · go_wp2
            go_ret
            exact ⟨by simp [lsB, HF.out (by simp [thB]; omega)], rfl⟩
          · by_cases h5 : 1000 < z
            · go_wp2
              go_ret
              exact ⟨by simp [lsB, HF.out (by simp [thB]; omega)], rfl⟩
            · go_wp2
              go_round
              case rel => exact ⟨k + 1, by omega, by go_num, by rw [HS.out, HA.out]; simp [thB]; omega⟩
              case measure => simp [intOf]; omega
        · obtain rfl : k = zs.length := by omega
          go_wp2
          go_ret
          have := HA.out
          rw [List.take_of_length_le (Nat.le_refl _)] at this
          exact ⟨by simp [lsB, this]; omega, rfl⟩

/-- at the head of a round of 'mat': g more numbers at most -/
def MtRel (zs : List Int) (w w0 : World) (g : Nat) (i : Value) (wr : World) : Prop := ∃ (k : Nat) (m : M), k + g = zs.length - 1 ∧ i = .int .i64 k ∧ inB m = true ∧ xd m = 1 ∧ lmat zs = matF m (zs.drop (k + 1)) ∧
  Mem wr [(w0.heap.size, #[.int .i64 m.a, .int .i64 m.b, .int .i64 m.c, .int .i64 m.d], 24), (w.heap.size, #[.int .i64 0, .int .i64 0, .int .i64 0, .int .i64 0], 24)] ∧ Below w.heap.size w wr
/-- what 'mat' returns -/
def mtr1 (zs : List Int) : M := if (lmat zs).2 then (lmat zs).1 else zm
end Go.Proofs.Ytbpaklcibkifnaa

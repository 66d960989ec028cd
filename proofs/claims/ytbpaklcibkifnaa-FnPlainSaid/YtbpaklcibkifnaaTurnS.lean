
/- The model's functions on lists of shifts and turns, walked: what is a list; the matrix of a list; its trace; which lists are plain. Each for every argument. -/
import Derived.Test.YtbpaklcibkifnaaTurnR
import Derived.Test.YtbpaklcibkifnaaSpecA
import Derived.Deep.LoopGhost
import Derived.Deep.DeepCutAuto
namespace Go.Proofs.Ytbpaklcibkifnaa
open Go.RowKit

theorem l6B_th (x : Int) : l6B x (-1000) 1000 = thB x := rfl
theorem l6B_len (n : Nat) : l6B (n : Int) 1 20 = (decide (1 ≤ n) && decide (n ≤ 20)) := by rw [Bool.eq_iff_iff]; simp [l6B]; omega
set_option maxHeartbeats 1000000 in
theorem l3List_ (v : Value) (zs : List Int) (hz : zs.length ≤ 1000000000) (w : World) (hv : RdO w v zs) : Calls Try.prog 33 #[v] w (fun E' W' => E' = .returned (.bool (lsB zs)) ∧ w = W') := by
  obtain ⟨ao, cap, rfl, _, hc⟩ := hv
  have HC := Lib.hid hc
  clear hc
  go_enter Try.func33, Try.ntmps33
  go_wp2
  go_loop [3] (fun i => ∃ k : Nat, k ≤ zs.length ∧ i = .int .i64 k ∧ (zs.take k).all thB = true) (fun i => zs.length - (intOf i).toNat)
  case atStart => exact ⟨0, Nat.zero_le _, rfl, by simp⟩
  case round =>
    obtain ⟨k, hk, rfl, ha⟩ := hrel
    have HA := Lib.hid ha
    clear ha
    by_cases hlt : k < zs.length
    · obtain ⟨g, o, rfl, h3⟩ := HC.out k hlt
      have HS := Lib.hid (all_take_succ (p := thB) hlt)
      have HF := Lib.hid (all_false_of (p := thB) hlt)
      generalize zs.getD k 0 = z at *
      have hth := l6B_th z
      cases h4 : thB z
      · rw [h4] at hth
        go_wp2_with (first | (go_at_call 32; refine (l6In_ _ _ _ _).mono ?_; rintro e w' ⟨rfl, rfl⟩))
        go_ret
        exact ⟨by simp [lsB, HF.out h4], rfl⟩
      · rw [h4] at hth
        go_wp2_with (first | (go_at_call 32; refine (l6In_ _ _ _ _).mono ?_; rintro e w' ⟨rfl, rfl⟩))
        go_round
        case rel => exact ⟨k + 1, by omega, by go_num, by rw [HS.out, HA.out, h4]; rfl⟩
        case measure => simp [intOf]; omega
    · obtain rfl : k = zs.length := by omega
      go_wp2_with (first | (go_at_call 32; refine (l6In_ _ _ _ _).mono ?_; rintro e w' ⟨rfl, rfl⟩))
      go_ret
      have := HA.out
      rw [List.take_of_length_le (Nat.le_refl _)] at this
      exact ⟨by simp [lsB, this, l6B_len], rfl⟩

/-- a matrix times the turn, and times a shift, as the model makes them -/
def ltu (m : M) : M := ⟨m.b, wrap64 (0 - m.a), m.d, wrap64 (0 - m.c)⟩
def lsh (m : M) (x : Int) : M := ⟨m.a, wrap64 (wrap64 (m.a * x) + m.b), m.c, wrap64 (wrap64 (m.c * x) + m.d)⟩
theorem lsh_step {m : M} {x : Int} (hm : inB m = true) (hx : -1000 ≤ x ∧ x ≤ 1000) : lsh (ltu m) x = stp m x := step_s hm hx
theorem lsh_unit {x : Int} (hx : -1000 ≤ x ∧ x ≤ 1000) : lsh ⟨1, 0, 0, 1⟩ x = sh x := by
  apply M.ext' <;> simp only [lsh, sh, Int.one_mul, Int.zero_mul]
  · rw [wrap_mid (x := x) (by omega), Int.add_zero, wrap_mid (by omega)]
  · rw [wrap_mid (x := 0) (by omega), wrap_mid (by omega)]; rfl
theorem l3turn_ (a b c d : Int) (w : World) : Calls Try.prog 36 #[.agg #[.int .i64 a, .int .i64 b, .int .i64 c, .int .i64 d]] w (fun E' W' => E' = .returned (.agg #[.int .i64 ((ltu ⟨a, b, c, d⟩)).a, .int .i64 ((ltu ⟨a, b, c, d⟩)).b, .int .i64 ((ltu ⟨a, b, c, d⟩)).c, .int .i64 ((ltu ⟨a, b, c, d⟩)).d]) ∧ Below w.heap.size w W') := by
  have hM := mem_nil w; have hB := Below.refl w.heap.size w; have hC := True.intro
  go_enter Try.func36, Try.ntmps36
  go_wp2
  refine bodyPost_ret (by (simp [results, Try.results36, go_sem, *]; try rfl)) rfl ?_
  exact ⟨by simp [ltu], by (repeat' (first | (with_reducible exact hB) | (with_reducible exact Below.refl _ _) | (with_reducible refine Below.alloc ?_ ?_ _) | (with_reducible refine Below.setCell ?_ ?_ _) | (with_reducible refine Below.drew ?_) | (with_reducible refine below_drewN ?_ _) | (with_reducible exact Nat.le_refl _) | (with_reducible exact hB.size) | (simp [go_sem]; done) | (have := hB.size; simp [go_sem]; omega)))⟩
/-- at the head of a round of the model's 'TurnOf': g more numbers at most -/
def SoRel (zs : List Int) (w : World) (b0 : Nat) (g : Nat) (i : Value) (wr : World) : Prop := ∃ (k : Nat) (m : M), k + g = zs.length ∧ 1 ≤ k ∧ i = .int .i64 k ∧ inB m = true ∧ xd m = 1 ∧ lmat zs = matF m (zs.drop k) ∧
  Mem wr [(b0, #[.int .i64 m.a, .int .i64 m.b, .int .i64 m.c, .int .i64 m.d], 24), (w.heap.size, #[.int .i64 0, .int .i64 0, .int .i64 0, .int .i64 0], 24)] ∧ Below w.heap.size w wr
end Go.Proofs.Ytbpaklcibkifnaa

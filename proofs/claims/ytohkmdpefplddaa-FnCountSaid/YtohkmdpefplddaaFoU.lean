
/- How many pairs have a value of a positive form, walked: the model's. No condition. -/
import Derived.Test.YtohkmdpefplddaaFoE
namespace Go.Proofs.Ytohkmdpefplddaa
open Go.RowKit

set_option maxHeartbeats 1000000 in
theorem sFormCount_ (a b c n : Int) (w : World) : Calls Try.prog 13 #[.agg #[.int .i64 a, .int .i64 b, .int .i64 c], .int .i64 n] w (fun E' W' => E' = .returned (.tuple #[.int .i64 (fCnt ⟨a, b, c⟩ n).1, .bool (fCnt ⟨a, b, c⟩ n).2]) ∧ Below w.heap.size w W') := by
  have HR := Lib.hid (show fCnt ⟨a, b, c⟩ n = if (inF ⟨a, b, c⟩ && posB ⟨a, b, c⟩) && (decide (0 ≤ n) && decide (n ≤ 400)) then (((cnt8 ⟨a, b, c⟩ n 81 : Nat) : Int), true) else (0, false) from rfl)
  have q0 : ∀ W, Calls Try.prog 17 #[.int .i64 n, .int .i64 0, .int .i64 400] W (fun E' W' => E' = .returned (.bool (decide (0 ≤ n) && decide (n ≤ 400))) ∧ W = W') := fun W => l6In_ n 0 400 W
  generalize fCnt ⟨a, b, c⟩ n = R at *
  cases h1 : inF ⟨a, b, c⟩ && posB ⟨a, b, c⟩
  · rw [h1] at HR
    have hM := mem_nil w; have hB := Below.refl w.heap.size w; have hC := True.intro
    go_enter Try.func13, Try.ntmps13
    go_wp2_with (first | (go_at_call 25; refine (l8Positive_ _ _ _ _).mono ?_; rintro e w' ⟨rfl, hb⟩; apply after_call (w := w) hb; (focus ((repeat' (first | (with_reducible exact hM) | (with_reducible apply mem_alloc) | (with_reducible apply mem_set) | (with_reducible apply mem_drew) | (with_reducible apply mem_drewN))); done)); (focus ((repeat' (first | (with_reducible exact hB) | (with_reducible exact Below.refl _ _) | (with_reducible refine Below.alloc ?_ ?_ _) | (with_reducible refine Below.setCell ?_ ?_ _) | (with_reducible refine Below.drew ?_) | (with_reducible refine below_drewN ?_ _) | (with_reducible exact Nat.le_refl _) | (with_reducible exact hB.size) | (simp [go_sem]; done) | (have := hB.size; simp [go_sem]; omega))); done)); (focus ((repeat' (first | (with_reducible exact hB) | (with_reducible exact Below.refl _ _) | (with_reducible refine Below.alloc ?_ ?_ _) | (with_reducible refine Below.setCell ?_ ?_ _) | (with_reducible refine Below.drew ?_) | (with_reducible refine below_drewN ?_ _) | (with_reducible exact Nat.le_refl _) | (with_reducible exact hB.size) | (simp [go_sem]; done) | (have := hB.size; simp [go_sem]; omega))); done)); clear hM hB hb; intro hM hB; (try clear hC); have hC := mem_facts hM; simp at hC))
    go_ret2
    exact ⟨by rw [HR.out]; rfl, by (repeat' (first | (with_reducible exact hB) | (with_reducible exact Below.refl _ _) | (with_reducible refine Below.alloc ?_ ?_ _) | (with_reducible refine Below.setCell ?_ ?_ _) | (with_reducible refine Below.drew ?_) | (with_reducible refine below_drewN ?_ _) | (with_reducible exact Nat.le_refl _) | (with_reducible exact hB.size) | (simp [go_sem]; done) | (have := hB.size; simp [go_sem]; omega)))⟩
  · cases h2 : (decide (0 ≤ n) && decide (n ≤ 400))
    · rw [h1, h2] at HR
      rw [h2] at q0
      have hM := mem_nil w; have hB := Below.refl w.heap.size w; have hC := True.intro
      go_enter Try.func13, Try.ntmps13
      go_wp2_with (first | (go_at_call 25; refine (l8Positive_ _ _ _ _).mono ?_; rintro e w' ⟨rfl, hb⟩; apply after_call (w := w) hb; (focus ((repeat' (first | (with_reducible exact hM) | (with_reducible apply mem_alloc) | (with_reducible apply mem_set) | (with_reducible apply mem_drew) | (with_reducible apply mem_drewN))); done)); (focus ((repeat' (first | (with_reducible exact hB) | (with_reducible exact Below.refl _ _) | (with_reducible refine Below.alloc ?_ ?_ _) | (with_reducible refine Below.setCell ?_ ?_ _) | (with_reducible refine Below.drew ?_) | (with_reducible refine below_drewN ?_ _) | (with_reducible exact Nat.le_refl _) | (with_reducible exact hB.size) | (simp [go_sem]; done) | (have := hB.size; simp [go_sem]; omega))); done)); (focus ((repeat' (first | (with_reducible exact hB) | (with_reducible exact Below.refl _ _) | (with_reducible refine Below.alloc ?_ ?_ _) | (with_reducible refine Below.setCell ?_ ?_ _) | (with_reducible refine Below.drew ?_) | (with_reducible refine below_drewN ?_ _) | (with_reducible exact Nat.le_refl _) | (with_reducible exact hB.size) | (simp [go_sem]; done) | (have := hB.size; simp [go_sem]; omega))); done)); clear hM hB hb; intro hM hB; (try clear hC); have hC := mem_facts hM; simp at hC) | (go_at_call 17; refine (q0 _).mono ?_; rintro e w' ⟨rfl, rfl⟩))
      go_ret2
      exact ⟨by rw [HR.out]; rfl, by (repeat' (first | (with_reducible exact hB) | (with_reducible exact Below.refl _ _) | (with_reducible refine Below.alloc ?_ ?_ _) | (with_reducible refine Below.setCell ?_ ?_ _) | (with_reducible refine Below.drew ?_) | (with_reducible refine below_drewN ?_ _) | (with_reducible exact Nat.le_refl _) | (with_reducible exact hB.size) | (simp [go_sem]; done) | (have := hB.size; simp [go_sem]; omega)))⟩
    · rw [h1, h2] at HR
      rw [h2] at q0
      have h3 := h1
      rw [Bool.and_eq_true] at h3
      have HIN := Lib.hid h3.1
      clear h3 h2
      have hM := mem_nil w; have hB := Below.refl w.heap.size w; have hC := True.intro
      go_enter Try.func13, Try.ntmps13
      go_wp2_with (first | (go_at_call 25; refine (l8Positive_ _ _ _ _).mono ?_; rintro e w' ⟨rfl, hb⟩; apply after_call (w := w) hb; (focus ((repeat' (first | (with_reducible exact hM) | (with_reducible apply mem_alloc) | (with_reducible apply mem_set) | (with_reducible apply mem_drew) | (with_reducible apply mem_drewN))); done)); (focus ((repeat' (first | (with_reducible exact hB) | (with_reducible exact Below.refl _ _) | (with_reducible refine Below.alloc ?_ ?_ _) | (with_reducible refine Below.setCell ?_ ?_ _) | (with_reducible refine Below.drew ?_) | (with_reducible refine below_drewN ?_ _) | (with_reducible exact Nat.le_refl _) | (with_reducible exact hB.size) | (simp [go_sem]; done) | (have := hB.size; simp [go_sem]; omega))); done)); (focus ((repeat' (first | (with_reducible exact hB) | (with_reducible exact Below.refl _ _) | (with_reducible refine Below.alloc ?_ ?_ _) | (with_reducible refine Below.setCell ?_ ?_ _) | (with_reducible refine Below.drew ?_) | (with_reducible refine below_drewN ?_ _) | (with_reducible exact Nat.le_refl _) | (with_reducible exact hB.size) | (simp [go_sem]; done) | (have := hB.size; simp [go_sem]; omega))); done)); clear hM hB hb; intro hM hB; (try clear hC); have hC := mem_facts hM; simp at hC) | (go_at_call 17; refine (q0 _).mono ?_; rintro e w' ⟨rfl, rfl⟩))
      go_loopw [6, 7] (fun vp vx wr => CtO ⟨a, b, c⟩ n w vp vx wr) (fun _ vx _ => (41 - intOf vx).toNat)
      case atStart =>
        refine ⟨0, by omega, rfl, rfl, ?_, by (repeat' (first | (with_reducible exact hB) | (with_reducible exact Below.refl _ _) | (with_reducible refine Below.alloc ?_ ?_ _) | (with_reducible refine Below.setCell ?_ ?_ _) | (with_reducible refine Below.drew ?_) | (with_reducible refine below_drewN ?_ _) | (with_reducible exact Nat.le_refl _) | (with_reducible exact hB.size) | (simp [go_sem]; done) | (have := hB.size; simp [go_sem]; omega)))⟩
        apply mem_drop 0
        · (repeat' (first | (with_reducible exact hM) | (with_reducible apply mem_alloc) | (with_reducible apply mem_set) | (with_reducible apply mem_drew) | (with_reducible apply mem_drewN)))
        · simp
      case round =>
        obtain ⟨k, hk, rfl, rfl, hM', hB'⟩ := hrel
        (try clear hC); clear hM hB; have hM := hM'; have hB := hB'; clear hM' hB'; have hC := mem_facts hM; simp at hC
        have hle := cnt8_le ⟨a, b, c⟩ n k
        by_cases hlt : k < 81
        · have e0 : decide ((k : Int) - 40 ≤ 40) = true := decide_eq_true (by omega)
          have HF := Lib.hid (show cnt8 ⟨a, b, c⟩ n (k + 1) = cnt8 ⟨a, b, c⟩ n k + rowc8 ⟨a, b, c⟩ n ((k : Int) - 40) 81 from rfl)
          go_wp2_with fail
          go_loopw [6, 8] (fun vp vy wr => CtI ⟨a, b, c⟩ n k w vp vy wr) (fun _ vy _ => (41 - intOf vy).toNat)
          case atStart =>
            refine ⟨0, by omega, rfl, rfl, ?_, by (repeat' (first | (with_reducible exact hB) | (with_reducible exact Below.refl _ _) | (with_reducible refine Below.alloc ?_ ?_ _) | (with_reducible refine Below.setCell ?_ ?_ _) | (with_reducible refine Below.drew ?_) | (with_reducible refine below_drewN ?_ _) | (with_reducible exact Nat.le_refl _) | (with_reducible exact hB.size) | (simp [go_sem]; done) | (have := hB.size; simp [go_sem]; omega)))⟩
            apply mem_drop 0
            · (repeat' (first | (with_reducible exact hM) | (with_reducible apply mem_alloc) | (with_reducible apply mem_set) | (with_reducible apply mem_drew) | (with_reducible apply mem_drewN)))
            · simp
          case round =>
            obtain ⟨m, hm, rfl, rfl, hM', hB'⟩ := hrel
            (try clear hC); clear hM hB; have hM := hM'; have hB := hB'; clear hM' hB'; have hC := mem_facts hM; simp at hC
            have hr := rowc8_le ⟨a, b, c⟩ n ((k : Int) - 40) m
            by_cases hlm : m < 81
            · have e1 : decide ((m : Int) - 40 ≤ 40) = true := decide_eq_true (by omega)
              have c1 := fun W => l8Value8_ a b c ((k : Int) - 40) ((m : Int) - 40) HIN.out (by omega) (by omega) W
              have HS := Lib.hid (show rowc8 ⟨a, b, c⟩ n ((k : Int) - 40) (m + 1) = rowc8 ⟨a, b, c⟩ n ((k : Int) - 40) m + if vF ⟨a, b, c⟩ ((k : Int) - 40) ((m : Int) - 40) = n then 1 else 0 from rfl)
              generalize vF ⟨a, b, c⟩ ((k : Int) - 40) ((m : Int) - 40) = V at *
              by_cases hv : V = n
              · have hv1 : (V == n) = true := by rw [hv]; exact beq_self_eq_true n
                have HD := Lib.hid (show rowc8 ⟨a, b, c⟩ n ((k : Int) - 40) (m + 1) = rowc8 ⟨a, b, c⟩ n ((k : Int) - 40) m + 1 by rw [HS.out, if_pos hv])
                clear HS hv
                go_wp2_with (go_at_call 26; refine (c1 _).mono ?_; rintro e w' ⟨rfl, hb⟩; apply after_call (w := w) hb; (focus ((repeat' (first | (with_reducible exact hM) | (with_reducible apply mem_alloc) | (with_reducible apply mem_set) | (with_reducible apply mem_drew) | (with_reducible apply mem_drewN))); done)); (focus ((repeat' (first | (with_reducible exact hB) | (with_reducible exact Below.refl _ _) | (with_reducible refine Below.alloc ?_ ?_ _) | (with_reducible refine Below.setCell ?_ ?_ _) | (with_reducible refine Below.drew ?_) | (with_reducible refine below_drewN ?_ _) | (with_reducible exact Nat.le_refl _) | (with_reducible exact hB.size) | (simp [go_sem]; done) | (have := hB.size; simp [go_sem]; omega))); done)); (focus ((repeat' (first | (with_reducible exact hB) | (with_reducible exact Below.refl _ _) | (with_reducible refine Below.alloc ?_ ?_ _) | (with_reducible refine Below.setCell ?_ ?_ _) | (with_reducible refine Below.drew ?_) | (with_reducible refine below_drewN ?_ _) | (with_reducible exact Nat.le_refl _) | (with_reducible exact hB.size) | (simp [go_sem]; done) | (have := hB.size; simp [go_sem]; omega))); done)); clear hM hB hb; intro hM hB; (try clear hC); have hC := mem_facts hM; simp at hC)
                go_roundw
                case rel =>
                  refine ⟨m + 1, by omega, by rw [HD.out]; go_num, by go_num, ?_, by (repeat' (first | (with_reducible exact hB) | (with_reducible exact Below.refl _ _) | (with_reducible refine Below.alloc ?_ ?_ _) | (with_reducible refine Below.setCell ?_ ?_ _) | (with_reducible refine Below.drew ?_) | (with_reducible refine below_drewN ?_ _) | (with_reducible exact Nat.le_refl _) | (with_reducible exact hB.size) | (simp [go_sem]; done) | (have := hB.size; simp [go_sem]; omega)))⟩
                  apply mem_drop 0
                  · (repeat' (first | (with_reducible exact hM) | (with_reducible apply mem_alloc) | (with_reducible apply mem_set) | (with_reducible apply mem_drew) | (with_reducible apply mem_drewN)))
                  · simp
                case measure => simp [intOf]; omega
              · have hv1 : (V == n) = false := by simp [hv]
                have HD := Lib.hid (show rowc8 ⟨a, b, c⟩ n ((k : Int) - 40) (m + 1) = rowc8 ⟨a, b, c⟩ n ((k : Int) - 40) m by rw [HS.out, if_neg hv, Nat.add_zero])
                clear HS
                go_wp2_with (go_at_call 26; refine (c1 _).mono ?_; rintro e w' ⟨rfl, hb⟩; apply after_call (w := w) hb; (focus ((repeat' (first | (with_reducible exact hM) | (with_reducible apply mem_alloc) | (with_reducible apply mem_set) | (with_reducible apply mem_drew) | (with_reducible apply mem_drewN))); done)); (focus ((repeat' (first | (with_reducible exact hB) | (with_reducible exact Below.refl _ _) | (with_reducible refine Below.alloc ?_ ?_ _) | (with_reducible refine Below.setCell ?_ ?_ _) | (with_reducible refine Below.drew ?_) | (with_reducible refine below_drewN ?_ _) | (with_reducible exact Nat.le_refl _) | (with_reducible exact hB.size) | (simp [go_sem]; done) | (have := hB.size; simp [go_sem]; omega))); done)); (focus ((repeat' (first | (with_reducible exact hB) | (with_reducible exact Below.refl _ _) | (with_reducible refine Below.alloc ?_ ?_ _) | (with_reducible refine Below.setCell ?_ ?_ _) | (with_reducible refine Below.drew ?_) | (with_reducible refine below_drewN ?_ _) | (with_reducible exact Nat.le_refl _) | (with_reducible exact hB.size) | (simp [go_sem]; done) | (have := hB.size; simp [go_sem]; omega))); done)); clear hM hB hb; intro hM hB; (try clear hC); have hC := mem_facts hM; simp at hC)
                go_roundw
                case rel =>
                  refine ⟨m + 1, by omega, by rw [HD.out]; go_num, by go_num, ?_, by (repeat' (first | (with_reducible exact hB) | (with_reducible exact Below.refl _ _) | (with_reducible refine Below.alloc ?_ ?_ _) | (with_reducible refine Below.setCell ?_ ?_ _) | (with_reducible refine Below.drew ?_) | (with_reducible refine below_drewN ?_ _) | (with_reducible exact Nat.le_refl _) | (with_reducible exact hB.size) | (simp [go_sem]; done) | (have := hB.size; simp [go_sem]; omega)))⟩
                  apply mem_drop 0
                  · (repeat' (first | (with_reducible exact hM) | (with_reducible apply mem_alloc) | (with_reducible apply mem_set) | (with_reducible apply mem_drew) | (with_reducible apply mem_drewN)))
                  · simp
                case measure => simp [intOf]; omega
            · obtain rfl : m = 81 := by omega
              go_wp2_with fail
              go_roundw
              case rel =>
                refine ⟨k + 1, by omega, by rw [HF.out], by go_num, ?_, by (repeat' (first | (with_reducible exact hB) | (with_reducible exact Below.refl _ _) | (with_reducible refine Below.alloc ?_ ?_ _) | (with_reducible refine Below.setCell ?_ ?_ _) | (with_reducible refine Below.drew ?_) | (with_reducible refine below_drewN ?_ _) | (with_reducible exact Nat.le_refl _) | (with_reducible exact hB.size) | (simp [go_sem]; done) | (have := hB.size; simp [go_sem]; omega)))⟩
                apply mem_drop 0
                · (repeat' (first | (with_reducible exact hM) | (with_reducible apply mem_alloc) | (with_reducible apply mem_set) | (with_reducible apply mem_drew) | (with_reducible apply mem_drewN)))
                · simp
              case measure => simp [intOf]; omega
        · obtain rfl : k = 81 := by omega
          go_wp2
          go_ret2
          exact ⟨by rw [HR.out]; rfl, by (repeat' (first | (with_reducible exact hB) | (with_reducible exact Below.refl _ _) | (with_reducible refine Below.alloc ?_ ?_ _) | (with_reducible refine Below.setCell ?_ ?_ _) | (with_reducible refine Below.drew ?_) | (with_reducible refine below_drewN ?_ _) | (with_reducible exact Nat.le_refl _) | (with_reducible exact hB.size) | (simp [go_sem]; done) | (have := hB.size; simp [go_sem]; omega)))⟩
end Go.Proofs.Ytohkmdpefplddaa

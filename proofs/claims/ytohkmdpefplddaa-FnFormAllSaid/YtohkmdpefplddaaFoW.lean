
/- All plain short forms with a discriminant, walked: the model's. No condition. -/
import Derived.Test.YtohkmdpefplddaaFoV
import Derived.Test.YtohkmdpefplddaaSpecA
namespace Go.Proofs.Ytohkmdpefplddaa
open Go.RowKit

theorem igcd_step8 (x y : Int) : Int.gcd y (x.tmod y) = Int.gcd x y := by
  rw [Int.gcd, Int.gcd, Int.natAbs_tmod, Nat.gcd_comm, ← Nat.gcd_rec, Nat.gcd_comm]
set_option maxHeartbeats 1000000 in
theorem igcd8_ (a b : Int) (ha : -4000000000000 ≤ a ∧ a ≤ 4000000000000) (hb : -4000000000000 ≤ b ∧ b ≤ 4000000000000) (w : World) : Calls Try.prog 18 #[.int .i64 a, .int .i64 b] w (fun E' W' => E' = .returned (.int .i64 (Int.gcd a b : Nat)) ∧ w = W') := by
  go_enter Try.func18, Try.ntmps18
  go_wp2
  go_loop [0, 1] (fun v0 v1 => ∃ x y : Int, v0 = .int .i64 x ∧ v1 = .int .i64 y ∧ (-4000000000000 ≤ x ∧ x ≤ 4000000000000) ∧ (-4000000000000 ≤ y ∧ y ≤ 4000000000000) ∧ Int.gcd x y = Int.gcd a b) (fun _ v1 => (intOf v1).natAbs)
  case atStart => exact ⟨a, b, rfl, rfl, ha, hb, rfl⟩
  case round =>
    obtain ⟨x, y, rfl, rfl, hx, hy, hg⟩ := hrel
    have HG := Lib.hid hg
    clear hg
    by_cases h0 : y = 0
    · subst h0
      have h1 : wrap64 (0 - x) = 0 - x := wrap_mid (by omega)
      have h4 : wrap64 (-x) = -x := wrap_mid (by omega)
      by_cases hn : x < 0
      · have h2 : (0 - x > x) = True := by simp; omega
        have h3 : (-x > x) = True := by simp; omega
        go_wp2
        go_ret
        have := HG.out
        rw [Int.gcd_zero_right] at this
        refine ⟨?_, rfl⟩
        rw [← this]
        simp
        omega
      · have h2 : (0 - x > x) = False := by simp; omega
        have h3 : (-x > x) = False := by simp; omega
        go_wp2
        go_ret
        have := HG.out
        rw [Int.gcd_zero_right] at this
        refine ⟨?_, rfl⟩
        rw [← this]
        simp
        omega
    · have hy0 : (y == 0) = false := by simp; omega
      have hy1 : (y != 0) = true := by simp; omega
      have hy2 : (y = 0) = False := by simp; omega
      have hlt : (x.tmod y).natAbs < y.natAbs := by rw [Int.natAbs_tmod]; exact Nat.mod_lt _ (by omega)
      have HE := Lib.hid (igcd_step8 x y)
      go_wp2
      go_round
      case rel => exact ⟨y, x.tmod y, rfl, by simp, by omega, by omega, by rw [HE.out, HG.out]⟩
      case measure => exact hlt
def FaM (d a : Nat) (w : World) (v3 v5 : Value) (wr : World) : Prop := ∃ n : Nat, 1 ≤ n ∧ n ≤ 2 * a + 1 ∧ v5 = .int .i64 ((n : Int) - (a : Int)) ∧ FormRow w.heap.size wr v3 (allF d (a - 1) ++ rowF d a n) ∧ Below w.heap.size w wr
set_option maxHeartbeats 1000000 in
theorem sFormAll_ (x : Int) (w : World) : Calls Try.prog 7 #[.int .i64 x] w (FaOk x w) := by
  cases hx : l6B x 1 400
  · have HE := Lib.hid (show fAll x = ([], false) by
      have : ¬ (1 ≤ x ∧ x ≤ 400) := by intro h; simp [l6B, h] at hx
      unfold fAll; rw [if_neg this])
    have hM := mem_nil w; have hB := Below.refl w.heap.size w; have hC := True.intro
    go_enter Try.func7, Try.ntmps7
    go_wp2_with (go_at_call 17; refine (l6In_ _ _ _ _).mono ?_; rintro e w' ⟨rfl, rfl⟩)
    go_ret2
    exact ⟨_, by rw [HE.out]; rfl, by rw [HE.out]; exact World.ownsRow_lit w #[] 0 (Nat.le_refl _) (by decide) rfl, by (repeat' (first | (with_reducible exact hB) | (with_reducible exact Below.refl _ _) | (with_reducible refine Below.alloc ?_ ?_ _) | (with_reducible refine Below.setCell ?_ ?_ _) | (with_reducible refine Below.drew ?_) | (with_reducible refine below_drewN ?_ _) | (with_reducible exact Nat.le_refl _) | (with_reducible exact hB.size) | (simp [go_sem]; done) | (have := hB.size; simp [go_sem]; omega)))⟩
  · have h : 1 ≤ x ∧ x ≤ 400 := by simpa [l6B] using hx
    obtain ⟨d, rfl⟩ : ∃ n : Nat, x = n := ⟨x.toNat, by omega⟩
    have HE := Lib.hid (show fAll (d : Int) = (allF d (topF d), true) by unfold fAll; rw [if_pos h, Int.toNat_natCast])
    have h1 : 1 ≤ d := by omega
    have h2 : d ≤ 400 := by omega
    clear h
    obtain ⟨i0, hi, hz0, hz1, hz2⟩ := info_parts3 infoForm
    have hM := mem_nil w; have hB := Below.refl w.heap.size w; have hC := True.intro
    go_enter Try.func7, Try.ntmps7
    go_wp2_with (go_at_call 17; refine (l6In_ _ _ _ _).mono ?_; rintro e w' ⟨rfl, rfl⟩)
    go_loopw [4, 5] (fun v3 v4 wr => FaO d w v3 v4 wr) (fun _ v4 _ => 13 - (intOf v4).toNat)
    case atStart => exact ⟨1, Nat.le_refl _, by omega, Nat.zero_le _, rfl, World.ownsRow_lit w #[] 0 (Nat.le_refl _) (by decide) rfl, by (repeat' (first | (with_reducible exact hB) | (with_reducible exact Below.refl _ _) | (with_reducible refine Below.alloc ?_ ?_ _) | (with_reducible refine Below.setCell ?_ ?_ _) | (with_reducible refine Below.drew ?_) | (with_reducible refine below_drewN ?_ _) | (with_reducible exact Nat.le_refl _) | (with_reducible exact hB.size) | (simp [go_sem]; done) | (have := hB.size; simp [go_sem]; omega)))⟩
    case round =>
      obtain ⟨a, ha1, ha2, had, rfl, hR, hB'⟩ := hrel
      clear hB hM hC
      have hB := hB'
      clear hB'
      have hlen := allF_len d (a - 1) (by omega)
      obtain ⟨ao, cap, rfl⟩ := row_form3 hR
      have hsq : ((a * a : Nat) : Int) = (a : Int) * a := by simp
      have hsq2 := Nat.mul_le_mul ha2 ha2
      have w1 : wrap64 (3 * (a : Int)) = 3 * (a : Int) := wrap_mid (by omega)
      have w2 : wrap64 (3 * (a : Int) * a) = 3 * (a : Int) * a := wrap_mid (by rw [Int.mul_assoc, ← hsq]; omega)
      by_cases hlt : 3 * (a * a) ≤ d
      · have ha3 : a ≤ 11 := by
          apply Nat.le_of_not_lt; intro h
          obtain rfl : a = 12 := by omega
          omega
        have e0 : decide (3 * (a : Int) * a ≤ (d : Int)) = true := decide_eq_true (by rw [Int.mul_assoc, ← hsq]; omega)
        have w3 : wrap64 (1 - (a : Int)) = 1 - (a : Int) := wrap_mid (by omega)
        have HF := Lib.hid (allF_row (d := d) ha1)
        have HR := Lib.hid hR
        clear hR hsq hsq2
        go_wp2_with fail
        clear w2
        go_loopw [4, 6] (fun v3 v5 wr => FaM d a w v3 v5 wr) (fun _ v5 _ => (12 - intOf v5).toNat)
        case atStart => exact ⟨1, Nat.le_refl _, by omega, by simp, by simpa [row_one ha1, FormRow] using HR.out, by (repeat' (first | (with_reducible exact hB) | (with_reducible exact Below.refl _ _) | (with_reducible refine Below.alloc ?_ ?_ _) | (with_reducible refine Below.setCell ?_ ?_ _) | (with_reducible refine Below.drew ?_) | (with_reducible refine below_drewN ?_ _) | (with_reducible exact Nat.le_refl _) | (with_reducible exact hB.size) | (simp [go_sem]; done) | (have := hB.size; simp [go_sem]; omega)))⟩
        case round =>
          obtain ⟨n, hn1, hn, rfl, hR, hB'⟩ := hrel
          clear hB HR
          have hB := hB'
          clear hB'
          obtain ⟨xs, hxs⟩ : ∃ xs, xs = allF d (a - 1) ++ rowF d a n := ⟨_, rfl⟩
          have hL : xs.length ≤ 3700 := by
            have := rowF_len d a n
            rw [hxs, List.length_append]; omega
          rw [← hxs] at hR
          have HX := Lib.hid hxs
          clear hxs
          obtain ⟨ao, cap, rfl⟩ := row_form3 hR
          obtain ⟨b, hb⟩ : ∃ b : Int, b = (n : Int) - a := ⟨_, rfl⟩
          have HR := Lib.hid hR
          clear hR
          by_cases hlb : n < 2 * a + 1
          · have e1 : decide ((n : Int) - a ≤ (a : Int)) = true := decide_eq_true (by omega)
            have hbb : -(a : Int) ≤ b ∧ b ≤ a := by omega
            obtain ⟨b1, b2, b3, b4⟩ := cF_bd (d := d) ⟨ha1, ha3⟩ hbb h2
            have w4 : wrap64 (b * b) = b * b := wrap_mid (by omega)
            have w5 : wrap64 (b * b + d) = b * b + d := wrap_mid (by omega)
            have w6 : wrap64 (4 * (a : Int)) = 4 * (a : Int) := wrap_mid (by omega)
            have w7 : (b * b + d).tdiv (4 * (a : Int)) = cF d a b := by rw [Int.tdiv_eq_ediv_of_nonneg (by omega), cF]
            have w8 : (4 * (a : Int) == 0) = false := by simp; omega
            have w9 : wrap64 (cF d a b) = cF d a b := wrap_mid (by omega)
            have w11 : wrap64 (b + 1) = b + 1 := wrap_mid (by omega)
            have w12 : (b * b + d).tmod (4 * (a : Int)) = (b * b + d) % (4 * (a : Int)) := Int.tmod_eq_emod_of_nonneg (by omega)
            have hgle : (Int.gcd a b : Nat) ≤ 11 := Nat.le_trans (Nat.gcd_le_left _ (by omega)) (by omega)
            have c1 := fun W => igcd8_ (a : Int) b (by omega) (by omega) W
            have c2 := fun W => igcd8_ ((Int.gcd a b : Nat) : Int) (cF d a b) (by omega) (by omega) W
            have HY := Lib.hid (fun h : okF d a b = true => rowF_yes (d := d) (a := a) (n := n) (by rw [← hb]; exact h))
            have HN := Lib.hid (fun h : okF d a b = false => rowF_no (d := d) (a := a) (n := n) (by rw [← hb]; exact h))
            rw [← hb] at HY e1
            rw [← hb]
            have HO := Lib.hid (ok_iff (d := d) (a := a) (b := b) ⟨by omega, hbb.2⟩)
            rw [show fF d a b = ⟨(a : Int), b, cF d a b⟩ from rfl] at HY
            have HBB := Lib.hid hb
            clear hb b1 b2 b3 b4 hbb hgle
            generalize okF d a b = ok at *
            generalize Int.gcd ((Int.gcd a b : Nat) : Int) (cF d a b) = G3 at *
            generalize Int.gcd a b = G2 at *
            generalize cF d a b = c at *
            generalize (b * b + (d : Int)) % (4 * (a : Int)) = r at *
            have hno : (¬ (r = 0 ∧ ((a : Int) < c ∧ G3 = 1 ∨ c = a ∧ 0 ≤ b ∧ G2 = 1))) → ok = false := fun h => by
              cases ok
              · rfl
              · exact absurd (HO.out.1 rfl) h
            by_cases hr : r = 0
            · subst hr
              rcases Int.lt_trichotomy (a : Int) c with hc | hc | hc
              · have hc1 : decide (c > (a : Int)) = true := decide_eq_true hc
                have hc2 : (c == (a : Int)) = false := by simp; omega
                have hc4 : (c = (a : Int)) = False := by simp; omega
                by_cases hg : G3 = 1
                · have HN1 := Lib.hid (HY.out (HO.out.2 ⟨rfl, .inl ⟨hc, hg⟩⟩))
                  subst hg
                  clear HN HY HO hno
                  have hR : wr.ownsRow w.heap.size 29 3 (.slice ao xs.length cap) xs.length (cs3 xs) := HR.out
                  go_wp2_with (first | ((go_at_call 18; refine (c1 _).mono ?_; rintro e w' ⟨rfl, rfl⟩); clear c1) | (go_at_call 18; refine (c2 _).mono ?_; rintro e w' ⟨rfl, rfl⟩) | (at_builtin; refine wpList_append_own _ rfl _ _ 24 rfl w.heap.size 29 i0 (.agg #[.int .i64 0, .int .i64 0, .int .i64 0]) 3 24 Try.underlying24 hi hz0 hz1 hz2 rfl (by decide) _ _ _ rfl (hR.alloc _) ⟨_, 0, none⟩ 1 1 [.int .i64 (a : Int), .int .i64 b, .int .i64 c] rfl rfl (cell_three_new _ _ _ _ _) (by simp [Value.oneCell']) (by unfold maxLen; omega) (by omega) (by have := hB.size; simp; omega) ?_; intro v' w1 hown' hgrow _; apply after_app3 hgrow hR hB; clear hB hgrow hR; intro hB; have hR := hown'; clear hown'))
                  go_roundw
                  case rel => exact ⟨n + 1, by omega, by omega, by have hq := HBB.out; (try simp only [w11]); refine congrArg (Value.int IntKind.i64) ?_; omega, by rw [HN1.out, ← List.append_assoc, ← HX.out]; exact fa_snoc hR, by (repeat' (first | (with_reducible exact hB) | (with_reducible exact Below.refl _ _) | (with_reducible refine Below.alloc ?_ ?_ _) | (with_reducible refine Below.setCell ?_ ?_ _) | (with_reducible refine Below.drew ?_) | (with_reducible refine below_drewN ?_ _) | (with_reducible exact Nat.le_refl _) | (with_reducible exact hB.size) | (simp [go_sem]; done) | (have := hB.size; simp [go_sem]; omega)))⟩
                  case measure => have := HBB.out; simp [intOf]; omega
                · have HN1 := Lib.hid (HN.out (hno (by omega)))
                  have hg1 : ((G3 : Int) == 1) = false := by simp; omega
                  have hg2 : ((G3 : Int) = 1) = False := by simp; omega
                  clear HN HY HO hno
                  go_wp2_with (first | ((go_at_call 18; refine (c1 _).mono ?_; rintro e w' ⟨rfl, rfl⟩); clear c1) | (go_at_call 18; refine (c2 _).mono ?_; rintro e w' ⟨rfl, rfl⟩))
                  go_roundw
                  case rel => exact ⟨n + 1, by omega, by omega, by have hq := HBB.out; (try simp only [w11]); refine congrArg (Value.int IntKind.i64) ?_; omega, by rw [HN1.out, ← HX.out]; exact HR.out, by (repeat' (first | (with_reducible exact hB) | (with_reducible exact Below.refl _ _) | (with_reducible refine Below.alloc ?_ ?_ _) | (with_reducible refine Below.setCell ?_ ?_ _) | (with_reducible refine Below.drew ?_) | (with_reducible refine below_drewN ?_ _) | (with_reducible exact Nat.le_refl _) | (with_reducible exact hB.size) | (simp [go_sem]; done) | (have := hB.size; simp [go_sem]; omega)))⟩
                  case measure => have := HBB.out; simp [intOf]; omega
              · have hc1 : decide (c > (a : Int)) = false := decide_eq_false (by omega)
                have hc2 : (c == (a : Int)) = true := by simp; omega
                have hc4 : ¬ (c > (a : Int)) := by omega
                have hc5 : c = (a : Int) := hc.symm
                by_cases hb0 : 0 ≤ b
                · have hb1 : decide (b ≥ 0) = true := decide_eq_true hb0
                  by_cases hg : G2 = 1
                  · have HN1 := Lib.hid (HY.out (HO.out.2 ⟨rfl, .inr ⟨hc5, hb0, hg⟩⟩))
                    subst hg
                    clear HN HY HO hno hc5 hc
                    have hR : wr.ownsRow w.heap.size 29 3 (.slice ao xs.length cap) xs.length (cs3 xs) := HR.out
                    go_wp2_with (first | (go_at_call 18; refine (c1 _).mono ?_; rintro e w' ⟨rfl, rfl⟩) | (at_builtin; refine wpList_append_own _ rfl _ _ 24 rfl w.heap.size 29 i0 (.agg #[.int .i64 0, .int .i64 0, .int .i64 0]) 3 24 Try.underlying24 hi hz0 hz1 hz2 rfl (by decide) _ _ _ rfl (hR.alloc _) ⟨_, 0, none⟩ 1 1 [.int .i64 (a : Int), .int .i64 b, .int .i64 c] rfl rfl (cell_three_new _ _ _ _ _) (by simp [Value.oneCell']) (by unfold maxLen; omega) (by omega) (by have := hB.size; simp; omega) ?_; intro v' w1 hown' hgrow _; apply after_app3 hgrow hR hB; clear hB hgrow hR; intro hB; have hR := hown'; clear hown'))
                    go_roundw
                    case rel => exact ⟨n + 1, by omega, by omega, by have hq := HBB.out; (try simp only [w11]); refine congrArg (Value.int IntKind.i64) ?_; omega, by rw [HN1.out, ← List.append_assoc, ← HX.out]; exact fa_snoc hR, by (repeat' (first | (with_reducible exact hB) | (with_reducible exact Below.refl _ _) | (with_reducible refine Below.alloc ?_ ?_ _) | (with_reducible refine Below.setCell ?_ ?_ _) | (with_reducible refine Below.drew ?_) | (with_reducible refine below_drewN ?_ _) | (with_reducible exact Nat.le_refl _) | (with_reducible exact hB.size) | (simp [go_sem]; done) | (have := hB.size; simp [go_sem]; omega)))⟩
                    case measure => have := HBB.out; simp [intOf]; omega
                  · have HN1 := Lib.hid (HN.out (hno (by omega)))
                    have hg1 : ((G2 : Int) == 1) = false := by simp; omega
                    have hg2 : ((G2 : Int) = 1) = False := by simp; omega
                    clear HN HY HO hno hc5 hc
                    go_wp2_with ((go_at_call 18; refine (c1 _).mono ?_; rintro e w' ⟨rfl, rfl⟩))
                    go_roundw
                    case rel => exact ⟨n + 1, by omega, by omega, by have hq := HBB.out; (try simp only [w11]); refine congrArg (Value.int IntKind.i64) ?_; omega, by rw [HN1.out, ← HX.out]; exact HR.out, by (repeat' (first | (with_reducible exact hB) | (with_reducible exact Below.refl _ _) | (with_reducible refine Below.alloc ?_ ?_ _) | (with_reducible refine Below.setCell ?_ ?_ _) | (with_reducible refine Below.drew ?_) | (with_reducible refine below_drewN ?_ _) | (with_reducible exact Nat.le_refl _) | (with_reducible exact hB.size) | (simp [go_sem]; done) | (have := hB.size; simp [go_sem]; omega)))⟩
                    case measure => have := HBB.out; simp [intOf]; omega
                · have HN1 := Lib.hid (HN.out (hno (by omega)))
                  have hb1 : decide (b ≥ 0) = false := decide_eq_false hb0
                  clear HN HY HO hno hc5 hc
                  go_wp2_with (fail)
                  go_roundw
                  case rel => exact ⟨n + 1, by omega, by omega, by have hq := HBB.out; (try simp only [w11]); refine congrArg (Value.int IntKind.i64) ?_; omega, by rw [HN1.out, ← HX.out]; exact HR.out, by (repeat' (first | (with_reducible exact hB) | (with_reducible exact Below.refl _ _) | (with_reducible refine Below.alloc ?_ ?_ _) | (with_reducible refine Below.setCell ?_ ?_ _) | (with_reducible refine Below.drew ?_) | (with_reducible refine below_drewN ?_ _) | (with_reducible exact Nat.le_refl _) | (with_reducible exact hB.size) | (simp [go_sem]; done) | (have := hB.size; simp [go_sem]; omega)))⟩
                  case measure => have := HBB.out; simp [intOf]; omega
              · have HN1 := Lib.hid (HN.out (hno (by omega)))
                have hc1 : decide (c > (a : Int)) = false := decide_eq_false (by omega)
                have hc2 : (c == (a : Int)) = false := by simp; omega
                have hc4 : (c = (a : Int)) = False := by simp; omega
                clear HN HY HO hno
                go_wp2_with (fail)
                go_roundw
                case rel => exact ⟨n + 1, by omega, by omega, by have hq := HBB.out; (try simp only [w11]); refine congrArg (Value.int IntKind.i64) ?_; omega, by rw [HN1.out, ← HX.out]; exact HR.out, by (repeat' (first | (with_reducible exact hB) | (with_reducible exact Below.refl _ _) | (with_reducible refine Below.alloc ?_ ?_ _) | (with_reducible refine Below.setCell ?_ ?_ _) | (with_reducible refine Below.drew ?_) | (with_reducible refine below_drewN ?_ _) | (with_reducible exact Nat.le_refl _) | (with_reducible exact hB.size) | (simp [go_sem]; done) | (have := hB.size; simp [go_sem]; omega)))⟩
                case measure => have := HBB.out; simp [intOf]; omega
            · have HN1 := Lib.hid (HN.out (hno (by omega)))
              have hr1 : (r == 0) = false := by simp [hr]
              have hr2 : (r != 0) = true := by simp [hr]
              clear HN HY HO hno
              go_wp2_with (fail)
              go_roundw
              case rel => exact ⟨n + 1, by omega, by omega, by have hq := HBB.out; (try simp only [w11]); refine congrArg (Value.int IntKind.i64) ?_; omega, by rw [HN1.out, ← HX.out]; exact HR.out, by (repeat' (first | (with_reducible exact hB) | (with_reducible exact Below.refl _ _) | (with_reducible refine Below.alloc ?_ ?_ _) | (with_reducible refine Below.setCell ?_ ?_ _) | (with_reducible refine Below.drew ?_) | (with_reducible refine below_drewN ?_ _) | (with_reducible exact Nat.le_refl _) | (with_reducible exact hB.size) | (simp [go_sem]; done) | (have := hB.size; simp [go_sem]; omega)))⟩
              case measure => have := HBB.out; simp [intOf]; omega
          · obtain rfl : n = 2 * a + 1 := by omega
            go_wp2_with fail
            go_roundw
            case rel => exact ⟨a + 1, by omega, by omega, by simpa using hlt, by go_num, by rw [Nat.add_sub_cancel, HF.out, ← HX.out]; exact HR.out, by (repeat' (first | (with_reducible exact hB) | (with_reducible exact Below.refl _ _) | (with_reducible refine Below.alloc ?_ ?_ _) | (with_reducible refine Below.setCell ?_ ?_ _) | (with_reducible refine Below.drew ?_) | (with_reducible refine below_drewN ?_ _) | (with_reducible exact Nat.le_refl _) | (with_reducible exact hB.size) | (simp [go_sem]; done) | (have := hB.size; simp [go_sem]; omega)))⟩
            case measure => simp [intOf]; omega
      · have e0 : decide (3 * (a : Int) * a ≤ (d : Int)) = false := decide_eq_false (by rw [Int.mul_assoc, ← hsq]; omega)
        have HT := Lib.hid (show topF d = a - 1 from top_eq (by omega) had (by rw [show a - 1 + 1 = a from by omega]; omega))
        have HR := Lib.hid hR
        clear hR
        go_wp2
        go_ret2
        exact ⟨_, by rw [HE.out]; rfl, by rw [HE.out, HT.out]; exact HR.out, by (repeat' (first | (with_reducible exact hB) | (with_reducible exact Below.refl _ _) | (with_reducible refine Below.alloc ?_ ?_ _) | (with_reducible refine Below.setCell ?_ ?_ _) | (with_reducible refine Below.drew ?_) | (with_reducible refine below_drewN ?_ _) | (with_reducible exact Nat.le_refl _) | (with_reducible exact hB.size) | (simp [go_sem]; done) | (have := hB.size; simp [go_sem]; omega)))⟩
end Go.Proofs.Ytohkmdpefplddaa

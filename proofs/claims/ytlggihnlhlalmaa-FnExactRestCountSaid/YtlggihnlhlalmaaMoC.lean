
/- The model's count of even rest matrices, walked. No condition. -/
import Derived.Test.YtlggihnlhlalmaaMoU
namespace Go.Proofs.Ytlggihnlhlalmaa
open Go.RowKit

def sumN (f : Nat → Nat) : Nat → Nat
  | 0 => 0
  | n + 1 => sumN f n + f n
theorem sumN_le {f : Nat → Nat} {c : Nat} (h : ∀ i, f i ≤ c) : ∀ n, sumN f n ≤ n * c
  | 0 => by simp [sumN]
  | n + 1 => by
    have h1 := sumN_le h n
    have h2 := h n
    simp only [sumN, Nat.succ_mul]
    omega
def evN (k a b c d : Nat) : Bool := (a * d + k * k - b * c) % k == 1
/-- the model's order: a, d, b, c -/
def f4 (k a d b c : Nat) : Nat := bif evN k a b c d then 1 else 0
def f3 (k a d b : Nat) : Nat := sumN (f4 k a d b) k
def f2 (k a d : Nat) : Nat := sumN (f3 k a d) k
def f1 (k a : Nat) : Nat := sumN (f2 k a) k
def cntS (k : Nat) : Nat := sumN (f1 k) k
theorem f4_le (k a d b c : Nat) : f4 k a d b c ≤ 1 := by unfold f4; cases evN k a b c d <;> simp
theorem f3_le {k : Nat} (hk : k ≤ 12) (a d b : Nat) : f3 k a d b ≤ 12 := by
  have := sumN_le (f4_le k a d b) k
  unfold f3; omega
theorem f2_le {k : Nat} (hk : k ≤ 12) (a d : Nat) : f2 k a d ≤ 144 := by
  have := sumN_le (f3_le hk a d) k
  unfold f2; omega
theorem f1_le {k : Nat} (hk : k ≤ 12) (a : Nat) : f1 k a ≤ 1728 := by
  have := sumN_le (f2_le hk a) k
  unfold f1; omega
theorem cntS2 : cntS 2 = cntT 2 := by decide +kernel
theorem cntS3 : cntS 3 = cntT 3 := by decide +kernel
theorem cntS4 : cntS 4 = cntT 4 := by decide +kernel
theorem cntS5 : cntS 5 = cntT 5 := by decide +kernel
theorem cntS6 : cntS 6 = cntT 6 := by decide +kernel
theorem cntS7 : cntS 7 = cntT 7 := by decide +kernel
theorem cntS8 : cntS 8 = cntT 8 := by decide +kernel
theorem cntS9 : cntS 9 = cntT 9 := by decide +kernel
theorem cntS10 : cntS 10 = cntT 10 := by decide +kernel
theorem cntS11 : cntS 11 = cntT 11 := by decide +kernel
theorem cntS12 : cntS 12 = cntT 12 := by decide +kernel
theorem cntS_eq {k : Nat} (h : 2 ≤ k ∧ k ≤ 12) : cntS k = cntT k := by
  rcases k_cases h with rfl | rfl | rfl | rfl | rfl | rfl | rfl | rfl | rfl | rfl | rfl
  · exact cntS2
  · exact cntS3
  · exact cntS4
  · exact cntS5
  · exact cntS6
  · exact cntS7
  · exact cntS8
  · exact cntS9
  · exact cntS10
  · exact cntS11
  · exact cntS12
theorem evN_int {k a b c d : Nat} (hb : b < k) (hc : c < k) : evN k a b c d = (((a : Int) * d - b * c) % k == 1) := by
  have hbc : b * c ≤ k * k := Nat.mul_le_mul (by omega) (by omega)
  have e : ((((a * d + k * k - b * c) % k : Nat)) : Int) = ((a : Int) * d - b * c) % k := by
    rw [Int.natCast_emod, Int.ofNat_sub (by omega)]
    have : ((a * d + k * k : Nat) : Int) - ((b * c : Nat) : Int) = ((a : Int) * d - b * c) + k * k := by push_cast; omega
    rw [this, Int.add_mul_emod_self_left]
  rw [evN, Bool.eq_iff_iff]
  simp only [beq_iff_eq]
  omega
def mCnt (n : Int) : Int × Bool := if mdB n then (((cntT n.toNat : Nat) : Int), true) else (0, false)
set_option maxHeartbeats 2000000 in
theorem sRestCount_ (n : Int) (w : World) : Calls Try.prog 16 #[.int .i64 n] w (fun E' W' => E' = .returned (.tuple #[.int .i64 (mCnt n).1, .bool (mCnt n).2]) ∧ w = W') := by
  cases h0 : l6B n 2 12
  · have HR := Lib.hid (show mCnt n = (0, false) by simp [mCnt, show mdB n = false from h0])
    go_enter Try.func16, Try.ntmps16
    go_wp2_with (go_at_call 27; refine (l6In_ _ _ _ _).mono ?_; rintro e w' ⟨rfl, rfl⟩)
    go_ret2
    exact ⟨by rw [HR.out]; rfl, rfl⟩
  · have hk' : mdB n = true := h0
    obtain ⟨k, rfl, hk1, hk2⟩ := mdB_nat hk'
    have HR := Lib.hid (show mCnt k = (((cntS k : Nat) : Int), true) by simp [mCnt, hk', cntS_eq ⟨hk1, hk2⟩])
    go_enter Try.func16, Try.ntmps16
    go_wp2_with (go_at_call 27; refine (l6In_ _ _ _ _).mono ?_; rintro e w' ⟨rfl, rfl⟩)
    go_loop [4, 5] (fun v4 v5 => ∃ a : Nat, a ≤ k ∧ v4 = .int .i64 (sumN (f1 k) a : Nat) ∧ v5 = .int .i64 a) (fun _ v5 => k - (intOf v5).toNat)
    case atStart => exact ⟨0, by omega, rfl, rfl⟩
    case round =>
      obtain ⟨a, ha, rfl, rfl⟩ := hrel
      have b1 := sumN_le (f1_le hk2) a
      by_cases hla : a < k
      · obtain ⟨s1, hs1⟩ : ∃ s1, s1 = sumN (f1 k) a := ⟨_, rfl⟩
        have HS1 := Lib.hid hs1
        rw [← hs1] at b1 ⊢
        clear hs1
        go_wp2
        go_loop [4, 6] (fun v4 v6 => ∃ d : Nat, d ≤ k ∧ v4 = .int .i64 (s1 + sumN (f2 k a) d : Nat) ∧ v6 = .int .i64 d) (fun _ v6 => k - (intOf v6).toNat)
        case atStart => exact ⟨0, by omega, rfl, rfl⟩
        case round =>
          obtain ⟨d, hd, rfl, rfl⟩ := hrel
          have b2 := sumN_le (f2_le hk2 a) d
          by_cases hld : d < k
          · obtain ⟨s2, hs2⟩ : ∃ s2, s2 = s1 + sumN (f2 k a) d := ⟨_, rfl⟩
            have HS2 := Lib.hid hs2
            replace b2 : s2 ≤ 50000 := by omega
            rw [← hs2]
            clear hs2
            go_wp2
            go_loop [4, 7] (fun v4 v7 => ∃ b : Nat, b ≤ k ∧ v4 = .int .i64 (s2 + sumN (f3 k a d) b : Nat) ∧ v7 = .int .i64 b) (fun _ v7 => k - (intOf v7).toNat)
            case atStart => exact ⟨0, by omega, rfl, rfl⟩
            case round =>
              obtain ⟨b, hb, rfl, rfl⟩ := hrel
              have b3 := sumN_le (f3_le hk2 a d) b
              by_cases hlb : b < k
              · obtain ⟨s3, hs3⟩ : ∃ s3, s3 = s2 + sumN (f3 k a d) b := ⟨_, rfl⟩
                have HS3 := Lib.hid hs3
                replace b3 : s3 ≤ 60000 := by omega
                rw [← hs3]
                clear hs3
                go_wp2
                go_loop [4, 8] (fun v4 v8 => ∃ c : Nat, c ≤ k ∧ v4 = .int .i64 (s3 + sumN (f4 k a d b) c : Nat) ∧ v8 = .int .i64 c) (fun _ v8 => k - (intOf v8).toNat)
                case atStart => exact ⟨0, by omega, rfl, rfl⟩
                case round =>
                  obtain ⟨c, hc, rfl, rfl⟩ := hrel
                  have b4 := sumN_le (f4_le k a d b) c
                  by_cases hlc : c < k
                  · obtain ⟨s4, hs4⟩ : ∃ s4, s4 = s3 + sumN (f4 k a d b) c := ⟨_, rfl⟩
                    have HS4 := Lib.hid hs4
                    replace b4 : s4 ≤ 70000 := by omega
                    rw [← hs4]
                    clear hs4
                    have e1 := mul_bd (x := a) (y := d) (a := 12) (b := 12) ⟨by omega, by omega⟩ ⟨by omega, by omega⟩
                    have e2 := mul_bd (x := b) (y := c) (a := 12) (b := 12) ⟨by omega, by omega⟩ ⟨by omega, by omega⟩
                    have cR := fun W => l5Rest_ k (a * d - b * c) hk' W
                    have HE := Lib.hid (evN_int (k := k) (a := a) (d := d) hlb hlc)
                    generalize ((a : Int) * d - b * c) % k = R at *
                    cases hr : R == 1
                    · have HF := Lib.hid (show f4 k a d b c = 0 by simp [f4, HE.out, hr])
                      go_wp2_with (go_at_call 33; refine (cR _).mono ?_; rintro e w' ⟨rfl, rfl⟩)
                      go_round
                      case rel => exact ⟨c + 1, by omega, by rw [HS4.out]; simp only [sumN, HF.out]; rfl, by simp⟩
                      case measure => simp [intOf]; omega
                    · have HF := Lib.hid (show f4 k a d b c = 1 by simp [f4, HE.out, hr])
                      go_wp2_with (go_at_call 33; refine (cR _).mono ?_; rintro e w' ⟨rfl, rfl⟩)
                      go_round
                      case rel => exact ⟨c + 1, by omega, by rw [show s3 + sumN (f4 k a d b) (c + 1) = s4 + 1 by rw [HS4.out]; simp only [sumN, HF.out]; omega]; simp, by simp⟩
                      case measure => simp [intOf]; omega
                  · obtain rfl : c = k := by omega
                    go_wp2
                    go_round
                    case rel => exact ⟨b + 1, by omega, by rw [HS3.out]; simp only [sumN, f3, Nat.add_assoc], by simp⟩
                    case measure => simp [intOf]; omega
              · obtain rfl : b = k := by omega
                go_wp2
                go_round
                case rel => exact ⟨d + 1, by omega, by rw [HS2.out]; simp only [sumN, f2, Nat.add_assoc], by simp⟩
                case measure => simp [intOf]; omega
          · obtain rfl : d = k := by omega
            go_wp2
            go_round
            case rel => exact ⟨a + 1, by omega, by rw [HS1.out]; simp only [sumN, f1], by simp⟩
            case measure => simp [intOf]; omega
      · obtain rfl : a = k := by omega
        go_wp2
        go_ret2
        exact ⟨by rw [HR.out]; rfl, rfl⟩
end Go.Proofs.Ytlggihnlhlalmaa

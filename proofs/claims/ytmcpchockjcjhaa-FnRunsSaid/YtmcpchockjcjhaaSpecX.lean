
/- The model's words of fractions and of matrices, walked. -/
import Derived.Test.YtmcpchockjcjhaaSpecW
namespace Go.Proofs.Ytmcpchockjcjhaa
open Go.RowKit

theorem toList_app (t : ByteArray) (c : UInt8) : (t ++ ⟨#[c]⟩).data.toList = t.data.toList ++ [c] := by simp [ByteArray.data_append]
theorem fwd_yes {p q : Nat} {t : ByteArray} (h : lets p q = t.data.toList) (h40 : t.size ≤ 40) : fwd p q = (t, true) := by
  have hl : (lets p q).length ≤ 40 := by rw [h]; simpa using h40
  rw [fwd, if_pos hl, h, txt_of]
theorem fwd_no {p q : Nat} {t : ByteArray} {l : List UInt8} (h : lets p q = t.data.toList ++ l) (h40 : t.size = 40) (hl : l ≠ []) : fwd p q = (⟨#[]⟩, false) := by
  have h1 : 0 < l.length := List.length_pos_iff.2 hl
  have h2 : t.data.toList.length = 40 := by simpa using h40
  have hn : ¬ (lets p q).length ≤ 40 := by rw [h, List.length_append]; omega
  rw [fwd, if_neg hn]

theorem l6B_frac {p : Int} : l6B p 1 1000000 = true ↔ 1 ≤ p ∧ p ≤ 1000000 := by simp [l6B]
set_option maxHeartbeats 2000000 in
theorem sWordTo_ (p q : Int) (w : World) : Calls Try.prog 14 #[.int .i64 p, .int .i64 q] w (fun E' W' => E' = .returned (.tuple #[.string (wto p q).1, .bool (wto p q).2]) ∧ w = W') := by
  cases h1 : l6B p 1 1000000
  · have HE := Lib.hid (show wto p q = (⟨#[]⟩, false) from by
      have : frB p q = false := by
        cases hh : frB p q
        · rfl
        · obtain ⟨k1, k2, _⟩ := frB_iff.1 hh; rw [l6B_frac.2 ⟨k1, k2⟩] at h1; cases h1
      simp [wto, this])
    go_enter Try.func14, Try.ntmps14
    go_wp2_with (go_at_call 41; refine (l6In_ _ _ _ _).mono ?_; rintro e w' ⟨rfl, rfl⟩)
    go_ret2
    exact ⟨by rw [HE.out]; rfl, rfl⟩
  · cases h2 : l6B q 1 1000000
    · have HE := Lib.hid (show wto p q = (⟨#[]⟩, false) from by
        have : frB p q = false := by
          cases hh : frB p q
          · rfl
          · obtain ⟨_, _, k1, k2, _⟩ := frB_iff.1 hh; rw [l6B_frac.2 ⟨k1, k2⟩] at h2; cases h2
        simp [wto, this])
      go_enter Try.func14, Try.ntmps14
      go_wp2_with (go_at_call 41; refine (l6In_ _ _ _ _).mono ?_; rintro e w' ⟨rfl, rfl⟩)
      go_ret2
      exact ⟨by rw [HE.out]; rfl, rfl⟩
    · have k1 := l6B_frac.1 h1
      have k2 := l6B_frac.1 h2
      obtain ⟨a, rfl⟩ : ∃ a : Nat, p = a := ⟨p.toNat, by omega⟩
      obtain ⟨b, rfl⟩ : ∃ b : Nat, q = b := ⟨q.toNat, by omega⟩
      by_cases hg : Nat.gcd a b = 1
      · have HE := Lib.hid (show wto a b = fwd a b from by
          have : frB a b = true := frB_iff.2 ⟨k1.1, k1.2, k2.1, k2.2, by simpa using hg⟩
          simp [wto, this])
        have hg1 : (((Nat.gcd a b : Nat) : Int) == 1) = true := by simp; omega
        have hg2 : (((Nat.gcd a b : Nat) : Int) != 1) = false := by simp; omega
        clear hg
        go_enter Try.func14, Try.ntmps14
        go_wp2_with (first | (go_at_call 41; refine (l6In_ _ _ _ _).mono ?_; rintro e w' ⟨rfl, rfl⟩) | (go_at_call 40; refine (l2Gcd_ _ _ (by omega) (by omega) _).mono ?_; rintro e w' ⟨rfl, rfl⟩))
        go_loop [0, 1, 6] (fun v0 v1 v6 => ∃ (x y : Nat) (t : ByteArray), v0 = .int .i64 x ∧ v1 = .int .i64 y ∧ v6 = .string t ∧ 1 ≤ x ∧ 1 ≤ y ∧ x ≤ 1000000 ∧ y ≤ 1000000 ∧ t.size ≤ 40 ∧ lets a b = t.data.toList ++ lets x y)
          (fun v0 v1 _ => (intOf v0).toNat + (intOf v1).toNat)
        case atStart => exact ⟨a, b, ⟨#[]⟩, rfl, rfl, rfl, by omega, by omega, by omega, by omega, by decide, rfl⟩
        case round =>
          obtain ⟨x, y, t, rfl, rfl, rfl, hx, hy, hx6, hy6, ht, hl⟩ := hrel
          have HL := Lib.hid hl
          clear hl hg1 hg2 h1 h2
          by_cases hxy : x = y
          · subst hxy
            go_wp2
            go_ret2
            exact ⟨by rw [HE.out, fwd_yes (t := t) (by rw [HL.out, lets_self]; simp) ht]; rfl, rfl⟩
          · have hne : ((x : Int) == (y : Int)) = false := by simp; omega
            have hne2 : ((x : Int) != (y : Int)) = true := by simp; omega
            by_cases h40 : t.size = 40
            · have hs1 : ((t.size : Int) == 40) = true := by simp; omega
              have H40 := Lib.hid h40
              clear h40
              go_wp2
              go_ret2
              refine ⟨?_, rfl⟩
              rw [HE.out, fwd_no HL.out H40.out (by
                by_cases hlt : y < x
                · rw [lets_gt (by omega) hlt]; simp
                · rw [lets_lt (by omega) (by omega)]; simp)]
              rfl
            · have hs1 : ((t.size : Int) == 40) = false := by simp; omega
              by_cases hlt : y < x
              · go_wp2
                go_round
                case rel => exact ⟨x - y, y, t ++ ⟨#[82]⟩, by go_num, rfl, rfl, by omega, by omega, by omega, by omega, by rw [ByteArray.size_append]; show t.size + 1 ≤ 40; omega, by rw [HL.out, lets_gt (p := x) (q := y) (by omega) hlt, toList_app]; simp⟩
                case measure => simp [intOf]; omega
              · go_wp2
                go_round
                case rel => exact ⟨x, y - x, t ++ ⟨#[76]⟩, rfl, by go_num, rfl, by omega, by omega, by omega, by omega, by rw [ByteArray.size_append]; show t.size + 1 ≤ 40; omega, by rw [HL.out, lets_lt (p := x) (q := y) (by omega) (by omega), toList_app]; simp⟩
                case measure => simp [intOf]; omega
      · have HE := Lib.hid (show wto a b = (⟨#[]⟩, false) from by
          have : frB a b = false := by
            cases hh : frB a b
            · rfl
            · obtain ⟨_, _, _, _, k⟩ := frB_iff.1 hh; exact absurd (by simpa using k) hg
          simp [wto, this])
        have hg1 : (((Nat.gcd a b : Nat) : Int) == 1) = false := by simp; omega
        have hg2 : (((Nat.gcd a b : Nat) : Int) != 1) = true := by simp; omega
        clear hg
        go_enter Try.func14, Try.ntmps14
        go_wp2_with (first | (go_at_call 41; refine (l6In_ _ _ _ _).mono ?_; rintro e w' ⟨rfl, rfl⟩) | (go_at_call 40; refine (l2Gcd_ _ _ (by omega) (by omega) _).mono ?_; rintro e w' ⟨rfl, rfl⟩))
        go_ret2
        exact ⟨by rw [HE.out]; rfl, rfl⟩
end Go.Proofs.Ytmcpchockjcjhaa


/- Each trace has a necklace: plain. No condition. -/
import Derived.Test.YthpbdcookhpdaaaNecC
import Derived.Test.YthpbdcookhpdaaaNeckQ
namespace Go.Proofs.Ythpbdcookhpdaaa
open Go.RowKit

theorem lets_one : ∀ n : Nat, (lets (n + 1) 1).length = n
  | 0 => by rw [lets_self]; rfl
  | n + 1 => by rw [lets_gt (by omega) (by omega), List.length_cons, show n + 1 + 1 - 1 = n + 1 by omega, lets_one n]
theorem wk1_one {t : Nat} (ht : 3 ≤ t ∧ t ≤ 30) : (wk1 t 1 (pdN t 1)).isSome = true := by
  have e : pdN t 1 = t - 2 := by unfold pdN; omega
  have h0 : 0 < t - 2 := by omega
  have hl : (lets (1 + (t - 2)) ((t - 2) / (t - 2) + (t - 1))).length ≤ 40 := by
    rw [Nat.div_self h0, lets_lt (by omega) (by omega), List.length_cons, show 1 + (t - 1) - (1 + (t - 2)) = 1 by omega, show 1 + (t - 2) = (t - 2) + 1 by omega, lets_one]
    omega
  unfold wk1
  rw [e, if_pos ⟨Nat.mod_self _, hl⟩]
  rfl
theorem nkl_pos {t : Nat} (ht : 3 ≤ t ∧ t ≤ 30) : 1 ≤ (nkl t).length := by
  obtain ⟨v, hv⟩ := Option.isSome_iff_exists.1 (wk1_one ht)
  have hpd : 1 ≤ pdN t 1 := by unfold pdN; omega
  have h1 : v ∈ wsI t 1 (pdN t 1) := by
    unfold wsI
    rw [List.mem_filterMap]
    exact ⟨pdN t 1 - 1, List.mem_range.2 (by omega), by rw [show pdN t 1 - 1 + 1 = pdN t 1 by omega]; exact hv⟩
  have h2 : v ∈ wsO t (t - 1) := by
    unfold wsO
    rw [List.mem_flatMap]
    exact ⟨0, List.mem_range.2 (by omega), h1⟩
  have h3 : nk v ∈ nkl t := (mem_modN _ _).2 ⟨v, h2, rfl⟩
  have := List.length_pos_of_mem h3
  omega
/-- L and then R's -/
def lrL (k : Nat) : List UInt8 := 76 :: List.replicate k 82
theorem lrL_succ (k : Nat) : lrL (k + 1) = lrL k ++ [82] := by simp [lrL, List.replicate_succ']
theorem pm_lr : ∀ k : Nat, pm (lrL k) = ⟨1, k, 1, k + 1⟩
  | 0 => rfl
  | k + 1 => by
    rw [lrL_succ, pm_app, pm_lr k]
    have : pm [82] = ⟨1, 1, 0, 1⟩ := rfl
    rw [this]
    apply M.ext' <;> simp [xm] <;> omega
theorem lr_facts {t : Nat} (ht : 3 ≤ t ∧ t ≤ 30) : wmt (lrL (t - 2)) = (⟨1, (t - 2 : Nat), 1, (t - 2 : Nat) + 1⟩, true) ∧ mtr ⟨1, (t - 2 : Nat), 1, (t - 2 : Nat) + 1⟩ = ((t : Int), true) := by
  have hw : wdL (lrL (t - 2)) = true := by
    simp only [wdL, lrL, Bool.and_eq_true]
    refine ⟨?_, by simp; omega⟩
    rw [List.all_eq_true]
    intro c hc
    rcases List.mem_cons.1 hc with rfl | hc
    · decide
    · rw [(List.mem_replicate.1 hc).2]; decide
  have hi : inB ⟨1, (t - 2 : Nat), 1, (t - 2 : Nat) + 1⟩ = true := inB_iff.2 ⟨by simp, by simp; omega, by simp, by simp; omega⟩
  refine ⟨by rw [wmt, if_pos hw, im_pm (by simp [lrL]; omega), pm_lr, ck, if_pos hi], ?_⟩
  rw [mtr, if_pos hi, tr_x hi]
  simp
  omega
theorem wk1_mat {t a b : Nat} (ha : 1 ≤ a ∧ a < t) (hb : 1 ≤ b ∧ b ≤ pdN t a) {v : List UInt8} (h : wk1 t a b = some v) : mxB v = true ∧ (pm v).a + (pm v).d = t := by
  unfold wk1 at h
  split at h
  · rename_i hd
    cases h
    have hq : pdN t a = b * (pdN t a / b) := by
      have := Nat.div_add_mod (pdN t a) b
      omega
    have hq1 : 1 ≤ pdN t a / b := Nat.div_pos hb.2 (by omega)
    have hpd := pdN_int ha.1 ha.2
    generalize pdN t a / b = c at *
    have hw : lets (a + b) (c + (t - a)) = wl ⟨a, b, c, (t - a : Nat)⟩ := by
      unfold wl P1 P2
      rw [show ((a : Int) + (b : Int)).toNat = a + b from by omega, show ((c : Int) + ((t - a : Nat) : Int)).toNat = c + (t - a) from by omega]
    have hdet : xd ⟨a, b, c, (t - a : Nat)⟩ = 1 := by
      have e1 : ((b * c : Nat) : Int) = (b : Int) * (c : Int) := Int.natCast_mul _ _
      have e2 : ((t - a : Nat) : Int) = (t : Int) - (a : Int) := by omega
      rw [← hq] at e1
      simp only [xd]
      rw [e2, ← e1]
      omega
    have hpm := pm_wl ⟨a, b, c, (t - a : Nat)⟩ ⟨by simp, by simp, by simp, by simp⟩ hdet
    rw [hw] at hd ⊢
    refine ⟨pos_mx (lets_all _ _) hd.2 (by rw [hpm]; exact ⟨by simp; omega, by simp; omega, by simp; omega, by simp; omega⟩), ?_⟩
    rw [hpm]
    simp only
    omega
  · cases h
theorem nkl_facts {t : Nat} (ht : 3 ≤ t ∧ t ≤ 30) {x : List UInt8} (hx : x ∈ nkl t) : wmt x = (pm x, true) ∧ mtr (pm x) = ((t : Int), true) ∧ nin x = true ∧ x.length ≤ 40 := by
  obtain ⟨v, hv, rfl⟩ := (mem_modN _ _).1 hx
  unfold wsO wsI at hv
  obtain ⟨i, hi, hi2⟩ := List.mem_flatMap.1 hv
  obtain ⟨j, hj, hj2⟩ := List.mem_filterMap.1 hi2
  rw [List.mem_range] at hi hj
  obtain ⟨h1, h2⟩ := wk1_mat ⟨by omega, by omega⟩ ⟨by omega, by omega⟩ hj2
  obtain ⟨k, hk, e⟩ := nk_rotW v
  obtain ⟨X, hX, hc, htr⟩ := rotW_conj hk
  rw [← e, h2] at htr
  have hmx : mxB (nk v) = true := by rw [nk_mx, h1]
  obtain ⟨k0, k1, k2, k3, k4⟩ := mx_pos hmx
  have hd := pm_det (nk v)
  have hw : wdL (nk v) = true := by
    simp only [mxB, Bool.and_eq_true] at hmx
    simp only [wdL, Bool.and_eq_true]
    exact hmx.1.1
  have hlen : (nk v).length ≤ 40 := by
    simp only [mxB, Bool.and_eq_true, decide_eq_true_eq] at hmx
    exact hmx.1.1.2
  have hin : inB (pm (nk v)) = true := by
    generalize pm (nk v) = n at *
    unfold xd at hd
    have h1 := Int.mul_nonneg (show 0 ≤ 30 - n.a by omega) (show 0 ≤ n.d by omega)
    have h4 := Int.mul_nonneg (show 0 ≤ n.b - 1 by omega) (show 0 ≤ n.c by omega)
    have h5 := Int.mul_nonneg (show 0 ≤ n.b by omega) (show 0 ≤ n.c - 1 by omega)
    rw [Int.sub_mul] at h1
    rw [Int.sub_mul] at h4
    rw [Int.mul_sub] at h5
    exact inB_iff.2 ⟨by omega, by omega, by omega, by omega⟩
  exact ⟨by rw [wmt, if_pos hw, im_pm (by omega), ck, if_pos hin], by rw [mtr, if_pos hin, tr_x hin, htr], by rw [nin, hmx, nk_nk]; simp, hlen⟩
theorem nkl_sorted {t i : Nat} (hi : i + 1 < (nkl t).length) : sl ((nkl t).getD i []) ((nkl t).getD (i + 1) []) := pw_get (modN_sorted _) (Nat.lt_succ_self i) hi
end Go.Proofs.Ythpbdcookhpdaaa


/- Words, fractions and matrices lead back to each other: plain. -/
import Derived.Test.YtpalgnfimelioaaGreatDoorSpecX
import Derived.Test.YtpalgnfimelioaaGreatDoorReverse
namespace Go.Proofs.YtpalgnfimelioaaGreatDoor
open Go.RowKit

theorem wdL_iff {l : List UInt8} : wdL l = true ↔ l.all letB = true ∧ l.length ≤ 40 := by simp [wdL]
theorem pm_wrap {l : List UInt8} (h : l.length ≤ 40) : wrap64 ((im l).a + (im l).b) = ((fp l).1 : Int) ∧ wrap64 ((im l).c + (im l).d) = ((fp l).2 : Int) := by
  rw [im_pm (by omega)]
  obtain ⟨k1, k2, k3, k4⟩ := pm_nn h
  have hf := pm_fp l
  rw [wrap_mid (by omega), wrap_mid (by omega)]
  exact hf
theorem fr_fp (l : List UInt8) : frB ((fp l).1 : Int) ((fp l).2 : Int) = (decide ((fp l).1 ≤ 1000000) && decide ((fp l).2 ≤ 1000000)) := by
  have hp := fp_pos l
  have hg := fp_gcd l
  rw [Bool.eq_iff_iff, frB_iff]
  simp only [Int.toNat_natCast, hg, and_true, Bool.and_eq_true, decide_eq_true_eq]
  omega
/-- the fraction of a word, by 'fp' -/
theorem wfr_fp {l : List UInt8} (h : wdL l = true) : wfr l = if (decide ((fp l).1 ≤ 1000000) && decide ((fp l).2 ≤ 1000000)) = true then ((((fp l).1 : Int), ((fp l).2 : Int)), true) else ((0, 0), false) := by
  obtain ⟨_, h40⟩ := wdL_iff.1 h
  obtain ⟨e1, e2⟩ := pm_wrap h40
  simp only [wfr, h, Bool.true_and, e1, e2, fr_fp]
theorem wfr_word {l : List UInt8} (h : (wfr l).2 = true) : wdL l = true := by
  cases hw : wdL l
  · simp [wfr, hw] at h
  · rfl
theorem fraction_back {s : ByteArray} (h : (wfr s.data.toList).2 = true) : wto (wfr s.data.toList).1.1 (wfr s.data.toList).1.2 = (s, true) := by
  have hw := wfr_word h
  obtain ⟨hl, h40⟩ := wdL_iff.1 hw
  rw [wfr_fp hw] at h ⊢
  by_cases hb : (decide ((fp s.data.toList).1 ≤ 1000000) && decide ((fp s.data.toList).2 ≤ 1000000)) = true
  · rw [if_pos hb]
    have hf : frB ((fp s.data.toList).1 : Int) ((fp s.data.toList).2 : Int) = true := by rw [fr_fp]; exact hb
    simp only [wto, hf, if_true, Int.toNat_natCast, fwd, lets_fp hl]
    rw [if_pos h40, txt_of]
  · rw [if_neg hb] at h; cases h
theorem word_fraction {p q : Int} (h : (wto p q).2 = true) : wfr (wto p q).1.data.toList = ((p, q), true) := by
  unfold wto at h ⊢
  cases hf : frB p q
  · simp [hf] at h
  · simp only [hf, if_true] at h ⊢
    unfold fwd at h ⊢
    by_cases h40 : (lets p.toNat q.toNat).length ≤ 40
    · rw [if_pos h40]
      obtain ⟨h1, h2, h3, h4, hg⟩ := frB_iff.1 hf
      have hw : wdL (lets p.toNat q.toNat) = true := wdL_iff.2 ⟨lets_all _ _, h40⟩
      have hp := fp_lets p.toNat q.toNat (by omega) (by omega) hg
      rw [txt_list, wfr_fp hw, hp, if_pos (by simp; omega)]
      simp only [Prod.mk.injEq, and_true]
      omega
    · rw [if_neg h40] at h; cases h

theorem all_oth (l : List UInt8) : (l.map oth).all letB = true := by
  rw [List.all_eq_true]
  intro x hx
  obtain ⟨c, _, rfl⟩ := List.mem_map.1 hx
  exact oth_let c
theorem wdL_oth {l : List UInt8} (h : wdL l = true) : wdL (l.map oth) = true := wdL_iff.2 ⟨all_oth l, by simpa using (wdL_iff.1 h).2⟩
theorem wdL_back {l : List UInt8} (h : wdL l = true) : wdL (l.map oth).reverse = true := wdL_iff.2 ⟨by rw [List.all_reverse]; exact all_oth l, by simpa using (wdL_iff.1 h).2⟩
theorem map_oth {l : List UInt8} (h : l.all letB = true) : (l.map oth).map oth = l := by
  rw [List.map_map]
  conv => rhs; rw [← List.map_id l]
  refine List.map_congr_left fun x hx => ?_
  rw [List.all_eq_true] at h
  exact oth_oth (h x hx)
theorem fp_oth : ∀ {l : List UInt8}, l.all letB = true → fp (l.map oth) = ((fp l).2, (fp l).1)
  | [], _ => rfl
  | c :: l, h => by
    simp only [List.all_cons, Bool.and_eq_true] at h
    have ih := fp_oth h.2
    rw [List.map_cons, fp, ih, fp]
    rcases letB_iff.1 h.1 with rfl | rfl
    · rw [show oth 76 = 82 from rfl]; simp
    · rw [show oth 82 = 76 from rfl]; simp
theorem wfr_oth {l : List UInt8} (h : wdL l = true) : wfr (l.map oth) = (((wfr l).1.2, (wfr l).1.1), (wfr l).2) := by
  rw [wfr_fp h, wfr_fp (wdL_oth h), fp_oth (wdL_iff.1 h).1, Bool.and_comm]
  split <;> rfl
theorem tn_fx (c : UInt8) (h : letB c = true) (m : M) : tn (fx c m) = sx (tn m) (oth c) := by
  rcases letB_iff.1 h with rfl | rfl
  · rw [show oth 76 = 82 from rfl]; simp only [tn, fx, sx]; simp
  · rw [show oth 82 = 76 from rfl]; simp only [tn, fx, sx]; simp
theorem pm_snoc (l : List UInt8) (c : UInt8) : pm (l ++ [c]) = sx (pm l) c := by simp [pm]
theorem pm_back : ∀ {l : List UInt8}, l.all letB = true → pm (l.map oth).reverse = tn (pm l)
  | [], _ => rfl
  | c :: l, h => by
    simp only [List.all_cons, Bool.and_eq_true] at h
    rw [List.map_cons, List.reverse_cons, pm_snoc, pm_back h.2, pm_cons, tn_fx c h.1]
theorem inB_tn (m : M) : inB (tn m) = inB m := by
  rw [Bool.eq_iff_iff, inB_iff, inB_iff]
  simp only [tn]
  omega
theorem wmt_back {l : List UInt8} (h : wdL l = true) : wmt (l.map oth).reverse = (tn (wmt l).1, (wmt l).2) := by
  obtain ⟨hl, h40⟩ := wdL_iff.1 h
  have hw := wdL_back h
  simp only [wmt, h, hw, if_true, ck]
  rw [im_pm (l := (l.map oth).reverse) (by simp; omega), im_pm (l := l) (by omega), pm_back hl, inB_tn]
  by_cases hi : inB (pm l) = true
  · rw [if_pos hi, if_pos hi]
  · rw [if_neg hi, if_neg hi]; rfl
theorem wmt_in {l : List UInt8} (h : (wmt l).2 = true) : inB (wmt l).1 = true ∧ wdL l = true ∧ (wmt l).1 = pm l := by
  unfold wmt at h ⊢
  cases hw : wdL l
  · simp [hw] at h
  · obtain ⟨_, h40⟩ := wdL_iff.1 hw
    simp only [hw, if_true, ck] at h ⊢
    rw [im_pm (by omega)] at h ⊢
    by_cases hi : inB (pm l) = true
    · rw [if_pos hi]; exact ⟨hi, trivial, rfl⟩
    · rw [if_neg hi] at h; cases h
/-- words lead back from matrices -/
theorem wof_wmt {s : ByteArray} (h : (wmt s.data.toList).2 = true) : wof (wmt s.data.toList).1 = (s, true) ∧ (inB (wmt s.data.toList).1 && evB (wmt s.data.toList).1) = true := by
  obtain ⟨h1, h2, h3⟩ := wmt_in h
  obtain ⟨hl, h40⟩ := wdL_iff.1 h2
  rw [h3] at h1 ⊢
  have he : evB (pm s.data.toList) = true := (evB_iff h1).2 (pm_det _)
  have hn := pm_nnM h40
  refine ⟨?_, by simp [h1, he]⟩
  simp only [wof, h1, he, ngB_iff.2 hn, Bool.true_and, Bool.not_false, if_true]
  have hwl := wl_pm hl
  unfold wl at hwl
  rw [fwd, hwl, if_pos h40, txt_of]
/-- matrices lead back from words -/
theorem wmt_wof {m : M} (h : (wof m).2 = true) : wmt (wof m).1.data.toList = (m, true) := by
  have hc : inB m = true ∧ evB m = true ∧ ngB m = false := by
    unfold wof at h
    cases h1 : inB m <;> cases h2 : evB m <;> cases h3 : ngB m <;> simp [h1, h2, h3] at h ⊢
  obtain ⟨h1, h2, h3⟩ := hc
  have hn := ngB_iff.1 h3
  have hd := (evB_iff h1).1 h2
  have hw := pm_wl m hn hd
  unfold wof at h ⊢
  simp only [h1, h2, h3, Bool.true_and, Bool.not_false, if_true] at h ⊢
  unfold fwd at h ⊢
  by_cases h40 : (lets (P1 m) (P2 m)).length ≤ 40
  · rw [if_pos h40, txt_list]
    unfold wl at hw
    have hwd : wdL (lets (P1 m) (P2 m)) = true := wdL_iff.2 ⟨lets_all _ _, h40⟩
    simp only [wmt, hwd, if_true, ck]
    rw [im_pm (by omega), hw, if_pos h1]
  · rw [if_neg h40] at h; cases h
end Go.Proofs.YtpalgnfimelioaaGreatDoor

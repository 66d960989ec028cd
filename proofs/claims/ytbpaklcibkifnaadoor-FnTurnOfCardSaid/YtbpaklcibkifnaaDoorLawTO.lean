
/- The laws on drawn lists: the matrix of a list with two turns ahead. Under the card's condition on the package's variable. -/
import Derived.Test.YtbpaklcibkifnaaDoorLawTD
import Derived.Test.YtbpaklcibkifnaaDoorApp
namespace Go.Proofs.YtbpaklcibkifnaaDoor
open Go.RowKit

/-- a matrix with its signs turned -/
def ng (m : M) : M := ⟨-m.a, -m.b, -m.c, -m.d⟩
theorem stp_ng (m : M) (x : Int) : stp (ng m) x = ng (stp m x) := by
  simp only [stp, ng, Int.neg_mul]
  apply M.ext' <;> simp <;> omega
theorem in_ng (m : M) : inB (ng m) = inB m := by
  rw [Bool.eq_iff_iff, inB_iff, inB_iff]
  simp only [ng]
  omega
theorem matF_ng : ∀ (l : List Int) (m : M), matF (ng m) l = (ng (matF m l).1, (matF m l).2)
  | [], _ => rfl
  | x :: l, m => by
    cases h : inB (stp m x)
    · rw [matF_no h, matF_no (by rw [stp_ng, in_ng, h]), stp_ng]
    · rw [matF_yes h, matF_yes (by rw [stp_ng, in_ng, h]), stp_ng, matF_ng l]
theorem lmat_00 {zs : List Int} (h : lsB zs = true) : lmat (0 :: 0 :: zs) = (ng (lmat zs).1, (lmat zs).2) := by
  obtain ⟨⟨h3, _⟩, h4⟩ := lsB_iff.1 h
  cases zs with
  | nil => simp at h3
  | cons x l =>
    have hx := h4 x List.mem_cons_self
    have e0 : stp (sh 0) 0 = ⟨0, -1, 1, 0⟩ := by simp [stp, sh]
    have e1 : stp ⟨0, -1, 1, 0⟩ x = ng (sh x) := by
      simp only [stp, ng, sh]
      apply M.ext' <;> simp
    have i1 : inB (stp (sh 0) 0) = true := by rw [e0]; decide
    have i2 : inB (stp ⟨0, -1, 1, 0⟩ x) = true := by rw [e1, in_ng]; exact sh_in hx
    show matF (sh 0) (0 :: x :: l) = _
    rw [matF_yes i1, e0, matF_yes i2, e1, matF_ng]
    rfl
theorem tof_00 {zs : List Int} (h : (tof zs).2 = true) (h2 : zs.length ≤ 18) : tof (0 :: 0 :: zs) = (ng (tof zs).1, true) := by
  obtain ⟨hl, hm, e, _⟩ := tof_in h
  have hl2 : lsB (0 :: 0 :: zs) = true := by
    obtain ⟨⟨h3, _⟩, h4⟩ := lsB_iff.1 hl
    refine lsB_iff.2 ⟨⟨by simp, by simp; omega⟩, fun x hx => ?_⟩
    rcases List.mem_cons.1 hx with rfl | hx
    · omega
    · rcases List.mem_cons.1 hx with rfl | hx
      · omega
      · exact h4 x hx
  rw [tof_ls hl2, lmat_00 hl, hm, e]
  rfl
theorem row_two {W : World} {base g : Nat} (h : W.heap[g]? = some (.cells #[.int .i64 0, .int .i64 0] 3 (0, 0))) (hb : base ≤ g) : W.ownsRow base 3 1 (.slice (some ⟨g, 0, none⟩) 2 2) 2 [.int .i64 0, .int .i64 0] :=
  ⟨rfl, .inr ⟨g, 2, _, rfl, hb, h, Nat.le_refl _, by decide, rfl, rfl⟩⟩
theorem rdO_news {W : World} {g gc : Nat} {qs : List Int} (h : RdO W (.slice (some ⟨g, 0, none⟩) qs.length gc) qs) : ∀ j u, (qs.map (Value.int .i64))[j]? = some u → W.cell? ((⟨g, 0, none⟩ : Addr).add j) = some u := by
  obtain ⟨ao, cap, e, _, hc⟩ := h
  intro j u hu
  have hj : j < qs.length := by have := (List.getElem?_eq_some_iff.1 hu).1; simpa using this
  obtain ⟨g', o', e', h3⟩ := hc j hj
  injection e with e
  subst e
  injection e' with e'
  injection e' with e1 e2
  subst e1 e2
  rw [Addr.add_lit, h3]
  simp [hj] at hu
  subst hu
  simp [List.getD, hj]
theorem row_00 {base : Nat} {W : World} {v : Value} {qs : List Int} (h : W.ownsRow base 3 1 v (2 + qs.length) ([.int .i64 0, .int .i64 0] ++ qs.map (Value.int .i64))) : RdO W v (0 :: 0 :: qs) := by
  refine IntRow.rdO (base := base) ?_
  unfold IntRow
  rw [List.length_map, show (0 :: 0 :: qs).length = 2 + qs.length by simp; omega]
  exact h
set_option maxHeartbeats 2000000 in
set_option maxRecDepth 100000 in
theorem lawTurnOfD (A : Option Addr) (len cap : Nat) (zs : List Int) (w : World) (hg : Hnd w) (hRow : RowB .u8 w w.heap.size A len cap zs) : Calls Tryd.prog 3 #[.slice A len cap] w (fun E' W' => E' = .returned (.bool true) ∧ Below w.heap.size w W') := by
  by_cases hl : 1048576 < len
  · have hM := mem_nil w; have hB := Below.refl w.heap.size w; have hC := True.intro
    go_enter Tryd.func3, Tryd.ntmps3
    go_wp2
    go_ret
    exact ⟨rfl, by (repeat' (first | (with_reducible exact hB) | (with_reducible exact Below.refl _ _) | (with_reducible refine Below.alloc ?_ ?_ _) | (with_reducible refine Below.setCell ?_ ?_ _) | (with_reducible refine Below.drew ?_) | (with_reducible refine below_drewN ?_ _) | (with_reducible exact Nat.le_refl _) | (with_reducible exact hB.size) | (simp [go_sem]; done) | (have := hB.size; simp [go_sem]; omega)))⟩
  · have hM := mem_nil w; have hB := Below.refl w.heap.size w; have hC := True.intro
    go_enter Tryd.func3, Tryd.ntmps3
    go_upto_region 4 with (go_at_call 7; apply use_listrow (w := w) hRow (DrawTurnOf_ _ _ _ _) hB (Nat.le_refl _); rintro v qs w' ⟨g, gc, cur, rfl, hgc, hge, hrd⟩ hql hb; have HRD := Lib.hid hrd; replace hM := mem_one hgc; replace hB := hb; clear hrd hb hgc; have hC := mem_facts hM; simp at hC)
    have hz : qs.length ≤ 1000000000 := by omega
    have hv := fun W hW => HRD.out W hW
    have hS := fun W hv => sTurnOf_ (.slice (some ⟨g, 0, none⟩) qs.length gc) qs hz W hv
    have hT := fun W hg hv => TurnOf_ (.slice (some ⟨g, 0, none⟩) qs.length gc) qs hz W hg hv
    cases h : (tof qs).2
    · rw [h] at hS hT
      clear h
      generalize (tof qs).1 = m at *
      go_wp2_with (first | (go_at_call 8; refine (hT _ (hg.of (by (repeat' (first | (with_reducible exact hB) | (with_reducible exact Below.refl _ _) | (with_reducible refine Below.alloc ?_ ?_ _) | (with_reducible refine Below.setCell ?_ ?_ _) | (with_reducible refine Below.drew ?_) | (with_reducible refine below_drewN ?_ _) | (with_reducible exact Nat.le_refl _) | (with_reducible exact hB.size) | (simp [go_sem]; done) | (have := hB.size; simp [go_sem]; omega))))) (hv _ (at_mem (by (repeat' (first | (with_reducible exact hM) | (with_reducible apply mem_alloc) | (with_reducible apply mem_set) | (with_reducible apply mem_drew) | (with_reducible apply mem_drewN)))) (by simp)))).mono ?_; rintro e w' ⟨rfl, hb⟩; apply after_call (w := w) hb; (focus ((repeat' (first | (with_reducible exact hM) | (with_reducible apply mem_alloc) | (with_reducible apply mem_set) | (with_reducible apply mem_drew) | (with_reducible apply mem_drewN))); done)); (focus ((repeat' (first | (with_reducible exact hB) | (with_reducible exact Below.refl _ _) | (with_reducible refine Below.alloc ?_ ?_ _) | (with_reducible refine Below.setCell ?_ ?_ _) | (with_reducible refine Below.drew ?_) | (with_reducible refine below_drewN ?_ _) | (with_reducible exact Nat.le_refl _) | (with_reducible exact hB.size) | (simp [go_sem]; done) | (have := hB.size; simp [go_sem]; omega))); done)); (focus ((repeat' (first | (with_reducible exact hB) | (with_reducible exact Below.refl _ _) | (with_reducible refine Below.alloc ?_ ?_ _) | (with_reducible refine Below.setCell ?_ ?_ _) | (with_reducible refine Below.drew ?_) | (with_reducible refine below_drewN ?_ _) | (with_reducible exact Nat.le_refl _) | (with_reducible exact hB.size) | (simp [go_sem]; done) | (have := hB.size; simp [go_sem]; omega))); done)); clear hM hB hb; intro hM hB; (try clear hC); have hC := mem_facts hM; simp at hC) | (go_at_call 9; refine (hS _ (hv _ (at_mem (by (repeat' (first | (with_reducible exact hM) | (with_reducible apply mem_alloc) | (with_reducible apply mem_set) | (with_reducible apply mem_drew) | (with_reducible apply mem_drewN)))) (by simp)))).mono ?_; rintro e w' ⟨rfl, hb⟩; apply after_call (w := w) hb; (focus ((repeat' (first | (with_reducible exact hM) | (with_reducible apply mem_alloc) | (with_reducible apply mem_set) | (with_reducible apply mem_drew) | (with_reducible apply mem_drewN))); done)); (focus ((repeat' (first | (with_reducible exact hB) | (with_reducible exact Below.refl _ _) | (with_reducible refine Below.alloc ?_ ?_ _) | (with_reducible refine Below.setCell ?_ ?_ _) | (with_reducible refine Below.drew ?_) | (with_reducible refine below_drewN ?_ _) | (with_reducible exact Nat.le_refl _) | (with_reducible exact hB.size) | (simp [go_sem]; done) | (have := hB.size; simp [go_sem]; omega))); done)); (focus ((repeat' (first | (with_reducible exact hB) | (with_reducible exact Below.refl _ _) | (with_reducible refine Below.alloc ?_ ?_ _) | (with_reducible refine Below.setCell ?_ ?_ _) | (with_reducible refine Below.drew ?_) | (with_reducible refine below_drewN ?_ _) | (with_reducible exact Nat.le_refl _) | (with_reducible exact hB.size) | (simp [go_sem]; done) | (have := hB.size; simp [go_sem]; omega))); done)); clear hM hB hb; intro hM hB; (try clear hC); have hC := mem_facts hM; simp at hC))
      go_ret
      exact ⟨rfl, by (repeat' (first | (with_reducible exact hB) | (with_reducible exact Below.refl _ _) | (with_reducible refine Below.alloc ?_ ?_ _) | (with_reducible refine Below.setCell ?_ ?_ _) | (with_reducible refine Below.drew ?_) | (with_reducible refine below_drewN ?_ _) | (with_reducible exact Nat.le_refl _) | (with_reducible exact hB.size) | (simp [go_sem]; done) | (have := hB.size; simp [go_sem]; omega)))⟩
    · obtain ⟨hls, _, _, hin, hxd⟩ := tof_in h
      have h00 := tof_00 h (by omega)
      have hT2 := fun v W hg hv => TurnOf_ v (0 :: 0 :: qs) (by simp; omega) W hg hv
      rw [h00] at hT2
      rw [h] at hS hT
      have hE : (inB (tof qs).1 && evB (tof qs).1) = true := by rw [(evB_iff hin).2 hxd, hin]; rfl
      clear h h00 hls hxd
      generalize (tof qs).1 = m at *
      obtain ⟨a, b, c, d⟩ := m
      have hME := fun W => MatEven_ a b c d W
      rw [hE] at hME
      obtain ⟨k1, k2, k3, k4⟩ := inB_iff.1 hin
      dsimp only at k1 k2 k3 k4
      have e1 : wrap64 (0 - a) = -a := by rw [wrap_mid (by omega)]; omega
      have e2 : wrap64 (0 - b) = -b := by rw [wrap_mid (by omega)]; omega
      have e3 : wrap64 (0 - c) = -c := by rw [wrap_mid (by omega)]; omega
      have e4 : wrap64 (0 - d) = -d := by rw [wrap_mid (by omega)]; omega
      simp only [ng] at hT2
      have hq18 : (18 < (qs.length : Int)) = False := by simp; omega
      obtain ⟨i0, hi, hz0, hz1, hz2⟩ := info_parts infoI64
      go_wp2_with (first | (go_at_call 8; refine (hT2 _ _ (hg.of (by (repeat' (first | (with_reducible exact hB) | (with_reducible exact Below.refl _ _) | (with_reducible refine Below.alloc ?_ ?_ _) | (with_reducible refine Below.setCell ?_ ?_ _) | (with_reducible refine Below.drew ?_) | (with_reducible refine below_drewN ?_ _) | (with_reducible exact Nat.le_refl _) | (with_reducible exact hB.size) | (simp [go_sem]; done) | (have := hB.size; simp [go_sem]; omega))))) hrow1).mono ?_; rintro e w' ⟨rfl, hb⟩; apply after_call (w := w) hb; (focus ((repeat' (first | (with_reducible exact hM) | (with_reducible apply mem_alloc) | (with_reducible apply mem_set) | (with_reducible apply mem_drew) | (with_reducible apply mem_drewN))); done)); (focus ((repeat' (first | (with_reducible exact hB) | (with_reducible exact Below.refl _ _) | (with_reducible refine Below.alloc ?_ ?_ _) | (with_reducible refine Below.setCell ?_ ?_ _) | (with_reducible refine Below.drew ?_) | (with_reducible refine below_drewN ?_ _) | (with_reducible exact Nat.le_refl _) | (with_reducible exact hB.size) | (simp [go_sem]; done) | (have := hB.size; simp [go_sem]; omega))); done)); (focus ((repeat' (first | (with_reducible exact hB) | (with_reducible exact Below.refl _ _) | (with_reducible refine Below.alloc ?_ ?_ _) | (with_reducible refine Below.setCell ?_ ?_ _) | (with_reducible refine Below.drew ?_) | (with_reducible refine below_drewN ?_ _) | (with_reducible exact Nat.le_refl _) | (with_reducible exact hB.size) | (simp [go_sem]; done) | (have := hB.size; simp [go_sem]; omega))); done)); clear hM hB hb; intro hM hB; (try clear hC); have hC := mem_facts hM; simp at hC) | (go_at_call 8; refine (hT _ (hg.of (by (repeat' (first | (with_reducible exact hB) | (with_reducible exact Below.refl _ _) | (with_reducible refine Below.alloc ?_ ?_ _) | (with_reducible refine Below.setCell ?_ ?_ _) | (with_reducible refine Below.drew ?_) | (with_reducible refine below_drewN ?_ _) | (with_reducible exact Nat.le_refl _) | (with_reducible exact hB.size) | (simp [go_sem]; done) | (have := hB.size; simp [go_sem]; omega))))) (hv _ (at_mem (by (repeat' (first | (with_reducible exact hM) | (with_reducible apply mem_alloc) | (with_reducible apply mem_set) | (with_reducible apply mem_drew) | (with_reducible apply mem_drewN)))) (by simp)))).mono ?_; rintro e w' ⟨rfl, hb⟩; apply after_call (w := w) hb; (focus ((repeat' (first | (with_reducible exact hM) | (with_reducible apply mem_alloc) | (with_reducible apply mem_set) | (with_reducible apply mem_drew) | (with_reducible apply mem_drewN))); done)); (focus ((repeat' (first | (with_reducible exact hB) | (with_reducible exact Below.refl _ _) | (with_reducible refine Below.alloc ?_ ?_ _) | (with_reducible refine Below.setCell ?_ ?_ _) | (with_reducible refine Below.drew ?_) | (with_reducible refine below_drewN ?_ _) | (with_reducible exact Nat.le_refl _) | (with_reducible exact hB.size) | (simp [go_sem]; done) | (have := hB.size; simp [go_sem]; omega))); done)); (focus ((repeat' (first | (with_reducible exact hB) | (with_reducible exact Below.refl _ _) | (with_reducible refine Below.alloc ?_ ?_ _) | (with_reducible refine Below.setCell ?_ ?_ _) | (with_reducible refine Below.drew ?_) | (with_reducible refine below_drewN ?_ _) | (with_reducible exact Nat.le_refl _) | (with_reducible exact hB.size) | (simp [go_sem]; done) | (have := hB.size; simp [go_sem]; omega))); done)); clear hM hB hb; intro hM hB; (try clear hC); have hC := mem_facts hM; simp at hC) | (go_at_call 9; refine (hS _ (hv _ (at_mem (by (repeat' (first | (with_reducible exact hM) | (with_reducible apply mem_alloc) | (with_reducible apply mem_set) | (with_reducible apply mem_drew) | (with_reducible apply mem_drewN)))) (by simp)))).mono ?_; rintro e w' ⟨rfl, hb⟩; apply after_call (w := w) hb; (focus ((repeat' (first | (with_reducible exact hM) | (with_reducible apply mem_alloc) | (with_reducible apply mem_set) | (with_reducible apply mem_drew) | (with_reducible apply mem_drewN))); done)); (focus ((repeat' (first | (with_reducible exact hB) | (with_reducible exact Below.refl _ _) | (with_reducible refine Below.alloc ?_ ?_ _) | (with_reducible refine Below.setCell ?_ ?_ _) | (with_reducible refine Below.drew ?_) | (with_reducible refine below_drewN ?_ _) | (with_reducible exact Nat.le_refl _) | (with_reducible exact hB.size) | (simp [go_sem]; done) | (have := hB.size; simp [go_sem]; omega))); done)); (focus ((repeat' (first | (with_reducible exact hB) | (with_reducible exact Below.refl _ _) | (with_reducible refine Below.alloc ?_ ?_ _) | (with_reducible refine Below.setCell ?_ ?_ _) | (with_reducible refine Below.drew ?_) | (with_reducible refine below_drewN ?_ _) | (with_reducible exact Nat.le_refl _) | (with_reducible exact hB.size) | (simp [go_sem]; done) | (have := hB.size; simp [go_sem]; omega))); done)); clear hM hB hb; intro hM hB; (try clear hC); have hC := mem_facts hM; simp at hC) | (at_builtin; refine wpList_append_own _ rfl _ _ 23 rfl w.heap.size 3 i0 (.int .i64 0) 1 8 Tryd.underlying23 hi hz0 hz1 hz2 rfl (by decide) _ 2 [.int .i64 0, .int .i64 0] rfl (row_two (at_mem (by (repeat' (first | (with_reducible exact hM) | (with_reducible apply mem_alloc) | (with_reducible apply mem_set) | (with_reducible apply mem_drew) | (with_reducible apply mem_drewN)))) (by simp)) (by have := hB.size; simp; omega)) ⟨g, 0, none⟩ qs.length gc (qs.map (Value.int .i64)) rfl (by simp) (rdO_news (HRD.out _ (at_mem (by (repeat' (first | (with_reducible exact hM) | (with_reducible apply mem_alloc) | (with_reducible apply mem_set) | (with_reducible apply mem_drew) | (with_reducible apply mem_drewN)))) (by simp)))) (by intro u hu; obtain ⟨x, _, rfl⟩ := List.mem_map.1 hu; rfl) (by simp [maxLen]; omega) (by omega) (by have := hB.size; simp; omega) ?_; intro v1 w1 hown1 hgrow1 hnn; clear hnn; refine after_app2 (w := w) hgrow1 (row_two (at_mem (by (repeat' (first | (with_reducible exact hM) | (with_reducible apply mem_alloc) | (with_reducible apply mem_set) | (with_reducible apply mem_drew) | (with_reducible apply mem_drewN)))) (by simp)) (by have := hB.size; simp; omega)) (by (repeat' (first | (with_reducible exact hM) | (with_reducible apply mem_alloc) | (with_reducible apply mem_set) | (with_reducible apply mem_drew) | (with_reducible apply mem_drewN)))) (by (repeat' (first | (with_reducible exact hB) | (with_reducible exact Below.refl _ _) | (with_reducible refine Below.alloc ?_ ?_ _) | (with_reducible refine Below.setCell ?_ ?_ _) | (with_reducible refine Below.drew ?_) | (with_reducible refine below_drewN ?_ _) | (with_reducible exact Nat.le_refl _) | (with_reducible exact hB.size) | (simp [go_sem]; done) | (have := hB.size; simp [go_sem]; omega)))) (by have := hB.size; simp; omega) ?_; clear hM hB hgrow1; intro hM hB; (repeat (first | rw [filt_m] at hM | rw [filt_i] at hM | rw [List.filter_nil] at hM)); (try clear hC); have hC := mem_facts hM; (try simp at hC); have hrow1 := row_00 hown1; clear hown1) | (go_at_call 10; refine (hME _).mono ?_; rintro e w' ⟨rfl, hb⟩; apply after_call (w := w) hb; (focus ((repeat' (first | (with_reducible exact hM) | (with_reducible apply mem_alloc) | (with_reducible apply mem_set) | (with_reducible apply mem_drew) | (with_reducible apply mem_drewN))); done)); (focus ((repeat' (first | (with_reducible exact hB) | (with_reducible exact Below.refl _ _) | (with_reducible refine Below.alloc ?_ ?_ _) | (with_reducible refine Below.setCell ?_ ?_ _) | (with_reducible refine Below.drew ?_) | (with_reducible refine below_drewN ?_ _) | (with_reducible exact Nat.le_refl _) | (with_reducible exact hB.size) | (simp [go_sem]; done) | (have := hB.size; simp [go_sem]; omega))); done)); (focus ((repeat' (first | (with_reducible exact hB) | (with_reducible exact Below.refl _ _) | (with_reducible refine Below.alloc ?_ ?_ _) | (with_reducible refine Below.setCell ?_ ?_ _) | (with_reducible refine Below.drew ?_) | (with_reducible refine below_drewN ?_ _) | (with_reducible exact Nat.le_refl _) | (with_reducible exact hB.size) | (simp [go_sem]; done) | (have := hB.size; simp [go_sem]; omega))); done)); clear hM hB hb; intro hM hB; (try clear hC); have hC := mem_facts hM; simp at hC))
      go_ret
      exact ⟨rfl, by (repeat' (first | (with_reducible exact hB) | (with_reducible exact Below.refl _ _) | (with_reducible refine Below.alloc ?_ ?_ _) | (with_reducible refine Below.setCell ?_ ?_ _) | (with_reducible refine Below.drew ?_) | (with_reducible refine below_drewN ?_ _) | (with_reducible exact Nat.le_refl _) | (with_reducible exact hB.size) | (simp [go_sem]; done) | (have := hB.size; simp [go_sem]; omega)))⟩
theorem goTurnOfD (A : Option Addr) (len cap : Nat) (zs : List Int) (w : World) (hg : Hnd w) (h : IsRow .u8 w A len cap zs) : Calls Tryd.prog 3 #[.slice A len cap] w (fun E' W' => E' = .returned (.bool true) ∧ Below w.heap.size w W') := lawTurnOfD A len cap zs w hg (rowB h)
end Go.Proofs.YtbpaklcibkifnaaDoor


/- The law on drawn matrices: their lists lead back. Under the card's condition on the package's variable. -/
import Derived.Test.YtbpaklcibkifnaaDoorTurnV
import Derived.Test.YtbpaklcibkifnaaDoorTurnT
import Derived.Test.YtbpaklcibkifnaaDoorTurnO
import Derived.Test.YtbpaklcibkifnaaDoorTurnJ
import Derived.Test.YtbpaklcibkifnaaDoorSame
import Derived.Test.YtbpaklcibkifnaaDoorDrawG
namespace Go.Proofs.YtbpaklcibkifnaaDoor
open Go.RowKit

theorem red_in : ∀ (n : Nat) (m : M), inB m = true → xd m = 1 → inB (red n m).2 = true
  | 0, m, h, _ => h
  | n + 1, m, h, hd => by
    by_cases hc : m.c = 0
    · simp only [red, if_pos hc]; exact h
    · simp only [red, if_neg hc]
      exact red_in n _ (nxm_in h hd hc).1 (by rw [xd_nxm, hd])
theorem tlr_facts {m : M} (h : (tlr m).2 = true) : ((tlr m).1.2 = 1 ∨ (tlr m).1.2 = -1) ∧ tof (tlr m).1.1 = (scl (tlr m).1.2 m, true) ∧ prB (tlr m).1.1 = true ∧ inB m = true := by
  unfold tlr at h ⊢
  split at h
  · rename_i hc
    rw [if_pos hc]
    simp only [Bool.and_eq_true] at hc
    obtain ⟨⟨h1, h2⟩, h3⟩ := hc
    have hd := (evB_iff h1).1 h2
    obtain ⟨f1, f2, f3⟩ := tlm_facts h1 hd
    have hin : inB (tlm m).2 = true := red_in _ m h1 hd
    obtain ⟨_, kb, _, _⟩ := inB_iff.1 hin
    have ew : wrap64 ((tlm m).2.b * (tlm m).2.d) = (tlm m).2.b * (tlm m).2.d := wrap_mid (by rcases f1 with e | e <;> rw [e] <;> omega)
    have et : (tls m).1 = (tlm m).1 ++ [(tlm m).2.b * (tlm m).2.d] := by rw [tls, ew]
    refine ⟨f1, ?_, ?_, h1⟩
    · show tof (tls m).1 = _
      rw [tof_ls h3, et, f2]
      rfl
    · show prB (tls m).1 = true
      refine Bool.and_eq_true_iff.2 ⟨h3, plB_iff.2 fun i hi hi1 => ?_⟩
      rw [et] at hi ⊢
      simp at hi
      have e : ((tlm m).1 ++ [(tlm m).2.b * (tlm m).2.d]).getD i 0 = (tlm m).1.getD i 0 := by
        simp [List.getD, List.getElem?_append_left hi]
      rw [e]
      have e2 : (tlm m).1.getD i 0 = (tlm m).1[i] := by simp [List.getD, hi]
      have hmem : (tlm m).1[i] ∈ (tlm m).1.tail := by
        have hi2 : i - 1 < (tlm m).1.tail.length := by rw [List.length_tail]; omega
        have e3 : (tlm m).1.tail[i - 1] = (tlm m).1[i] := by
          rw [List.getElem_tail]
          congr 1
          omega
        rw [← e3]
        exact List.getElem_mem _
      have := f3 _ hmem
      rw [e2]
      exact ouB_iff.2 (by omega)
  · cases h
theorem tlr_len' (m : M) : (tlr m).1.1.length ≤ 21 := by
  unfold tlr
  split
  · rename_i h
    simp only [Bool.and_eq_true] at h
    have := tlm_len h.1.1 ((evB_iff h.1.1).1 h.1.2)
    simp [tls]; omega
  · simp
theorem row_alloc {base : Nat} {W : World} {v : Value} {qs : List Int} (h : IntRow base W v qs) (o : Obj) : IntRow base (W.alloc o) v qs := World.ownsRow.alloc h o
theorem DrawTurnList_ (A : Option Addr) (len cap : Nat) (zs : List Int) (w : World) (hRow : RowB .u8 w w.heap.size A len cap zs) : Calls Tryd.prog 11 #[.slice A len cap] w (MatPost w) := by
  have hM := mem_nil w; have hB := Below.refl w.heap.size w; have hC := True.intro
  go_enter Tryd.func11, Tryd.ntmps11
  go_wp2_with (first | (go_at_call 33; apply use_open (w := w) hRow; (focus ((repeat' (first | (with_reducible exact hM) | (with_reducible apply mem_alloc) | (with_reducible apply mem_set) | (with_reducible apply mem_drew) | (with_reducible apply mem_drewN))); done)); (focus ((repeat' (first | (with_reducible exact hB) | (with_reducible exact Below.refl _ _) | (with_reducible refine Below.alloc ?_ ?_ _) | (with_reducible refine Below.setCell ?_ ?_ _) | (with_reducible refine Below.drew ?_) | (with_reducible refine below_drewN ?_ _) | (with_reducible exact Nat.le_refl _) | (with_reducible exact hB.size) | (simp [go_sem]; done) | (have := hB.size; simp [go_sem]; omega))); done)); (focus ((repeat' (first | (with_reducible exact hB) | (with_reducible exact Below.refl _ _) | (with_reducible refine Below.alloc ?_ ?_ _) | (with_reducible refine Below.setCell ?_ ?_ _) | (with_reducible refine Below.drew ?_) | (with_reducible refine below_drewN ?_ _) | (with_reducible exact Nat.le_refl _) | (with_reducible exact hB.size) | (simp [go_sem]; done) | (have := hB.size; simp [go_sem]; omega))); done)); (focus (simp; done)); rintro R w' hI hRge; clear hM hB; (try simp at hI); (try clear hC); have hC := mem_facts hI.1; simp at hC) | (go_at_call 34; apply use_rd (w := w) (R := R) (fun hb hr hq => pickD _ _ _ _ _ hb hr hq); (focus ((repeat' (first | (with_reducible exact hI) | (with_reducible apply inv_alloc) | (with_reducible apply inv_drew) | (with_reducible apply inv_drewN) | (with_reducible apply inv_set) | (simp only [setL_map]; simp; done) | (simp; done))); done)); (focus omega); rintro v' w' ⟨x, rfl, hx0, hx1, _⟩; clear hI; intro hI; (try simp at hI); (try clear hC); have hC := mem_facts hI.1; simp at hC) | (go_at_call 35; apply use_rd (w := w) (R := R) (fun hb hr hq => l91Mat_ _ _ _ _ hb hr hq); (focus ((repeat' (first | (with_reducible exact hI) | (with_reducible apply inv_alloc) | (with_reducible apply inv_drew) | (with_reducible apply inv_drewN) | (with_reducible apply inv_set) | (simp only [setL_map]; simp; done) | (simp; done))); done)); (focus omega); rintro v' w' ⟨a, b, c, d, rfl⟩; clear hI; intro hI; (try simp at hI); (try clear hC); have hC := mem_facts hI.1; simp at hC) | (go_at_call 36; apply use_rd (w := w) (R := R) (fun hb hr hq => l91Even_ _ _ _ _ hb hr hq); (focus ((repeat' (first | (with_reducible exact hI) | (with_reducible apply inv_alloc) | (with_reducible apply inv_drew) | (with_reducible apply inv_drewN) | (with_reducible apply inv_set) | (simp only [setL_map]; simp; done) | (simp; done))); done)); (focus omega); rintro v' w' ⟨a, b, c, d, rfl⟩; clear hI; intro hI; (try simp at hI); (try clear hC); have hC := mem_facts hI.1; simp at hC))
  all_goals
    refine bodyPost_ret (by (simp [results, Tryd.results11, go_sem, *]; try rfl)) rfl ?_
    apply mp_use (w := w)
    · (repeat' (first | (with_reducible exact hI) | (with_reducible apply inv_alloc) | (with_reducible apply inv_drew) | (with_reducible apply inv_drewN) | (with_reducible apply inv_set) | (simp only [setL_map]; simp; done) | (simp; done)))
    intro hJ
    exact ⟨_, _, _, _, rfl, hJ.2.2.1.below hRge⟩
set_option maxRecDepth 100000 in
set_option maxHeartbeats 4000000 in
theorem lawTurnListD (A : Option Addr) (len cap : Nat) (zs : List Int) (w : World) (hg : Hnd w) (hRow : RowB .u8 w w.heap.size A len cap zs) : Calls Tryd.prog 4 #[.slice A len cap] w (fun E' W' => E' = .returned (.bool true) ∧ Below w.heap.size w W') := by
  by_cases hl : 1048576 < len
  · have hM := mem_nil w; have hB := Below.refl w.heap.size w; have hC := True.intro
    go_enter Tryd.func4, Tryd.ntmps4
    go_wp2
    go_ret
    exact ⟨rfl, by (repeat' (first | (with_reducible exact hB) | (with_reducible exact Below.refl _ _) | (with_reducible refine Below.alloc ?_ ?_ _) | (with_reducible refine Below.setCell ?_ ?_ _) | (with_reducible refine Below.drew ?_) | (with_reducible refine below_drewN ?_ _) | (with_reducible exact Nat.le_refl _) | (with_reducible exact hB.size) | (simp [go_sem]; done) | (have := hB.size; simp [go_sem]; omega)))⟩
  · have hM := mem_nil w; have hB := Below.refl w.heap.size w; have hC := True.intro
    go_enter Tryd.func4, Tryd.ntmps4
    go_upto_region 4 with (go_at_call 11; apply use_matrow (w := w) hRow (DrawTurnList_ _ _ _ _); (focus ((repeat' (first | (with_reducible exact hB) | (with_reducible exact Below.refl _ _) | (with_reducible refine Below.alloc ?_ ?_ _) | (with_reducible refine Below.setCell ?_ ?_ _) | (with_reducible refine Below.drew ?_) | (with_reducible refine below_drewN ?_ _) | (with_reducible exact Nat.le_refl _) | (with_reducible exact hB.size) | (simp [go_sem]; done) | (have := hB.size; simp [go_sem]; omega))); done)); (focus ((repeat' (first | (with_reducible exact hB) | (with_reducible exact Below.refl _ _) | (with_reducible refine Below.alloc ?_ ?_ _) | (with_reducible refine Below.setCell ?_ ?_ _) | (with_reducible refine Below.drew ?_) | (with_reducible refine below_drewN ?_ _) | (with_reducible exact Nat.le_refl _) | (with_reducible exact hB.size) | (simp [go_sem]; done) | (have := hB.size; simp [go_sem]; omega))); done)); rintro a b c d w' hb; apply after_call (w := w) hb; (focus ((repeat' (first | (with_reducible exact hM) | (with_reducible apply mem_alloc) | (with_reducible apply mem_set) | (with_reducible apply mem_drew) | (with_reducible apply mem_drewN))); done)); (focus ((repeat' (first | (with_reducible exact hB) | (with_reducible exact Below.refl _ _) | (with_reducible refine Below.alloc ?_ ?_ _) | (with_reducible refine Below.setCell ?_ ?_ _) | (with_reducible refine Below.drew ?_) | (with_reducible refine below_drewN ?_ _) | (with_reducible exact Nat.le_refl _) | (with_reducible exact hB.size) | (simp [go_sem]; done) | (have := hB.size; simp [go_sem]; omega))); done)); (focus ((repeat' (first | (with_reducible exact hB) | (with_reducible exact Below.refl _ _) | (with_reducible refine Below.alloc ?_ ?_ _) | (with_reducible refine Below.setCell ?_ ?_ _) | (with_reducible refine Below.drew ?_) | (with_reducible refine below_drewN ?_ _) | (with_reducible exact Nat.le_refl _) | (with_reducible exact hB.size) | (simp [go_sem]; done) | (have := hB.size; simp [go_sem]; omega))); done)); clear hM hB hb; intro hM hB; (try clear hC); have hC := mem_facts hM; simp at hC)
    have hz := tlr_len' ⟨a, b, c, d⟩
    have hF := Lib.hid (fun h => tlr_facts (m := ⟨a, b, c, d⟩) h)
    have HS := Lib.hid (fun W => sTurnList_ a b c d W)
    have HI := Lib.hid (fun W hg => TurnList_ a b c d W hg)
    generalize tlr ⟨a, b, c, d⟩ = r at *
    obtain ⟨⟨L, sg⟩, ok⟩ := r
    dsimp only at hz hF HS HI
    cases ok
    · clear hF
      go_wp2_with fail
      refine (HI.out _ (hg.of (by (repeat' (first | (with_reducible exact hB) | (with_reducible exact Below.refl _ _) | (with_reducible refine Below.alloc ?_ ?_ _) | (with_reducible refine Below.setCell ?_ ?_ _) | (with_reducible refine Below.drew ?_) | (with_reducible refine below_drewN ?_ _) | (with_reducible exact Nat.le_refl _) | (with_reducible exact hB.size) | (simp [go_sem]; done) | (have := hB.size; simp [go_sem]; omega)))))).mono ?_
      rintro e w1 ⟨v1, rfl, hv1, hb⟩
      have HV1 := Lib.hid hv1
      clear hv1
      apply after_call (w := w) hb; (focus ((repeat' (first | (with_reducible exact hM) | (with_reducible apply mem_alloc) | (with_reducible apply mem_set) | (with_reducible apply mem_drew) | (with_reducible apply mem_drewN))); done)); (focus ((repeat' (first | (with_reducible exact hB) | (with_reducible exact Below.refl _ _) | (with_reducible refine Below.alloc ?_ ?_ _) | (with_reducible refine Below.setCell ?_ ?_ _) | (with_reducible refine Below.drew ?_) | (with_reducible refine below_drewN ?_ _) | (with_reducible exact Nat.le_refl _) | (with_reducible exact hB.size) | (simp [go_sem]; done) | (have := hB.size; simp [go_sem]; omega))); done)); (focus ((repeat' (first | (with_reducible exact hB) | (with_reducible exact Below.refl _ _) | (with_reducible refine Below.alloc ?_ ?_ _) | (with_reducible refine Below.setCell ?_ ?_ _) | (with_reducible refine Below.drew ?_) | (with_reducible refine below_drewN ?_ _) | (with_reducible exact Nat.le_refl _) | (with_reducible exact hB.size) | (simp [go_sem]; done) | (have := hB.size; simp [go_sem]; omega))); done)); clear hM hB hb; intro hM hB; (try clear hC); have hC := mem_facts hM; simp at hC
      go_wp2_with fail
      refine (HS.out _).mono ?_
      rintro e w2 ⟨v0, rfl, hv0, hb⟩
      have HV1 := Lib.hid (IntRow.below HV1.out hb)
      have HV0 := Lib.hid hv0
      clear hv0
      apply after_call (w := w) hb; (focus ((repeat' (first | (with_reducible exact hM) | (with_reducible apply mem_alloc) | (with_reducible apply mem_set) | (with_reducible apply mem_drew) | (with_reducible apply mem_drewN))); done)); (focus ((repeat' (first | (with_reducible exact hB) | (with_reducible exact Below.refl _ _) | (with_reducible refine Below.alloc ?_ ?_ _) | (with_reducible refine Below.setCell ?_ ?_ _) | (with_reducible refine Below.drew ?_) | (with_reducible refine below_drewN ?_ _) | (with_reducible exact Nat.le_refl _) | (with_reducible exact hB.size) | (simp [go_sem]; done) | (have := hB.size; simp [go_sem]; omega))); done)); (focus ((repeat' (first | (with_reducible exact hB) | (with_reducible exact Below.refl _ _) | (with_reducible refine Below.alloc ?_ ?_ _) | (with_reducible refine Below.setCell ?_ ?_ _) | (with_reducible refine Below.drew ?_) | (with_reducible refine below_drewN ?_ _) | (with_reducible exact Nat.le_refl _) | (with_reducible exact hB.size) | (simp [go_sem]; done) | (have := hB.size; simp [go_sem]; omega))); done)); clear hM hB hb; intro hM hB; (try clear hC); have hC := mem_facts hM; simp at hC
      go_wp2_with fail
      refine (sameInts_same v1 v0 L (by omega) _ HV1.out.reads HV0.out.reads).mono ?_
      rintro e w3 ⟨rfl, hb⟩
      have HV1 := Lib.hid (IntRow.below HV1.out hb)
      have HV0 := Lib.hid (IntRow.below HV0.out hb)
      apply after_call (w := w) hb; (focus ((repeat' (first | (with_reducible exact hM) | (with_reducible apply mem_alloc) | (with_reducible apply mem_set) | (with_reducible apply mem_drew) | (with_reducible apply mem_drewN))); done)); (focus ((repeat' (first | (with_reducible exact hB) | (with_reducible exact Below.refl _ _) | (with_reducible refine Below.alloc ?_ ?_ _) | (with_reducible refine Below.setCell ?_ ?_ _) | (with_reducible refine Below.drew ?_) | (with_reducible refine below_drewN ?_ _) | (with_reducible exact Nat.le_refl _) | (with_reducible exact hB.size) | (simp [go_sem]; done) | (have := hB.size; simp [go_sem]; omega))); done)); (focus ((repeat' (first | (with_reducible exact hB) | (with_reducible exact Below.refl _ _) | (with_reducible refine Below.alloc ?_ ?_ _) | (with_reducible refine Below.setCell ?_ ?_ _) | (with_reducible refine Below.drew ?_) | (with_reducible refine below_drewN ?_ _) | (with_reducible exact Nat.le_refl _) | (with_reducible exact hB.size) | (simp [go_sem]; done) | (have := hB.size; simp [go_sem]; omega))); done)); clear hM hB hb; intro hM hB; (try clear hC); have hC := mem_facts hM; simp at hC
      go_wp2_with fail
      refine (sameInts_same v1 v0 L (by omega) _ HV1.out.reads HV0.out.reads).mono ?_
      rintro e w4 ⟨rfl, hb⟩
      have HV1 := Lib.hid (IntRow.below HV1.out hb)
      have HV0 := Lib.hid (IntRow.below HV0.out hb)
      apply after_call (w := w) hb; (focus ((repeat' (first | (with_reducible exact hM) | (with_reducible apply mem_alloc) | (with_reducible apply mem_set) | (with_reducible apply mem_drew) | (with_reducible apply mem_drewN))); done)); (focus ((repeat' (first | (with_reducible exact hB) | (with_reducible exact Below.refl _ _) | (with_reducible refine Below.alloc ?_ ?_ _) | (with_reducible refine Below.setCell ?_ ?_ _) | (with_reducible refine Below.drew ?_) | (with_reducible refine below_drewN ?_ _) | (with_reducible exact Nat.le_refl _) | (with_reducible exact hB.size) | (simp [go_sem]; done) | (have := hB.size; simp [go_sem]; omega))); done)); (focus ((repeat' (first | (with_reducible exact hB) | (with_reducible exact Below.refl _ _) | (with_reducible refine Below.alloc ?_ ?_ _) | (with_reducible refine Below.setCell ?_ ?_ _) | (with_reducible refine Below.drew ?_) | (with_reducible refine below_drewN ?_ _) | (with_reducible exact Nat.le_refl _) | (with_reducible exact hB.size) | (simp [go_sem]; done) | (have := hB.size; simp [go_sem]; omega))); done)); clear hM hB hb; intro hM hB; (try clear hC); have hC := mem_facts hM; simp at hC
      go_wp2_with fail
      go_ret
      exact ⟨rfl, by (repeat' (first | (with_reducible exact hB) | (with_reducible exact Below.refl _ _) | (with_reducible refine Below.alloc ?_ ?_ _) | (with_reducible refine Below.setCell ?_ ?_ _) | (with_reducible refine Below.drew ?_) | (with_reducible refine below_drewN ?_ _) | (with_reducible exact Nat.le_refl _) | (with_reducible exact hB.size) | (simp [go_sem]; done) | (have := hB.size; simp [go_sem]; omega)))⟩
    · obtain ⟨hsg, htof, hpr, hin⟩ := hF.out rfl
      (try dsimp only at hsg htof hpr)
      have HT := Lib.hid (fun v W hg hv => TurnOf_ v L (by omega) W hg hv)
      have HP := Lib.hid (fun v W hv => TurnPlain_ v L (by omega) W hv)
      rw [htof] at HT
      rw [hpr] at HP
      clear hF htof hpr
      obtain ⟨k1, k2, k3, k4⟩ := inB_iff.1 hin
      (try dsimp only at k1 k2 k3 k4)
      simp only [scl] at HT
      have ea : wrap64 (sg * (sg * a)) = a := by rcases hsg with rfl | rfl <;> rw [wrap_mid (by omega)] <;> omega
      have eb : wrap64 (sg * (sg * b)) = b := by rcases hsg with rfl | rfl <;> rw [wrap_mid (by omega)] <;> omega
      have ec : wrap64 (sg * (sg * c)) = c := by rcases hsg with rfl | rfl <;> rw [wrap_mid (by omega)] <;> omega
      have ed : wrap64 (sg * (sg * d)) = d := by rcases hsg with rfl | rfl <;> rw [wrap_mid (by omega)] <;> omega
      have fa : sg = -1 → wrap64 (-(sg * a)) = a := by rintro rfl; rw [wrap_mid (by omega)]; omega
      have fb : sg = -1 → wrap64 (-(sg * b)) = b := by rintro rfl; rw [wrap_mid (by omega)]; omega
      have fc : sg = -1 → wrap64 (-(sg * c)) = c := by rintro rfl; rw [wrap_mid (by omega)]; omega
      have fd : sg = -1 → wrap64 (-(sg * d)) = d := by rintro rfl; rw [wrap_mid (by omega)]; omega
      have ga : sg = 1 → wrap64 (sg * a) = a := by rintro rfl; rw [wrap_mid (by omega)]; omega
      have gb : sg = 1 → wrap64 (sg * b) = b := by rintro rfl; rw [wrap_mid (by omega)]; omega
      have gc : sg = 1 → wrap64 (sg * c) = c := by rintro rfl; rw [wrap_mid (by omega)]; omega
      have gd : sg = 1 → wrap64 (sg * d) = d := by rintro rfl; rw [wrap_mid (by omega)]; omega
      generalize sg * a = p1 at *
      generalize sg * b = p2 at *
      generalize sg * c = p3 at *
      generalize sg * d = p4 at *
      go_wp2_with fail
      refine (HI.out _ (hg.of (by (repeat' (first | (with_reducible exact hB) | (with_reducible exact Below.refl _ _) | (with_reducible refine Below.alloc ?_ ?_ _) | (with_reducible refine Below.setCell ?_ ?_ _) | (with_reducible refine Below.drew ?_) | (with_reducible refine below_drewN ?_ _) | (with_reducible exact Nat.le_refl _) | (with_reducible exact hB.size) | (simp [go_sem]; done) | (have := hB.size; simp [go_sem]; omega)))))).mono ?_
      rintro e w1 ⟨v1, rfl, hv1, hb⟩
      have HV1 := Lib.hid hv1
      clear hv1
      apply after_call (w := w) hb; (focus ((repeat' (first | (with_reducible exact hM) | (with_reducible apply mem_alloc) | (with_reducible apply mem_set) | (with_reducible apply mem_drew) | (with_reducible apply mem_drewN))); done)); (focus ((repeat' (first | (with_reducible exact hB) | (with_reducible exact Below.refl _ _) | (with_reducible refine Below.alloc ?_ ?_ _) | (with_reducible refine Below.setCell ?_ ?_ _) | (with_reducible refine Below.drew ?_) | (with_reducible refine below_drewN ?_ _) | (with_reducible exact Nat.le_refl _) | (with_reducible exact hB.size) | (simp [go_sem]; done) | (have := hB.size; simp [go_sem]; omega))); done)); (focus ((repeat' (first | (with_reducible exact hB) | (with_reducible exact Below.refl _ _) | (with_reducible refine Below.alloc ?_ ?_ _) | (with_reducible refine Below.setCell ?_ ?_ _) | (with_reducible refine Below.drew ?_) | (with_reducible refine below_drewN ?_ _) | (with_reducible exact Nat.le_refl _) | (with_reducible exact hB.size) | (simp [go_sem]; done) | (have := hB.size; simp [go_sem]; omega))); done)); clear hM hB hb; intro hM hB; (try clear hC); have hC := mem_facts hM; simp at hC
      go_wp2_with fail
      refine (HS.out _).mono ?_
      rintro e w2 ⟨v0, rfl, hv0, hb⟩
      have HV1 := Lib.hid (IntRow.below HV1.out hb)
      have HV0 := Lib.hid hv0
      clear hv0
      apply after_call (w := w) hb; (focus ((repeat' (first | (with_reducible exact hM) | (with_reducible apply mem_alloc) | (with_reducible apply mem_set) | (with_reducible apply mem_drew) | (with_reducible apply mem_drewN))); done)); (focus ((repeat' (first | (with_reducible exact hB) | (with_reducible exact Below.refl _ _) | (with_reducible refine Below.alloc ?_ ?_ _) | (with_reducible refine Below.setCell ?_ ?_ _) | (with_reducible refine Below.drew ?_) | (with_reducible refine below_drewN ?_ _) | (with_reducible exact Nat.le_refl _) | (with_reducible exact hB.size) | (simp [go_sem]; done) | (have := hB.size; simp [go_sem]; omega))); done)); (focus ((repeat' (first | (with_reducible exact hB) | (with_reducible exact Below.refl _ _) | (with_reducible refine Below.alloc ?_ ?_ _) | (with_reducible refine Below.setCell ?_ ?_ _) | (with_reducible refine Below.drew ?_) | (with_reducible refine below_drewN ?_ _) | (with_reducible exact Nat.le_refl _) | (with_reducible exact hB.size) | (simp [go_sem]; done) | (have := hB.size; simp [go_sem]; omega))); done)); clear hM hB hb; intro hM hB; (try clear hC); have hC := mem_facts hM; simp at hC
      go_wp2_with fail
      refine (sameInts_same v1 v0 L (by omega) _ HV1.out.reads HV0.out.reads).mono ?_
      rintro e w3 ⟨rfl, hb⟩
      have HV1 := Lib.hid (IntRow.below HV1.out hb)
      have HV0 := Lib.hid (IntRow.below HV0.out hb)
      apply after_call (w := w) hb; (focus ((repeat' (first | (with_reducible exact hM) | (with_reducible apply mem_alloc) | (with_reducible apply mem_set) | (with_reducible apply mem_drew) | (with_reducible apply mem_drewN))); done)); (focus ((repeat' (first | (with_reducible exact hB) | (with_reducible exact Below.refl _ _) | (with_reducible refine Below.alloc ?_ ?_ _) | (with_reducible refine Below.setCell ?_ ?_ _) | (with_reducible refine Below.drew ?_) | (with_reducible refine below_drewN ?_ _) | (with_reducible exact Nat.le_refl _) | (with_reducible exact hB.size) | (simp [go_sem]; done) | (have := hB.size; simp [go_sem]; omega))); done)); (focus ((repeat' (first | (with_reducible exact hB) | (with_reducible exact Below.refl _ _) | (with_reducible refine Below.alloc ?_ ?_ _) | (with_reducible refine Below.setCell ?_ ?_ _) | (with_reducible refine Below.drew ?_) | (with_reducible refine below_drewN ?_ _) | (with_reducible exact Nat.le_refl _) | (with_reducible exact hB.size) | (simp [go_sem]; done) | (have := hB.size; simp [go_sem]; omega))); done)); clear hM hB hb; intro hM hB; (try clear hC); have hC := mem_facts hM; simp at hC
      go_wp2_with fail
      refine (HT.out v1 _ (hg.of (by (repeat' (first | (with_reducible exact hB) | (with_reducible exact Below.refl _ _) | (with_reducible refine Below.alloc ?_ ?_ _) | (with_reducible refine Below.setCell ?_ ?_ _) | (with_reducible refine Below.drew ?_) | (with_reducible refine below_drewN ?_ _) | (with_reducible exact Nat.le_refl _) | (with_reducible exact hB.size) | (simp [go_sem]; done) | (have := hB.size; simp [go_sem]; omega))))) (IntRow.rdO HV1.out)).mono ?_
      rintro e w4 ⟨rfl, hb⟩
      have HV1 := Lib.hid (IntRow.below HV1.out hb)
      apply after_call (w := w) hb; (focus ((repeat' (first | (with_reducible exact hM) | (with_reducible apply mem_alloc) | (with_reducible apply mem_set) | (with_reducible apply mem_drew) | (with_reducible apply mem_drewN))); done)); (focus ((repeat' (first | (with_reducible exact hB) | (with_reducible exact Below.refl _ _) | (with_reducible refine Below.alloc ?_ ?_ _) | (with_reducible refine Below.setCell ?_ ?_ _) | (with_reducible refine Below.drew ?_) | (with_reducible refine below_drewN ?_ _) | (with_reducible exact Nat.le_refl _) | (with_reducible exact hB.size) | (simp [go_sem]; done) | (have := hB.size; simp [go_sem]; omega))); done)); (focus ((repeat' (first | (with_reducible exact hB) | (with_reducible exact Below.refl _ _) | (with_reducible refine Below.alloc ?_ ?_ _) | (with_reducible refine Below.setCell ?_ ?_ _) | (with_reducible refine Below.drew ?_) | (with_reducible refine below_drewN ?_ _) | (with_reducible exact Nat.le_refl _) | (with_reducible exact hB.size) | (simp [go_sem]; done) | (have := hB.size; simp [go_sem]; omega))); done)); clear hM hB hb; intro hM hB; (try clear hC); have hC := mem_facts hM; simp at hC
      rcases hsg with rfl | rfl
      · have ga := ga rfl
        have gb := gb rfl
        have gc := gc rfl
        have gd := gd rfl
        clear fa fb fc fd
        go_wp2_with fail
        refine (HP.out v1 _ (IntRow.rdO (row_alloc HV1.out _))).mono ?_
        rintro e w5 ⟨rfl, rfl⟩
        go_wp2_with fail
        go_ret
        exact ⟨rfl, by (repeat' (first | (with_reducible exact hB) | (with_reducible exact Below.refl _ _) | (with_reducible refine Below.alloc ?_ ?_ _) | (with_reducible refine Below.setCell ?_ ?_ _) | (with_reducible refine Below.drew ?_) | (with_reducible refine below_drewN ?_ _) | (with_reducible exact Nat.le_refl _) | (with_reducible exact hB.size) | (simp [go_sem]; done) | (have := hB.size; simp [go_sem]; omega)))⟩
      · have fa := fa rfl
        have fb := fb rfl
        have fc := fc rfl
        have fd := fd rfl
        clear ga gb gc gd
        go_wp2_with fail
        refine (HP.out v1 _ (IntRow.rdO (row_alloc HV1.out _))).mono ?_
        rintro e w5 ⟨rfl, rfl⟩
        go_wp2_with fail
        go_ret
        exact ⟨rfl, by (repeat' (first | (with_reducible exact hB) | (with_reducible exact Below.refl _ _) | (with_reducible refine Below.alloc ?_ ?_ _) | (with_reducible refine Below.setCell ?_ ?_ _) | (with_reducible refine Below.drew ?_) | (with_reducible refine below_drewN ?_ _) | (with_reducible exact Nat.le_refl _) | (with_reducible exact hB.size) | (simp [go_sem]; done) | (have := hB.size; simp [go_sem]; omega)))⟩
theorem goTurnListD (A : Option Addr) (len cap : Nat) (zs : List Int) (w : World) (hg : Hnd w) (h : IsRow .u8 w A len cap zs) : Calls Tryd.prog 4 #[.slice A len cap] w (fun E' W' => E' = .returned (.bool true) ∧ Below w.heap.size w W') := lawTurnListD A len cap zs w hg (rowB h)
end Go.Proofs.YtbpaklcibkifnaaDoor

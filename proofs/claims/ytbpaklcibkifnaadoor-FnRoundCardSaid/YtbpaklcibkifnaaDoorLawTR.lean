
/- The laws on drawn lists: the lists that come round. Under the card's condition on the package's variable. -/
import Derived.Test.YtbpaklcibkifnaaDoorLawTD
import Derived.Test.YtbpaklcibkifnaaDoorTurnA
import Derived.Test.YtbpaklcibkifnaaDoorTurnV2
import Derived.Test.YtbpaklcibkifnaaDoorApp
import Derived.Deep.DeepCutAuto
namespace Go.Proofs.YtbpaklcibkifnaaDoor
open Go.RowKit

theorem row_of' {W : World} {L : List (Nat × Array Value × TypeId)} {base g : Nat} (h : Mem W L) (hin : (g, #[], 3) ∈ L) (hb : base ≤ g) : IntRow base W (.slice (some ⟨g, 0, none⟩) 0 0) [] := row_mt (h.1 _ hin) hb
theorem row_rot' {W : World} {base k : Nat} {v : Value} {zs : List Int} (hk : k ≤ zs.length) (h : W.ownsRow base 3 1 v (0 + (zs.length - k) + k) ([] ++ ((zs.drop k).take (zs.length - k)).map (Value.int .i64) ++ ((zs.drop 0).take k).map (Value.int .i64))) : IntRow base W v (rot zs k) := by
  unfold IntRow
  have e : (zs.drop k).take (zs.length - k) = zs.drop k := List.take_of_length_le (by simp)
  rw [e] at h
  have e2 : 0 + (zs.length - k) + k = (rot zs k).length := by rw [rot_len zs hk]; omega
  rw [e2] at h
  simpa [rot] using h
theorem fr_meet {w0 w wx : World} {L : List (Nat × Array Value × TypeId)} (hBo : Below w0.heap.size w0 w) (hMo : Mem w L) (h : Below w.heap.size w wx) : Mem wx L ∧ Below w0.heap.size w0 wx := ⟨mem_below h hMo, hBo.trans (h.mono hBo.size)⟩
/-- at the head of a round: the lists that come by taking fewer than k numbers have matrices -/
def FrRel (qs : List Int) (w : World) (L : List (Nat × Array Value × TypeId)) (g : Nat) (i : Value) (wr : World) : Prop := ∃ k : Nat, k + g = qs.length ∧ 1 ≤ k ∧ i = .int .i64 k ∧ (∀ j, j < k → (tof (rot qs j)).2 = true) ∧ Mem wr L ∧ Below w.heap.size w wr
set_option maxRecDepth 100000 in
set_option maxHeartbeats 4000000 in
theorem lawRoundD (A : Option Addr) (len cap : Nat) (zs : List Int) (w : World) (hg : Hnd w) (hRow : RowB .u8 w w.heap.size A len cap zs) : Calls Tryd.prog 6 #[.slice A len cap] w (fun E' W' => E' = .returned (.bool true) ∧ Below w.heap.size w W') := by
  by_cases hl : 1048576 < len
  · have hM := mem_nil w; have hB := Below.refl w.heap.size w; have hC := True.intro
    go_enter Tryd.func6, Tryd.ntmps6
    go_wp2
    go_ret
    exact ⟨rfl, by (repeat' (first | (with_reducible exact hB) | (with_reducible exact Below.refl _ _) | (with_reducible refine Below.alloc ?_ ?_ _) | (with_reducible refine Below.setCell ?_ ?_ _) | (with_reducible refine Below.drew ?_) | (with_reducible refine below_drewN ?_ _) | (with_reducible exact Nat.le_refl _) | (with_reducible exact hB.size) | (simp [go_sem]; done) | (have := hB.size; simp [go_sem]; omega)))⟩
  · have hM := mem_nil w; have hB := Below.refl w.heap.size w; have hC := True.intro
    go_enter Tryd.func6, Tryd.ntmps6
    go_upto_region 4 with (go_at_call 7; apply use_listrow (w := w) hRow (DrawTurnOf_ _ _ _ _) hB (Nat.le_refl _); rintro v qs w' ⟨g, gc, cur, rfl, hgc, hge, hrd⟩ hql hb; have HRD := Lib.hid hrd; replace hM := mem_one hgc; replace hB := hb; clear hrd hb hgc; have hC := mem_facts hM; simp at hC)
    have hz : qs.length ≤ 1000000000 := by omega
    have hv := fun W hW => HRD.out W hW
    have hS := fun W hv => sTurnOf_ (.slice (some ⟨g, 0, none⟩) qs.length gc) qs hz W hv
    have hT := fun W hg hv => TurnOf_ (.slice (some ⟨g, 0, none⟩) qs.length gc) qs hz W hg hv
    cases h : (tof qs).2
    · rw [h] at hS hT
      clear h
      generalize (tof qs).1 = m at *
      go_wp2_with (first | (go_at_call 8; refine (hT _ (hg.of (by (repeat' (first | (with_reducible exact hB) | (with_reducible exact Below.refl _ _) | (with_reducible refine Below.alloc ?_ ?_ _) | (with_reducible refine Below.setCell ?_ ?_ _) | (with_reducible refine Below.drew ?_) | (with_reducible refine below_drewN ?_ _) | (with_reducible exact Nat.le_refl _) | (with_reducible exact hB.size) | (simp [go_sem]; done) | (have := hB.size; simp [go_sem]; omega))))) (hv _ (at_mem (by (repeat' (first | (with_reducible exact hM) | (with_reducible apply mem_alloc) | (with_reducible apply mem_set) | (with_reducible apply mem_drew) | (with_reducible apply mem_drewN)))) (by simp)))).mono ?_; rintro e w' ⟨rfl, hb⟩; apply after_call (w := w) hb; (focus ((repeat' (first | (with_reducible exact hM) | (with_reducible apply mem_alloc) | (with_reducible apply mem_set) | (with_reducible apply mem_drew) | (with_reducible apply mem_drewN))); done)); (focus ((repeat' (first | (with_reducible exact hB) | (with_reducible exact Below.refl _ _) | (with_reducible refine Below.alloc ?_ ?_ _) | (with_reducible refine Below.setCell ?_ ?_ _) | (with_reducible refine Below.drew ?_) | (with_reducible refine below_drewN ?_ _) | (with_reducible exact Nat.le_refl _) | (with_reducible exact hB.size) | (simp [go_sem]; done) | (have := hB.size; simp [go_sem]; omega))); done)); (focus ((repeat' (first | (with_reducible exact hB) | (with_reducible exact Below.refl _ _) | (with_reducible refine Below.alloc ?_ ?_ _) | (with_reducible refine Below.setCell ?_ ?_ _) | (with_reducible refine Below.drew ?_) | (with_reducible refine below_drewN ?_ _) | (with_reducible exact Nat.le_refl _) | (with_reducible exact hB.size) | (simp [go_sem]; done) | (have := hB.size; simp [go_sem]; omega))); done)); clear hM hB hb; intro hM hB; (try clear hC); have hC := mem_facts hM; simp at hC) | (go_at_call 9; refine (hS _ (hv _ (at_mem (by (repeat' (first | (with_reducible exact hM) | (with_reducible apply mem_alloc) | (with_reducible apply mem_set) | (with_reducible apply mem_drew) | (with_reducible apply mem_drewN)))) (by simp)))).mono ?_; rintro e w' ⟨rfl, hb⟩; apply after_call (w := w) hb; (focus ((repeat' (first | (with_reducible exact hM) | (with_reducible apply mem_alloc) | (with_reducible apply mem_set) | (with_reducible apply mem_drew) | (with_reducible apply mem_drewN))); done)); (focus ((repeat' (first | (with_reducible exact hB) | (with_reducible exact Below.refl _ _) | (with_reducible refine Below.alloc ?_ ?_ _) | (with_reducible refine Below.setCell ?_ ?_ _) | (with_reducible refine Below.drew ?_) | (with_reducible refine below_drewN ?_ _) | (with_reducible exact Nat.le_refl _) | (with_reducible exact hB.size) | (simp [go_sem]; done) | (have := hB.size; simp [go_sem]; omega))); done)); (focus ((repeat' (first | (with_reducible exact hB) | (with_reducible exact Below.refl _ _) | (with_reducible refine Below.alloc ?_ ?_ _) | (with_reducible refine Below.setCell ?_ ?_ _) | (with_reducible refine Below.drew ?_) | (with_reducible refine below_drewN ?_ _) | (with_reducible exact Nat.le_refl _) | (with_reducible exact hB.size) | (simp [go_sem]; done) | (have := hB.size; simp [go_sem]; omega))); done)); clear hM hB hb; intro hM hB; (try clear hC); have hC := mem_facts hM; simp at hC))
      go_ret
      exact ⟨rfl, by (repeat' (first | (with_reducible exact hB) | (with_reducible exact Below.refl _ _) | (with_reducible refine Below.alloc ?_ ?_ _) | (with_reducible refine Below.setCell ?_ ?_ _) | (with_reducible refine Below.drew ?_) | (with_reducible refine below_drewN ?_ _) | (with_reducible exact Nat.le_refl _) | (with_reducible exact hB.size) | (simp [go_sem]; done) | (have := hB.size; simp [go_sem]; omega)))⟩
    · obtain ⟨hls, hlm, _, _, _⟩ := tof_in h
      have H0 := Lib.hid h
      have HLS := Lib.hid hls
      have HLM := Lib.hid hlm
      rw [h] at hS hT
      have hn1 : 1 ≤ qs.length := (lsB_iff.1 hls).1.1
      clear h hls hlm
      generalize (tof qs).1 = m at *
      obtain ⟨a, b, c, d⟩ := m
      obtain ⟨i0, hi, hz0, hz1, hz2⟩ := info_parts infoI64
      go_wp2_with (first | (go_at_call 8; refine (hT _ (hg.of (by (repeat' (first | (with_reducible exact hB) | (with_reducible exact Below.refl _ _) | (with_reducible refine Below.alloc ?_ ?_ _) | (with_reducible refine Below.setCell ?_ ?_ _) | (with_reducible refine Below.drew ?_) | (with_reducible refine below_drewN ?_ _) | (with_reducible exact Nat.le_refl _) | (with_reducible exact hB.size) | (simp [go_sem]; done) | (have := hB.size; simp [go_sem]; omega))))) (hv _ (at_mem (by (repeat' (first | (with_reducible exact hM) | (with_reducible apply mem_alloc) | (with_reducible apply mem_set) | (with_reducible apply mem_drew) | (with_reducible apply mem_drewN)))) (by simp)))).mono ?_; rintro e w' ⟨rfl, hb⟩; apply after_call (w := w) hb; (focus ((repeat' (first | (with_reducible exact hM) | (with_reducible apply mem_alloc) | (with_reducible apply mem_set) | (with_reducible apply mem_drew) | (with_reducible apply mem_drewN))); done)); (focus ((repeat' (first | (with_reducible exact hB) | (with_reducible exact Below.refl _ _) | (with_reducible refine Below.alloc ?_ ?_ _) | (with_reducible refine Below.setCell ?_ ?_ _) | (with_reducible refine Below.drew ?_) | (with_reducible refine below_drewN ?_ _) | (with_reducible exact Nat.le_refl _) | (with_reducible exact hB.size) | (simp [go_sem]; done) | (have := hB.size; simp [go_sem]; omega))); done)); (focus ((repeat' (first | (with_reducible exact hB) | (with_reducible exact Below.refl _ _) | (with_reducible refine Below.alloc ?_ ?_ _) | (with_reducible refine Below.setCell ?_ ?_ _) | (with_reducible refine Below.drew ?_) | (with_reducible refine below_drewN ?_ _) | (with_reducible exact Nat.le_refl _) | (with_reducible exact hB.size) | (simp [go_sem]; done) | (have := hB.size; simp [go_sem]; omega))); done)); clear hM hB hb; intro hM hB; (try clear hC); have hC := mem_facts hM; simp at hC) | (go_at_call 9; refine (hS _ (hv _ (at_mem (by (repeat' (first | (with_reducible exact hM) | (with_reducible apply mem_alloc) | (with_reducible apply mem_set) | (with_reducible apply mem_drew) | (with_reducible apply mem_drewN)))) (by simp)))).mono ?_; rintro e w' ⟨rfl, hb⟩; apply after_call (w := w) hb; (focus ((repeat' (first | (with_reducible exact hM) | (with_reducible apply mem_alloc) | (with_reducible apply mem_set) | (with_reducible apply mem_drew) | (with_reducible apply mem_drewN))); done)); (focus ((repeat' (first | (with_reducible exact hB) | (with_reducible exact Below.refl _ _) | (with_reducible refine Below.alloc ?_ ?_ _) | (with_reducible refine Below.setCell ?_ ?_ _) | (with_reducible refine Below.drew ?_) | (with_reducible refine below_drewN ?_ _) | (with_reducible exact Nat.le_refl _) | (with_reducible exact hB.size) | (simp [go_sem]; done) | (have := hB.size; simp [go_sem]; omega))); done)); (focus ((repeat' (first | (with_reducible exact hB) | (with_reducible exact Below.refl _ _) | (with_reducible refine Below.alloc ?_ ?_ _) | (with_reducible refine Below.setCell ?_ ?_ _) | (with_reducible refine Below.drew ?_) | (with_reducible refine below_drewN ?_ _) | (with_reducible exact Nat.le_refl _) | (with_reducible exact hB.size) | (simp [go_sem]; done) | (have := hB.size; simp [go_sem]; omega))); done)); clear hM hB hb; intro hM hB; (try clear hC); have hC := mem_facts hM; simp at hC))
      go_loopg [8] (qs.length - 1) (fun gk i wr => FrRel qs w [(g, cur, 3)] gk i wr)
      case atStart =>
        refine ⟨1, by omega, Nat.le_refl _, rfl, fun j hj => ?_, ?_, by (repeat' (first | (with_reducible exact hB) | (with_reducible exact Below.refl _ _) | (with_reducible refine Below.alloc ?_ ?_ _) | (with_reducible refine Below.setCell ?_ ?_ _) | (with_reducible refine Below.drew ?_) | (with_reducible refine below_drewN ?_ _) | (with_reducible exact Nat.le_refl _) | (with_reducible exact hB.size) | (simp [go_sem]; done) | (have := hB.size; simp [go_sem]; omega)))⟩
        · obtain rfl : j = 0 := by omega
          rw [rot_zero]; exact H0.out
        · apply mem_drop 2
          · (repeat' (first | (with_reducible exact hM) | (with_reducible apply mem_alloc) | (with_reducible apply mem_set) | (with_reducible apply mem_drew) | (with_reducible apply mem_drewN)))
          · simp
      case round =>
        obtain ⟨k, hkg, hk1, rfl, hall, hM', hB'⟩ := hrel
        have HALL := Lib.hid hall
        clear hall hS
        (try clear hC); clear hM hB; have hM := hM'; have hB := hB'; clear hM' hB'; have hC := mem_facts hM; simp at hC
        by_cases hlt : k < qs.length
        · have hT2 := fun v W hg hv => TurnOf_ v (rot qs k) (by rw [rot_len qs (Nat.le_of_lt hlt)]; exact hz) W hg hv
          have HT2 := Lib.hid hT2
          clear hT hT2
          go_upto_region 11 with fail
          go_cut [10] (fun s10 wx => s10 = .bool (tof (rot qs k)).2 ∧ Mem wx [(g, cur, 3)] ∧ Below w.heap.size w wx)
          case first =>
            have hBo := hB
            have hMo := hM
            have hg1 : Hnd wr := hg.of hB
            have hvr := HRD.out wr (hM.1 _ List.mem_cons_self)
            obtain ⟨ao, cap', e', hcap, hc⟩ := hvr
            injection e' with e1 e2 e3
            subst e1 e3
            have hgl : g < wr.heap.size := mem_lt (hM.1 _ List.mem_cons_self)
            clear hM hB hC
            obtain ⟨w, hw⟩ : ∃ w1 : World, w1 = wr := ⟨_, rfl⟩
            subst hw
            have hM := mem_nil w
            have hB := Below.refl w.heap.size w
            have hC := True.intro
            have hsrc : ∀ W : World, Below w.heap.size w W → ∀ p q : Nat, p + q ≤ qs.length → ∀ j u, (((qs.drop p).take q).map (Value.int .i64))[j]? = some u → W.cell? ((⟨g, p, none⟩ : Addr).add j) = some u := fun W hb p q hpq j u hu => by
              have hj : j < q := by
                have := (List.getElem?_eq_some_iff.1 hu).1
                simp at this
                omega
              obtain ⟨g', o', e', h3⟩ := hc (p + j) (by omega)
              injection e' with e'
              injection e' with e1 e2
              subst e1 e2
              rw [Nat.zero_add] at h3
              rw [Addr.add_lit, hb.cell (p := ⟨g, p + j, none⟩) hgl, h3]
              simp [hj] at hu
              obtain ⟨a, ha, rfl⟩ := hu
              simp [List.getD, ha]
            have HS := Lib.hid hsrc
            have hT3 := HT2.out
            have hk0 : (0 : Int) ≤ (k : Int) := by omega
            have hkn : (k : Int) ≤ (qs.length : Int) := by omega
            have hkc : (qs.length : Int) ≤ (gc : Int) := by omega
            have hkc2 : (k : Int) ≤ (gc : Int) := by omega
            have hs0 := hB.size
            have hkc3 : (gc = k) = False := by simp; omega
            clear hsrc hc HT2
            generalize hr : tof (rot qs k) = r at hT3
            obtain ⟨⟨a, b, c, d⟩, ok⟩ := r
            have HRR := Lib.hid hr
            clear hr
            dsimp only at hT3
            go_region_held3 (fun _ => True) (trivial) (first
                | ((refine step_append_any (by rfl) (.tmp 53) (.tmp 56) _ (by rfl) w.heap.size 3 i0 (.int .i64 0) 1 8 Tryd.underlying23 hi hz0 hz1 hz2 rfl (by omega) _ 0 [] (by rfl) (by apply row_of'; (focus ((repeat' (first | (with_reducible exact hM) | (with_reducible apply mem_alloc) | (with_reducible apply mem_set) | (with_reducible apply mem_drew) | (with_reducible apply mem_drewN))); done)); (focus (simp; done)); (have := hB.size; first | omega | (simp; done) | (simp; omega))) ⟨g, k, none⟩ (qs.length - k) (gc - k) (((qs.drop k).take (qs.length - k)).map (Value.int .i64)) (by rfl) (by simp) (HS.out _ (by (repeat' (first | (with_reducible exact hB) | (with_reducible exact Below.refl _ _) | (with_reducible refine Below.alloc ?_ ?_ _) | (with_reducible refine Below.setCell ?_ ?_ _) | (with_reducible refine Below.drew ?_) | (with_reducible refine below_drewN ?_ _) | (with_reducible exact Nat.le_refl _) | (with_reducible exact hB.size) | (simp [go_sem]; done) | (have := hB.size; simp [go_sem]; omega)))) k _ (by omega)) (by intro u hu; obtain ⟨x, _, rfl⟩ := List.mem_map.1 hu; rfl) (by simp [maxLen]; omega) (by omega) (by have := hB.size; first | (simp; done) | (simp; omega)) ?_; intro v1 w1 hown1 hgrow1; refine after_app2 (w := w) hgrow1 (by apply row_of'; (focus ((repeat' (first | (with_reducible exact hM) | (with_reducible apply mem_alloc) | (with_reducible apply mem_set) | (with_reducible apply mem_drew) | (with_reducible apply mem_drewN))); done)); (focus (simp; done)); (have := hB.size; first | omega | (simp; done) | (simp; omega))) (by (repeat' (first | (with_reducible exact hM) | (with_reducible apply mem_alloc) | (with_reducible apply mem_set) | (with_reducible apply mem_drew) | (with_reducible apply mem_drewN)))) (by (repeat' (first | (with_reducible exact hB) | (with_reducible exact Below.refl _ _) | (with_reducible refine Below.alloc ?_ ?_ _) | (with_reducible refine Below.setCell ?_ ?_ _) | (with_reducible refine Below.drew ?_) | (with_reducible refine below_drewN ?_ _) | (with_reducible exact Nat.le_refl _) | (with_reducible exact hB.size) | (simp [go_sem]; done) | (have := hB.size; simp [go_sem]; omega)))) (by have := hB.size; first | (simp; done) | (simp; omega)) ?_; clear hM hB hgrow1; intro hM hB; have hs1 := hB.size; (repeat (first | rw [filt_m] at hM | rw [filt_i] at hM | rw [List.filter_nil] at hM)); (try clear hC); have hC := mem_facts hM; (try simp at hC)))
                | ((refine step_append_any (by rfl) (.tmp 57) (.tmp 60) _ (by rfl) w.heap.size 3 i0 (.int .i64 0) 1 8 Tryd.underlying23 hi hz0 hz1 hz2 rfl (by omega) v1 _ _ (by rfl) (by first | exact hown1 | exact hown1.alloc _) ⟨g, 0, none⟩ k gc (((qs.drop 0).take k).map (Value.int .i64)) (by rfl) (by first | (simp; done) | (simp; omega)) (HS.out _ (by (repeat' (first | (with_reducible exact hB) | (with_reducible exact Below.refl _ _) | (with_reducible refine Below.alloc ?_ ?_ _) | (with_reducible refine Below.setCell ?_ ?_ _) | (with_reducible refine Below.drew ?_) | (with_reducible refine below_drewN ?_ _) | (with_reducible exact Nat.le_refl _) | (with_reducible exact hB.size) | (simp [go_sem]; done) | (have := hB.size; simp [go_sem]; omega)))) 0 _ (by omega)) (by intro u hu; obtain ⟨x, _, rfl⟩ := List.mem_map.1 hu; rfl) (by simp [maxLen]; omega) (by omega) (by have := hB.size; first | (simp; done) | (simp; omega)) ?_; intro v2 w2 hown2 hgrow2; refine after_app2 (w := w) hgrow2 (by first | exact hown1 | exact hown1.alloc _) (by (repeat' (first | (with_reducible exact hM) | (with_reducible apply mem_alloc) | (with_reducible apply mem_set) | (with_reducible apply mem_drew) | (with_reducible apply mem_drewN)))) (by (repeat' (first | (with_reducible exact hB) | (with_reducible exact Below.refl _ _) | (with_reducible refine Below.alloc ?_ ?_ _) | (with_reducible refine Below.setCell ?_ ?_ _) | (with_reducible refine Below.drew ?_) | (with_reducible refine below_drewN ?_ _) | (with_reducible exact Nat.le_refl _) | (with_reducible exact hB.size) | (simp [go_sem]; done) | (have := hB.size; simp [go_sem]; omega)))) (by have := hB.size; first | (simp; done) | (simp; omega)) ?_; clear hM hB hgrow2 hown1; intro hM hB; have hs2 := hB.size; replace hown2 := row_rot' (Nat.le_of_lt hlt) hown2; (repeat (first | rw [filt_m] at hM | rw [filt_i] at hM | rw [List.filter_nil] at hM)); (try clear hC); have hC := mem_facts hM; (try simp at hC)))
                | (go_at_call 8; refine (hT3 _ _ (hg1.of (by (repeat' (first | (with_reducible exact hB) | (with_reducible exact Below.refl _ _) | (with_reducible refine Below.alloc ?_ ?_ _) | (with_reducible refine Below.setCell ?_ ?_ _) | (with_reducible refine Below.drew ?_) | (with_reducible refine below_drewN ?_ _) | (with_reducible exact Nat.le_refl _) | (with_reducible exact hB.size) | (simp [go_sem]; done) | (have := hB.size; simp [go_sem]; omega))))) (by first | exact hown2.rdO | exact IntRow.rdO (World.ownsRow.alloc hown2 _))).mono ?_; rintro e w' ⟨rfl, hb⟩; apply after_call (w := w) hb; (focus ((repeat' (first | (with_reducible exact hM) | (with_reducible apply mem_alloc) | (with_reducible apply mem_set) | (with_reducible apply mem_drew) | (with_reducible apply mem_drewN))); done)); (focus ((repeat' (first | (with_reducible exact hB) | (with_reducible exact Below.refl _ _) | (with_reducible refine Below.alloc ?_ ?_ _) | (with_reducible refine Below.setCell ?_ ?_ _) | (with_reducible refine Below.drew ?_) | (with_reducible refine below_drewN ?_ _) | (with_reducible exact Nat.le_refl _) | (with_reducible exact hB.size) | (simp [go_sem]; done) | (have := hB.size; simp [go_sem]; omega))); done)); (focus ((repeat' (first | (with_reducible exact hB) | (with_reducible exact Below.refl _ _) | (with_reducible refine Below.alloc ?_ ?_ _) | (with_reducible refine Below.setCell ?_ ?_ _) | (with_reducible refine Below.drew ?_) | (with_reducible refine below_drewN ?_ _) | (with_reducible exact Nat.le_refl _) | (with_reducible exact hB.size) | (simp [go_sem]; done) | (have := hB.size; simp [go_sem]; omega))); done)); clear hM hB hb; intro hM hB; (try clear hC); have hC := mem_facts hM; simp at hC))
            all_goals
              go_wp2_with fail
              go_meet
              refine ⟨by rw [HRR.out], fr_meet hBo hMo ?_⟩
              (repeat' (first | (with_reducible exact hB) | (with_reducible exact Below.refl _ _) | (with_reducible refine Below.alloc ?_ ?_ _) | (with_reducible refine Below.setCell ?_ ?_ _) | (with_reducible refine Below.drew ?_) | (with_reducible refine below_drewN ?_ _) | (with_reducible exact Nat.le_refl _) | (with_reducible exact hB.size) | (simp [go_sem]; done) | (have := hB.size; simp [go_sem]; omega)))
          case rest =>
            obtain ⟨rfl, hM', hB'⟩ := hcut
            (try clear hC); clear hM hB; have hM := hM'; have hB := hB'; clear hM' hB'; have hC := mem_facts hM; simp at hC
            cases hok : (tof (rot qs k)).2
            · go_wp2_with fail
              go_ret
              exact ⟨rfl, by (repeat' (first | (with_reducible exact hB) | (with_reducible exact Below.refl _ _) | (with_reducible refine Below.alloc ?_ ?_ _) | (with_reducible refine Below.setCell ?_ ?_ _) | (with_reducible refine Below.drew ?_) | (with_reducible refine below_drewN ?_ _) | (with_reducible exact Nat.le_refl _) | (with_reducible exact hB.size) | (simp [go_sem]; done) | (have := hB.size; simp [go_sem]; omega)))⟩
            · have HOK := Lib.hid hok
              clear hok
              go_wp2_with fail
              go_roundg (qs.length - (k + 1))
              case measure => omega
              case rel =>
                refine ⟨k + 1, by omega, by omega, by go_num, fun j hj => ?_, hM, hB⟩
                rcases Nat.lt_or_eq_of_le (Nat.le_of_lt_succ hj) with hj | rfl
                · exact HALL.out j hj
                · exact HOK.out
        · obtain rfl : k = qs.length := by omega
          have hr : rnB qs = true := rnB_all HLS.out HLM.out HALL.out
          have hR := fun W hg hv => TurnRound_ (.slice (some ⟨g, 0, none⟩) qs.length gc) qs hz W hg hv
          rw [hr] at hR
          clear hT hr
          go_wp2_with (first | (go_at_call 20; refine (hR _ (hg.of (by (repeat' (first | (with_reducible exact hB) | (with_reducible exact Below.refl _ _) | (with_reducible refine Below.alloc ?_ ?_ _) | (with_reducible refine Below.setCell ?_ ?_ _) | (with_reducible refine Below.drew ?_) | (with_reducible refine below_drewN ?_ _) | (with_reducible exact Nat.le_refl _) | (with_reducible exact hB.size) | (simp [go_sem]; done) | (have := hB.size; simp [go_sem]; omega))))) (hv _ (at_mem (by (repeat' (first | (with_reducible exact hM) | (with_reducible apply mem_alloc) | (with_reducible apply mem_set) | (with_reducible apply mem_drew) | (with_reducible apply mem_drewN)))) (by simp)))).mono ?_; rintro e w' ⟨rfl, hb⟩; apply after_call (w := w) hb; (focus ((repeat' (first | (with_reducible exact hM) | (with_reducible apply mem_alloc) | (with_reducible apply mem_set) | (with_reducible apply mem_drew) | (with_reducible apply mem_drewN))); done)); (focus ((repeat' (first | (with_reducible exact hB) | (with_reducible exact Below.refl _ _) | (with_reducible refine Below.alloc ?_ ?_ _) | (with_reducible refine Below.setCell ?_ ?_ _) | (with_reducible refine Below.drew ?_) | (with_reducible refine below_drewN ?_ _) | (with_reducible exact Nat.le_refl _) | (with_reducible exact hB.size) | (simp [go_sem]; done) | (have := hB.size; simp [go_sem]; omega))); done)); (focus ((repeat' (first | (with_reducible exact hB) | (with_reducible exact Below.refl _ _) | (with_reducible refine Below.alloc ?_ ?_ _) | (with_reducible refine Below.setCell ?_ ?_ _) | (with_reducible refine Below.drew ?_) | (with_reducible refine below_drewN ?_ _) | (with_reducible exact Nat.le_refl _) | (with_reducible exact hB.size) | (simp [go_sem]; done) | (have := hB.size; simp [go_sem]; omega))); done)); clear hM hB hb; intro hM hB; (try clear hC); have hC := mem_facts hM; simp at hC))
          go_ret
          exact ⟨rfl, by (repeat' (first | (with_reducible exact hB) | (with_reducible exact Below.refl _ _) | (with_reducible refine Below.alloc ?_ ?_ _) | (with_reducible refine Below.setCell ?_ ?_ _) | (with_reducible refine Below.drew ?_) | (with_reducible refine below_drewN ?_ _) | (with_reducible exact Nat.le_refl _) | (with_reducible exact hB.size) | (simp [go_sem]; done) | (have := hB.size; simp [go_sem]; omega)))⟩
theorem goRoundD (A : Option Addr) (len cap : Nat) (zs : List Int) (w : World) (hg : Hnd w) (h : IsRow .u8 w A len cap zs) : Calls Tryd.prog 6 #[.slice A len cap] w (fun E' W' => E' = .returned (.bool true) ∧ Below w.heap.size w W') := lawRoundD A len cap zs w hg (rowB h)
end Go.Proofs.YtbpaklcibkifnaaDoor


/- The model's list of a matrix, walked. No condition. -/
import Derived.Test.YtbpaklcibkifnaaDoorTurnN
import Derived.Test.YtbpaklcibkifnaaDoorTurnM
import Derived.Test.YtbpaklcibkifnaaDoorTurnS
namespace Go.Proofs.YtbpaklcibkifnaaDoor
open Go.RowKit

theorem l3Near_ (a c : Int) (ha : -1000000 ≤ a ∧ a ≤ 1000000) (hc : -1000000 ≤ c ∧ c ≤ 1000000) (h0 : c ≠ 0) (w : World) : Calls Tryd.prog 39 #[.int .i64 a, .int .i64 c] w (fun E' W' => E' = .returned (.int .i64 (near a c)) ∧ w = W') := by
  by_cases hn : c < 0
  · have e := floor_td (n := -(2 * a) - c) (d := -(2 * c)) (by omega)
    have hq : near a c = (-(2 * a) - c) / (-(2 * c)) := by rw [near, if_pos hn]
    have hb := q_bd (N := -(2 * a) - c) (D := -(2 * c)) (by omega) (by omega)
    have hw := wrap_mid (x := (-(2 * a) - c) / (-(2 * c))) (by omega)
    rw [hq]
    clear hq
    generalize hN : -(2 * a) - c = N at *
    generalize hD : -(2 * c) = D at *
    have e1 : 2 * -a + -c = N := by omega
    have e2 : 2 * -c = D := by omega
    have hD1 : (D = 0) = False := by simp; omega
    by_cases ht : N.tmod D < 0
    · have e' := e.1 ht
      go_enter Tryd.func39, Tryd.ntmps39
      go_wp2
      go_ret
      exact ⟨rfl, rfl⟩
    · have e' := e.2 ht
      go_enter Tryd.func39, Tryd.ntmps39
      go_wp2
      go_ret
      exact ⟨rfl, rfl⟩
  · have e := floor_td (n := 2 * a + c) (d := 2 * c) (by omega)
    have hq : near a c = (2 * a + c) / (2 * c) := by rw [near, if_neg hn]
    have hb := q_bd (N := 2 * a + c) (D := 2 * c) (by omega) (by omega)
    have hw := wrap_mid (x := (2 * a + c) / (2 * c)) (by omega)
    rw [hq]
    clear hq
    generalize hN : 2 * a + c = N at *
    generalize hD : 2 * c = D at *
    have hD1 : (D = 0) = False := by simp; omega
    by_cases ht : N.tmod D < 0
    · have e' := e.1 ht
      go_enter Tryd.func39, Tryd.ntmps39
      go_wp2
      go_ret
      exact ⟨rfl, rfl⟩
    · have e' := e.2 ht
      go_enter Tryd.func39, Tryd.ntmps39
      go_wp2
      go_ret
      exact ⟨rfl, rfl⟩
theorem prod_bd {m : M} (hm : inB m = true) (hd : xd m = 1) (hc : m.c ≠ 0) : (-3000000 ≤ near m.a m.c * m.c ∧ near m.a m.c * m.c ≤ 3000000) ∧ (-3000000 ≤ near m.a m.c * m.d ∧ near m.a m.c * m.d ≤ 3000000) := by
  obtain ⟨h1, h2, h3, h4⟩ := inB_iff.1 hm
  obtain ⟨k1, k2, k3, k4⟩ := inB_iff.1 (nxm_in hm hd hc).1
  simp only [nxm] at k1 k2 k3 k4
  omega
theorem row_empty {W : World} {base g : Nat} (h : W.heap[g]? = some (.cells #[] 3 (0, 0))) (hb : base ≤ g) : IntRow base W (.slice (some ⟨g, 0, none⟩) 0 0) [] :=
  ⟨rfl, .inr ⟨g, 0, #[], rfl, hb, h, Nat.le_refl _, Nat.zero_le _, rfl, rfl⟩⟩
set_option maxRecDepth 100000 in
set_option maxHeartbeats 4000000 in
theorem sTurnList_ (a b c d : Int) (w : World) : Calls Tryd.prog 13 #[.agg #[.int .i64 a, .int .i64 b, .int .i64 c, .int .i64 d]] w (TlOk w (tlr ⟨a, b, c, d⟩)) := by
  cases h : inB ⟨a, b, c, d⟩ && evB ⟨a, b, c, d⟩
  · have HE := Lib.hid (tlr_no h)
    have hM := mem_nil w; have hB := Below.refl w.heap.size w; have hC := True.intro
    go_enter Tryd.func13, Tryd.ntmps13
    go_wp2_with (first | (go_at_call 38; refine (sMatEven_ _ _ _ _ _).mono ?_; rintro e w' ⟨rfl, hb⟩; apply after_call (w := w) hb; (focus ((repeat' (first | (with_reducible exact hM) | (with_reducible apply mem_alloc) | (with_reducible apply mem_set) | (with_reducible apply mem_drew) | (with_reducible apply mem_drewN))); done)); (focus ((repeat' (first | (with_reducible exact hB) | (with_reducible exact Below.refl _ _) | (with_reducible refine Below.alloc ?_ ?_ _) | (with_reducible refine Below.setCell ?_ ?_ _) | (with_reducible refine Below.drew ?_) | (with_reducible refine below_drewN ?_ _) | (with_reducible exact Nat.le_refl _) | (with_reducible exact hB.size) | (simp [go_sem]; done) | (have := hB.size; simp [go_sem]; omega))); done)); (focus ((repeat' (first | (with_reducible exact hB) | (with_reducible exact Below.refl _ _) | (with_reducible refine Below.alloc ?_ ?_ _) | (with_reducible refine Below.setCell ?_ ?_ _) | (with_reducible refine Below.drew ?_) | (with_reducible refine below_drewN ?_ _) | (with_reducible exact Nat.le_refl _) | (with_reducible exact hB.size) | (simp [go_sem]; done) | (have := hB.size; simp [go_sem]; omega))); done)); clear hM hB hb; intro hM hB; (try clear hC); have hC := mem_facts hM; simp at hC))
    have HR := Lib.hid (row_empty (base := w.heap.size) (by have := hM.1 _ List.mem_cons_self; simpa using this) (Nat.le_succ w.heap.size))
    go_ret3
    exact ⟨_, by rw [HE.out]; rfl, by rw [HE.out]; exact HR.out, by (repeat' (first | (with_reducible exact hB) | (with_reducible exact Below.refl _ _) | (with_reducible refine Below.alloc ?_ ?_ _) | (with_reducible refine Below.setCell ?_ ?_ _) | (with_reducible refine Below.drew ?_) | (with_reducible refine below_drewN ?_ _) | (with_reducible exact Nat.le_refl _) | (with_reducible exact hB.size) | (simp [go_sem]; done) | (have := hB.size; simp [go_sem]; omega)))⟩
  · simp only [Bool.and_eq_true] at h
    obtain ⟨h1, h2⟩ := h
    have hx := (evB_iff h1).1 h2
    obtain ⟨i0, hi, hz0, hz1, hz2⟩ := info_parts infoI64
    obtain ⟨_, _, hcb, _⟩ := inB_iff.1 h1
    dsimp only at hcb
    have hlen := tlm_len h1 hx
    have hlen2 : (tls ⟨a, b, c, d⟩).1.length ≤ 1000000000 := by simp [tls]; omega
    have HL := Lib.hid (fun v W hv => l3List_ v (tls ⟨a, b, c, d⟩).1 hlen2 W hv)
    have HE1 := Lib.hid (fun hl => tlr_no2 (m := ⟨a, b, c, d⟩) hl)
    have HE2 := Lib.hid (fun hl => tlr_yes (m := ⟨a, b, c, d⟩) h1 h2 hl)
    have hM := mem_nil w; have hB := Below.refl w.heap.size w; have hC := True.intro
    go_enter Tryd.func13, Tryd.ntmps13
    go_wp2_with (first | (go_at_call 38; refine (sMatEven_ _ _ _ _ _).mono ?_; rintro e w' ⟨rfl, hb⟩; apply after_call (w := w) hb; (focus ((repeat' (first | (with_reducible exact hM) | (with_reducible apply mem_alloc) | (with_reducible apply mem_set) | (with_reducible apply mem_drew) | (with_reducible apply mem_drewN))); done)); (focus ((repeat' (first | (with_reducible exact hB) | (with_reducible exact Below.refl _ _) | (with_reducible refine Below.alloc ?_ ?_ _) | (with_reducible refine Below.setCell ?_ ?_ _) | (with_reducible refine Below.drew ?_) | (with_reducible refine below_drewN ?_ _) | (with_reducible exact Nat.le_refl _) | (with_reducible exact hB.size) | (simp [go_sem]; done) | (have := hB.size; simp [go_sem]; omega))); done)); (focus ((repeat' (first | (with_reducible exact hB) | (with_reducible exact Below.refl _ _) | (with_reducible refine Below.alloc ?_ ?_ _) | (with_reducible refine Below.setCell ?_ ?_ _) | (with_reducible refine Below.drew ?_) | (with_reducible refine below_drewN ?_ _) | (with_reducible exact Nat.le_refl _) | (with_reducible exact hB.size) | (simp [go_sem]; done) | (have := hB.size; simp [go_sem]; omega))); done)); clear hM hB hb; intro hM hB; (try clear hC); have hC := mem_facts hM; simp at hC))
    go_loopg [5, 6] c.natAbs (fun gk v _ wr => TkRel ⟨a, b, c, d⟩ w gk v wr)
    case atStart =>
      refine ⟨[], ⟨a, b, c, d⟩, rfl, h1, hx, rfl, by simp; omega, ?_, mem_drop 1 hM rfl, hB⟩
      exact row_empty (by have := hM.1 _ List.mem_cons_self; simpa using this) (Nat.le_succ w.heap.size)
    case round =>
      obtain ⟨acc, ⟨a1, b1, c1, d1⟩, rfl, hin, hxd, htl, hal, hR, hM', hB'⟩ := hrel
      have HI := Lib.hid hin
      have HX := Lib.hid hxd
      have HT := Lib.hid htl
      have hb1 := inB_iff.1 hin
      dsimp only at hal hb1
      clear hin hxd htl h1 h2 hx hcb hlen hlen2
      obtain ⟨ao, cap, rfl⟩ := row_form hR
      replace hR : wr.ownsRow w.heap.size 3 1 (.slice ao acc.length cap) acc.length (acc.map (Value.int .i64)) := by simpa [IntRow] using hR
      simp only [List.length_map]
      (try clear hC); clear hM hB; have hM := hM'; have hB := hB'; clear hM' hB'; have hC := mem_facts hM; simp at hC
      by_cases hc0 : c1 = 0
      · subst hc0
        have hf : tls ⟨a, b, c, d⟩ = (acc ++ [wrap64 (b1 * d1)], d1) := by rw [tls, HT.out, tlm_end rfl]; simp
        have HF := Lib.hid hf
        clear hf
        go_wp2_with (first | (at_builtin; refine wpList_append_own _ rfl _ _ 23 rfl w.heap.size 3 i0 (.int .i64 0) 1 8 Tryd.underlying23 hi hz0 hz1 hz2 rfl (by decide) _ _ _ rfl (hR.alloc _) ⟨_, 0, none⟩ 1 1 [.int .i64 (wrap64 (b1 * d1))] rfl rfl (cell_one_new _ _ _) (by simp [Value.oneCell']) (by simp [maxLen]; omega) (by first | omega | (simp; omega)) (by have := hB.size; simp; omega) ?_; intro v' w1 hown' hgrow hnn; clear hnn; obtain ⟨g', cap', rfl⟩ := ownsRow_succ hown'; apply after_app (w := w) (A := wr) hgrow (hR.alloc _) (mem_alloc0 hM _) (by simp) (hB.alloc hB.size _) (by have := hB.size; simp; omega) (keeps_alloc (KeepsOthers.refl wr) _); clear hM hB hgrow hR; intro hM hB _; have hR := hown'; clear hown'; (try clear hC); have hC := mem_facts hM; simp at hC))
        have hv : IntRow w.heap.size w1 (.slice (some ⟨g', 0, none⟩) (acc.length + 1) cap') (tls ⟨a, b, c, d⟩).1 := by
          rw [HF.out]
          unfold IntRow
          rw [List.length_map, List.map_append, List.length_append]
          exact hR
        have HV := Lib.hid hv
        have hL := HL.out _ w1 (IntRow.rdO hv)
        have HSg := Lib.hid (congrArg (fun p : List Int × Int => p.2) HF.out)
        clear hv hR HL HF HT HI HX
        cases hl : lsB (tls ⟨a, b, c, d⟩).1
        all_goals
          rw [hl] at hL
          have HE := Lib.hid (show tlr ⟨a, b, c, d⟩ = _ from by first | exact HE1.out hl | exact HE2.out hl)
          clear hl HE1 HE2
          have HLL := Lib.hid hL
          clear hL
          go_wp2_with (first | (go_at_call 25; refine HLL.out.mono ?_; rintro e w' ⟨rfl, rfl⟩))
        · go_ret3
          exact ⟨_, by rw [HE.out]; rfl, by rw [HE.out]; exact World.ownsRow_lit w1 #[] 0 hB.size (by decide) rfl, by (repeat' (first | (with_reducible exact hB) | (with_reducible exact Below.refl _ _) | (with_reducible refine Below.alloc ?_ ?_ _) | (with_reducible refine Below.setCell ?_ ?_ _) | (with_reducible refine Below.drew ?_) | (with_reducible refine below_drewN ?_ _) | (with_reducible exact Nat.le_refl _) | (with_reducible exact hB.size) | (simp [go_sem]; done) | (have := hB.size; simp [go_sem]; omega)))⟩
        · go_quiet (fail)
          go_wp2
          go_ret3
          refine ⟨_, by rw [HE.out, HSg.out]; rfl, by rw [HE.out]; exact HV.out, by (repeat' (first | (with_reducible exact hB) | (with_reducible exact Below.refl _ _) | (with_reducible refine Below.alloc ?_ ?_ _) | (with_reducible refine Below.setCell ?_ ?_ _) | (with_reducible refine Below.drew ?_) | (with_reducible refine below_drewN ?_ _) | (with_reducible exact Nat.le_refl _) | (with_reducible exact hB.size) | (simp [go_sem]; done) | (have := hB.size; simp [go_sem]; omega)))⟩
      · have hnear := fun W => l3Near_ a1 c1 hb1.1 hb1.2.2.1 hc0 W
        have HN := Lib.hid (nxm_in HI.out HX.out hc0)
        have HS := Lib.hid (tlm_step HI.out HX.out hc0)
        have HY := Lib.hid ((xd_nxm ⟨a1, b1, c1, d1⟩ (near a1 c1)).trans HX.out)
        have hpr := prod_bd HI.out HX.out hc0
        dsimp only at HN HS HY hpr
        generalize near a1 c1 = x at *
        have hna : c1.natAbs ≤ 1000000 := by omega
        have hc1 : (c1 = 0) = False := by simp [hc0]
        go_wp2_with (first | (go_at_call 39; refine (hnear _).mono ?_; rintro e w' ⟨rfl, rfl⟩) | (at_builtin; refine wpList_append_own _ rfl _ _ 23 rfl w.heap.size 3 i0 (.int .i64 0) 1 8 Tryd.underlying23 hi hz0 hz1 hz2 rfl (by decide) _ _ _ rfl (hR.alloc _) ⟨_, 0, none⟩ 1 1 [.int .i64 x] rfl rfl (cell_one_new _ _ _) (by simp [Value.oneCell']) (by simp [maxLen]; omega) (by first | omega | (simp; omega)) (by have := hB.size; simp; omega) ?_; intro v' w1 hown' hgrow hnn; clear hnn; obtain ⟨g', cap', rfl⟩ := ownsRow_succ hown'; apply after_app (w := w) (A := wr) hgrow (hR.alloc _) (mem_alloc0 hM _) (by simp) (hB.alloc hB.size _) (by have := hB.size; simp; omega) (keeps_alloc (KeepsOthers.refl wr) _); clear hM hB hgrow hR; intro hM hB _; have hR := hown'; clear hown'; (try clear hC); have hC := mem_facts hM; simp at hC))
        go_roundg (x * c1 - a1).natAbs
        case measure => have := HN.out.2; simp only [nxm] at this; omega
        case rel =>
          have hne := row_ne hM hR (by simp) _ List.mem_cons_self
          obtain ⟨cur, hcur, hge, hback⟩ := row_cells hR
          have hlt : w.heap.size < g' := by
            have : w.heap.size ≠ g' := fun e => hne (by rw [← e]; rfl)
            omega
          replace hM := mem_add hM hcur (by simpa using hlt)
          have hC := mem_facts hM
          simp at hC
          apply tk_use (L := [(g', cur, 3), (w.heap.size, #[.int .i64 c1, .int .i64 d1, .int .i64 (x * c1 - a1), .int .i64 (x * d1 - b1)], 26)])
          · apply mem_drop 0
            · (repeat' (first | (with_reducible exact hM) | (with_reducible apply mem_alloc) | (with_reducible apply mem_set) | (with_reducible apply mem_drew) | (with_reducible apply mem_drewN)))
            · simp [hC]
          intro hMf
          refine ⟨acc ++ [x], nxm ⟨a1, b1, c1, d1⟩ x, rfl, HN.out.1, HY.out, ?_, ?_, ?_, mem_drop 1 hMf rfl, by (repeat' (first | (with_reducible exact hB) | (with_reducible exact Below.refl _ _) | (with_reducible refine Below.alloc ?_ ?_ _) | (with_reducible refine Below.setCell ?_ ?_ _) | (with_reducible refine Below.drew ?_) | (with_reducible refine below_drewN ?_ _) | (with_reducible exact Nat.le_refl _) | (with_reducible exact hB.size) | (simp [go_sem]; done) | (have := hB.size; simp [go_sem]; omega)))⟩
          · rw [HT.out, HS.out, List.append_assoc]; rfl
          · have := HN.out.2; simp only [nxm] at this; simp; omega
          · have := hback _ (hMf.1 _ List.mem_cons_self)
            simpa [IntRow] using this
end Go.Proofs.YtbpaklcibkifnaaDoor


/- The program's list of a matrix, walked: the numbers that are taken off. No condition but that the matrix is an even one. -/
import Derived.Test.YtbpaklcibkifnaaDoorTurnN
import Derived.Test.YtbpaklcibkifnaaDoorTurnC
import Derived.Deep.AppendLies
namespace Go.Proofs.YtbpaklcibkifnaaDoor
open Go.RowKit

/-- the block of a slice of the call's own, and that it is all that the slice hangs on -/
theorem row_cells {W : World} {base g n cap : Nat} {e : TypeId} {xs : List Value} (h : W.ownsRow base e 1 (.slice (some ⟨g, 0, none⟩) n cap) n xs) :
    ∃ cur, W.heap[g]? = some (.cells cur e (0, 0)) ∧ base ≤ g ∧ ∀ W' : World, W'.heap[g]? = some (.cells cur e (0, 0)) → W'.ownsRow base e 1 (.slice (some ⟨g, 0, none⟩) n cap) n xs := by
  have h1 := h.1
  rcases h.2 with ⟨h2, _⟩ | ⟨g', cap', cur, h2, h3, h4, h5⟩
  · simp at h2
  · simp at h2
    obtain ⟨rfl, rfl⟩ := h2
    exact ⟨cur, h4, h3, fun W' hW => ⟨h1, .inr ⟨g, cap, cur, rfl, h3, hW, h5⟩⟩⟩
theorem mem_add {W : World} {L : List (Nat × Array Value × TypeId)} {g : Nat} {cs : Array Value} {t : TypeId} (h : Mem W L) (hg : W.heap[g]? = some (.cells cs t (0, 0))) (hl : ∀ q ∈ L, q.1 < g) : Mem W ((g, cs, t) :: L) := by
  refine ⟨fun p hp => ?_, List.pairwise_cons.2 ⟨fun q hq => hl q hq, h.2⟩⟩
  rcases List.mem_cons.1 hp with rfl | hp
  · exact hg
  · exact h.1 p hp
/-- at the head of a round of 'turnsOf': what is left has C with g, without its sign -/
def TkRel (m0 : M) (w : World) (g : Nat) (v : Value) (wr : World) : Prop := ∃ (acc : List Int) (m : M), g = m.c.natAbs ∧ inB m = true ∧ xd m = 1 ∧ tlm m0 = (acc ++ (tlm m).1, (tlm m).2) ∧ acc.length + g ≤ 1000000 ∧
  IntRow w.heap.size wr v acc ∧ Mem wr [(w.heap.size, #[.int .i64 m.a, .int .i64 m.b, .int .i64 m.c, .int .i64 m.d], 26)] ∧ Below w.heap.size w wr
theorem tk_use {m0 : M} {w W : World} {g : Nat} {v : Value} {L : List (Nat × Array Value × TypeId)} (h : Mem W L) (k : Mem W L → TkRel m0 w g v W) : TkRel m0 w g v W := k h
/-- what 'turnsOf' returns -/
def TkPost (m : M) (w : World) (e : Ending) (W' : World) : Prop := ∃ v, e = .returned (.tuple #[v, .int .i64 (tls m).2, .nilIface]) ∧ IntRow w.heap.size W' v (tls m).1 ∧ Below w.heap.size w W'
set_option maxRecDepth 100000 in
set_option maxHeartbeats 4000000 in
theorem turnsOf_ (a b c d : Int) (h1 : inB ⟨a, b, c, d⟩ = true) (h2 : xd ⟨a, b, c, d⟩ = 1) (w : World) : Calls Tryd.prog 37 #[.agg #[.int .i64 a, .int .i64 b, .int .i64 c, .int .i64 d]] w (TkPost ⟨a, b, c, d⟩ w) := by
  obtain ⟨i0, hi, hz0, hz1, hz2⟩ := info_parts infoI64
  have hev := (evB_iff h1).2 h2
  obtain ⟨_, _, hcb, _⟩ := inB_iff.1 h1
  dsimp only at hcb
  have hM := mem_nil w; have hB := Below.refl w.heap.size w; have hC := True.intro
  go_enter Tryd.func37, Tryd.ntmps37
  go_wp2_with (first | (go_at_call 10; refine (MatEven_ _ _ _ _ _).mono ?_; rintro e w' ⟨rfl, hb⟩; apply after_call (w := w) hb; (focus ((repeat' (first | (with_reducible exact hM) | (with_reducible apply mem_alloc) | (with_reducible apply mem_set) | (with_reducible apply mem_drew) | (with_reducible apply mem_drewN))); done)); (focus ((repeat' (first | (with_reducible exact hB) | (with_reducible exact Below.refl _ _) | (with_reducible refine Below.alloc ?_ ?_ _) | (with_reducible refine Below.setCell ?_ ?_ _) | (with_reducible refine Below.drew ?_) | (with_reducible refine below_drewN ?_ _) | (with_reducible exact Nat.le_refl _) | (with_reducible exact hB.size) | (simp [go_sem]; done) | (have := hB.size; simp [go_sem]; omega))); done)); (focus ((repeat' (first | (with_reducible exact hB) | (with_reducible exact Below.refl _ _) | (with_reducible refine Below.alloc ?_ ?_ _) | (with_reducible refine Below.setCell ?_ ?_ _) | (with_reducible refine Below.drew ?_) | (with_reducible refine below_drewN ?_ _) | (with_reducible exact Nat.le_refl _) | (with_reducible exact hB.size) | (simp [go_sem]; done) | (have := hB.size; simp [go_sem]; omega))); done)); clear hM hB hb; intro hM hB; (try clear hC); have hC := mem_facts hM; simp at hC))
  go_loopg [5, 6] c.natAbs (fun gk v _ wr => TkRel ⟨a, b, c, d⟩ w gk v wr)
  case atStart =>
    refine ⟨[], ⟨a, b, c, d⟩, rfl, h1, h2, rfl, by simp; omega, World.ownsRow_nil _ _ _ _, ?_, by (repeat' (first | (with_reducible exact hB) | (with_reducible exact Below.refl _ _) | (with_reducible refine Below.alloc ?_ ?_ _) | (with_reducible refine Below.setCell ?_ ?_ _) | (with_reducible refine Below.drew ?_) | (with_reducible refine below_drewN ?_ _) | (with_reducible exact Nat.le_refl _) | (with_reducible exact hB.size) | (simp [go_sem]; done) | (have := hB.size; simp [go_sem]; omega)))⟩
    apply mem_drop 0
    · (repeat' (first | (with_reducible exact hM) | (with_reducible apply mem_alloc) | (with_reducible apply mem_set) | (with_reducible apply mem_drew) | (with_reducible apply mem_drewN)))
    · simp
  case round =>
    obtain ⟨acc, ⟨a1, b1, c1, d1⟩, rfl, hin, hxd, htl, hal, hR, hM', hB'⟩ := hrel
    have HI := Lib.hid hin
    have HX := Lib.hid hxd
    have HT := Lib.hid htl
    have hb1 := inB_iff.1 hin
    dsimp only at hal hb1
    clear hin hxd htl hev h1 h2 hcb
    obtain ⟨ao, cap, rfl⟩ := row_form hR
    replace hR : wr.ownsRow w.heap.size 3 1 (.slice ao acc.length cap) acc.length (acc.map (Value.int .i64)) := by simpa [IntRow] using hR
    simp only [List.length_map]
    (try clear hC); clear hM hB; have hM := hM'; have hB := hB'; clear hM' hB'; have hC := mem_facts hM; simp at hC
    by_cases hc0 : c1 = 0
    · subst hc0
      have HE := Lib.hid (tlm_end (m := ⟨a1, b1, 0, d1⟩) rfl)
      go_upto_region 8 with fail
      go_region_held3 (fun W' => W'.cell? ⟨w.heap.size, 1, none⟩ = some (.int .i64 b1) ∧ W'.cell? ⟨w.heap.size, 3, none⟩ = some (.int .i64 d1))
        (first | (simp [*, go_sem]; done) | (refine ⟨?_, ?_⟩ <;> (rw [hgrow.cell_far _ (by simp; omega) (Ne.symm (row_ne hM hR (by simp) _ List.mem_cons_self).symm)]; simp [*, go_sem]; done)))
        ((refine step_append_lies _ (by rfl) _ _ _ (by rfl) w.heap.size 3 i0 (.int .i64 0) 1 8 Tryd.underlying39 hi hz0 hz1 hz2 rfl (by omega) (.slice ao acc.length cap) acc.length (acc.map (Value.int .i64)) (by rfl) ((hR.alloc _).drew)
            ⟨_, 0, none⟩ 1 1 [_] (by rfl) (by rfl) (cell_one_new _ _ _) (by simp [Value.oneCell']) (by omega) (by simp [maxLen]; omega) (by omega) (by have := hB.size; simp; omega) (wr.heap.size + 1) (by simp) ?_; intro g' cap' w1 hown1 hgrow _ _))
      have hf : tls ⟨a, b, c, d⟩ = (acc ++ [wrap64 (b1 * d1)], d1) := by rw [tls, HT.out, HE.out]; simp
      have HF := Lib.hid hf
      clear hf
      go_wp2_with fail
      go_ret3
      refine ⟨.slice (some ⟨g', 0, none⟩) (acc.length + 1) cap', by rw [HF.out]; rfl, ?_, ?_⟩
      · rw [HF.out]
        unfold IntRow
        rw [List.length_map, List.map_append, List.length_append]
        rw [w64] at hown1
        exact hown1
      · refine (hB.alloc hB.size _).drew.grown hgrow (by have := hB.size; simp; omega) fun k hk => ?_
        exact (hR.lt k hk).1
    · have hx := near_in HI.out hc0
      have HN := Lib.hid (nxm_in HI.out HX.out hc0)
      have HS := Lib.hid (tlm_step HI.out HX.out hc0)
      have HY := Lib.hid ((xd_nxm ⟨a1, b1, c1, d1⟩ (near a1 c1)).trans HX.out)
      have HQ := Lib.hid (show tm ⟨(tm ⟨0, 1, -1, 0⟩ ⟨1, -near a1 c1, 0, 1⟩).a, (tm ⟨0, 1, -1, 0⟩ ⟨1, -near a1 c1, 0, 1⟩).b, (tm ⟨0, 1, -1, 0⟩ ⟨1, -near a1 c1, 0, 1⟩).c, (tm ⟨0, 1, -1, 0⟩ ⟨1, -near a1 c1, 0, 1⟩).d⟩ ⟨a1, b1, c1, d1⟩ = nxm ⟨a1, b1, c1, d1⟩ (near a1 c1) from nx_tm HI.out hx)
      have hnear := fun W => nearest_ a1 c1 hb1.1 hb1.2.2.1 hc0 W
      dsimp only at hx HN HS HY
      generalize near a1 c1 = x at *
      have hna : c1.natAbs ≤ 1000000 := by omega
      have hwr : IntKind.i64.wrap (-x) = -x := by rw [IntKind.wrap_i64]; omega
      have hc1 : (c1 = 0) = False := by simp [hc0]
      go_upto_region 7 with (first | (go_at_call 56; refine (hnear _).mono ?_; rintro e w' ⟨rfl, rfl⟩) | (at_builtin; refine wpList_append_own _ rfl _ _ 39 rfl w.heap.size 3 i0 (.int .i64 0) 1 8 Tryd.underlying39 hi hz0 hz1 hz2 rfl (by decide) _ _ _ rfl (hR.alloc _) ⟨_, 0, none⟩ 1 1 [.int .i64 x] rfl rfl (cell_one_new _ _ _) (by simp [Value.oneCell']) (by simp [maxLen]; omega) (by first | omega | (simp; omega)) (by have := hB.size; simp; omega) ?_; intro v' w1 hown' hgrow hnn; clear hnn; obtain ⟨g', cap', rfl⟩ := ownsRow_succ hown'; apply after_app (w := w) (A := wr) hgrow (hR.alloc _) (mem_alloc0 hM _) (by simp) (hB.alloc hB.size _) (by have := hB.size; simp; omega) (keeps_alloc (KeepsOthers.refl wr) _); clear hM hB hgrow hR; intro hM hB _; have hR := hown'; clear hown'; (try clear hC); have hC := mem_facts hM; simp at hC))
      have hne := row_ne hM hR (by simp) _ List.mem_cons_self
      obtain ⟨cur, hcur, hge, hback⟩ := row_cells hR
      have HB := Lib.hid hback
      have hlt : w.heap.size < g' := by
        have : w.heap.size ≠ g' := fun e => hne (by rw [← e]; rfl)
        omega
      replace hM := mem_add hM hcur (by simpa using hlt)
      clear hR hne hcur hback hC
      have hC := mem_facts hM
      simp at hC
      have hC0 := hC
      go_region_with (first | (go_at_call 47; refine (turnV_ _).mono ?_; rintro e w' ⟨rfl, hb⟩; apply after_call (w := w) hb; (focus ((repeat' (first | (with_reducible exact hM) | (with_reducible apply mem_alloc) | (with_reducible apply mem_set) | (with_reducible apply mem_drew) | (with_reducible apply mem_drewN))); done)); (focus ((repeat' (first | (with_reducible exact hB) | (with_reducible exact Below.refl _ _) | (with_reducible refine Below.alloc ?_ ?_ _) | (with_reducible refine Below.setCell ?_ ?_ _) | (with_reducible refine Below.drew ?_) | (with_reducible refine below_drewN ?_ _) | (with_reducible exact Nat.le_refl _) | (with_reducible exact hB.size) | (simp [go_sem]; done) | (have := hB.size; simp [go_sem]; omega))); done)); (focus ((repeat' (first | (with_reducible exact hB) | (with_reducible exact Below.refl _ _) | (with_reducible refine Below.alloc ?_ ?_ _) | (with_reducible refine Below.setCell ?_ ?_ _) | (with_reducible refine Below.drew ?_) | (with_reducible refine below_drewN ?_ _) | (with_reducible exact Nat.le_refl _) | (with_reducible exact hB.size) | (simp [go_sem]; done) | (have := hB.size; simp [go_sem]; omega))); done)); clear hM hB hb; intro hM hB; (try clear hC); have hC := mem_facts hM; simp at hC) | (go_at_call 57; refine (backT_ _).mono ?_; rintro e w' ⟨rfl, hb⟩; apply after_call (w := w) hb; (focus ((repeat' (first | (with_reducible exact hM) | (with_reducible apply mem_alloc) | (with_reducible apply mem_set) | (with_reducible apply mem_drew) | (with_reducible apply mem_drewN))); done)); (focus ((repeat' (first | (with_reducible exact hB) | (with_reducible exact Below.refl _ _) | (with_reducible refine Below.alloc ?_ ?_ _) | (with_reducible refine Below.setCell ?_ ?_ _) | (with_reducible refine Below.drew ?_) | (with_reducible refine below_drewN ?_ _) | (with_reducible exact Nat.le_refl _) | (with_reducible exact hB.size) | (simp [go_sem]; done) | (have := hB.size; simp [go_sem]; omega))); done)); (focus ((repeat' (first | (with_reducible exact hB) | (with_reducible exact Below.refl _ _) | (with_reducible refine Below.alloc ?_ ?_ _) | (with_reducible refine Below.setCell ?_ ?_ _) | (with_reducible refine Below.drew ?_) | (with_reducible refine below_drewN ?_ _) | (with_reducible exact Nat.le_refl _) | (with_reducible exact hB.size) | (simp [go_sem]; done) | (have := hB.size; simp [go_sem]; omega))); done)); clear hM hB hb; intro hM hB; (try clear hC); have hC := mem_facts hM; simp at hC) | (go_at_call 45; refine (shiftV_ _ _).mono ?_; rintro e w' ⟨rfl, hb⟩; apply after_call (w := w) hb; (focus ((repeat' (first | (with_reducible exact hM) | (with_reducible apply mem_alloc) | (with_reducible apply mem_set) | (with_reducible apply mem_drew) | (with_reducible apply mem_drewN))); done)); (focus ((repeat' (first | (with_reducible exact hB) | (with_reducible exact Below.refl _ _) | (with_reducible refine Below.alloc ?_ ?_ _) | (with_reducible refine Below.setCell ?_ ?_ _) | (with_reducible refine Below.drew ?_) | (with_reducible refine below_drewN ?_ _) | (with_reducible exact Nat.le_refl _) | (with_reducible exact hB.size) | (simp [go_sem]; done) | (have := hB.size; simp [go_sem]; omega))); done)); (focus ((repeat' (first | (with_reducible exact hB) | (with_reducible exact Below.refl _ _) | (with_reducible refine Below.alloc ?_ ?_ _) | (with_reducible refine Below.setCell ?_ ?_ _) | (with_reducible refine Below.drew ?_) | (with_reducible refine below_drewN ?_ _) | (with_reducible exact Nat.le_refl _) | (with_reducible exact hB.size) | (simp [go_sem]; done) | (have := hB.size; simp [go_sem]; omega))); done)); clear hM hB hb; intro hM hB; (try clear hC); have hC := mem_facts hM; simp at hC) | (go_at_call 46; refine (times_ _ _ _ _ _ _ _ _ _).mono ?_; rintro e w' ⟨rfl, hb⟩; apply after_call (w := w) hb; (focus ((repeat' (first | (with_reducible exact hM) | (with_reducible apply mem_alloc) | (with_reducible apply mem_set) | (with_reducible apply mem_drew) | (with_reducible apply mem_drewN))); done)); (focus ((repeat' (first | (with_reducible exact hB) | (with_reducible exact Below.refl _ _) | (with_reducible refine Below.alloc ?_ ?_ _) | (with_reducible refine Below.setCell ?_ ?_ _) | (with_reducible refine Below.drew ?_) | (with_reducible refine below_drewN ?_ _) | (with_reducible exact Nat.le_refl _) | (with_reducible exact hB.size) | (simp [go_sem]; done) | (have := hB.size; simp [go_sem]; omega))); done)); (focus ((repeat' (first | (with_reducible exact hB) | (with_reducible exact Below.refl _ _) | (with_reducible refine Below.alloc ?_ ?_ _) | (with_reducible refine Below.setCell ?_ ?_ _) | (with_reducible refine Below.drew ?_) | (with_reducible refine below_drewN ?_ _) | (with_reducible exact Nat.le_refl _) | (with_reducible exact hB.size) | (simp [go_sem]; done) | (have := hB.size; simp [go_sem]; omega))); done)); clear hM hB hb; intro hM hB; (try clear hC); have hC := mem_facts hM; simp at hC))
      all_goals
        go_wp2_with fail
        go_roundg (nxm ⟨a1, b1, c1, d1⟩ x).c.natAbs
        case measure => have := HN.out.2; omega
        case rel =>
          apply tk_use (L := [(g', cur, 3), (w.heap.size, #[.int .i64 (nxm ⟨a1, b1, c1, d1⟩ x).a, .int .i64 (nxm ⟨a1, b1, c1, d1⟩ x).b, .int .i64 (nxm ⟨a1, b1, c1, d1⟩ x).c, .int .i64 (nxm ⟨a1, b1, c1, d1⟩ x).d], 26)])
          · apply mem_drop 0
            · (repeat' (first | (with_reducible exact hM) | (with_reducible apply mem_alloc) | (with_reducible apply mem_set) | (with_reducible apply mem_drew) | (with_reducible apply mem_drewN)))
            · simp [HQ.out, hC0]
          intro hMf
          refine ⟨acc ++ [x], nxm ⟨a1, b1, c1, d1⟩ x, rfl, HN.out.1, HY.out, ?_, ?_, ?_, mem_drop 1 hMf rfl, by (repeat' (first | (with_reducible exact hB) | (with_reducible exact Below.refl _ _) | (with_reducible refine Below.alloc ?_ ?_ _) | (with_reducible refine Below.setCell ?_ ?_ _) | (with_reducible refine Below.drew ?_) | (with_reducible refine below_drewN ?_ _) | (with_reducible exact Nat.le_refl _) | (with_reducible exact hB.size) | (simp [go_sem]; done) | (have := hB.size; simp [go_sem]; omega)))⟩
          · rw [HT.out, HS.out, List.append_assoc]; rfl
          · have := HN.out.2; simp; omega
          · have := HB.out _ (hMf.1 _ List.mem_cons_self)
            simpa [IntRow] using this
end Go.Proofs.YtbpaklcibkifnaaDoor

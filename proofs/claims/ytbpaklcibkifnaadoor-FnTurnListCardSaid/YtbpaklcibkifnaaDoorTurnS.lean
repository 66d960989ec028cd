
/- The model's functions on lists of shifts and turns, walked: what is a list; the matrix of a list; its trace; which lists are plain. Each for every argument. -/
import Derived.Test.YtbpaklcibkifnaaDoorTurnR
import Derived.Test.YtbpaklcibkifnaaDoorSpecA
import Derived.Deep.LoopGhost
import Derived.Deep.DeepCutAuto
namespace Go.Proofs.YtbpaklcibkifnaaDoor
open Go.RowKit

theorem l6B_th (x : Int) : l6B x (-1000) 1000 = thB x := rfl
theorem l6B_len (n : Nat) : l6B (n : Int) 1 20 = (decide (1 ≤ n) && decide (n ≤ 20)) := by rw [Bool.eq_iff_iff]; simp [l6B]; omega
set_option maxHeartbeats 1000000 in
theorem l3List_ (v : Value) (zs : List Int) (hz : zs.length ≤ 1000000000) (w : World) (hv : RdO w v zs) : Calls Tryd.prog 25 #[v] w (fun E' W' => E' = .returned (.bool (lsB zs)) ∧ w = W') := by
  obtain ⟨ao, cap, rfl, _, hc⟩ := hv
  have HC := Lib.hid hc
  clear hc
  go_enter Tryd.func25, Tryd.ntmps25
  go_wp2
  go_loop [3] (fun i => ∃ k : Nat, k ≤ zs.length ∧ i = .int .i64 k ∧ (zs.take k).all thB = true) (fun i => zs.length - (intOf i).toNat)
  case atStart => exact ⟨0, Nat.zero_le _, rfl, by simp⟩
  case round =>
    obtain ⟨k, hk, rfl, ha⟩ := hrel
    have HA := Lib.hid ha
    clear ha
    by_cases hlt : k < zs.length
    · obtain ⟨g, o, rfl, h3⟩ := HC.out k hlt
      have HS := Lib.hid (all_take_succ (p := thB) hlt)
      have HF := Lib.hid (all_false_of (p := thB) hlt)
      generalize zs.getD k 0 = z at *
      have hth := l6B_th z
      cases h4 : thB z
      · rw [h4] at hth
        go_wp2_with (first | (go_at_call 49; refine (l6In_ _ _ _ _).mono ?_; rintro e w' ⟨rfl, rfl⟩))
        go_ret
        exact ⟨by simp [lsB, HF.out h4], rfl⟩
      · rw [h4] at hth
        go_wp2_with (first | (go_at_call 49; refine (l6In_ _ _ _ _).mono ?_; rintro e w' ⟨rfl, rfl⟩))
        go_round
        case rel => exact ⟨k + 1, by omega, by go_num, by rw [HS.out, HA.out, h4]; rfl⟩
        case measure => simp [intOf]; omega
    · obtain rfl : k = zs.length := by omega
      go_wp2_with (first | (go_at_call 49; refine (l6In_ _ _ _ _).mono ?_; rintro e w' ⟨rfl, rfl⟩))
      go_ret
      have := HA.out
      rw [List.take_of_length_le (Nat.le_refl _)] at this
      exact ⟨by simp [lsB, this, l6B_len], rfl⟩

/-- a matrix times the turn, and times a shift, as the model makes them -/
def ltu (m : M) : M := ⟨m.b, wrap64 (0 - m.a), m.d, wrap64 (0 - m.c)⟩
def lsh (m : M) (x : Int) : M := ⟨m.a, wrap64 (wrap64 (m.a * x) + m.b), m.c, wrap64 (wrap64 (m.c * x) + m.d)⟩
theorem lsh_step {m : M} {x : Int} (hm : inB m = true) (hx : -1000 ≤ x ∧ x ≤ 1000) : lsh (ltu m) x = stp m x := step_s hm hx
theorem lsh_unit {x : Int} (hx : -1000 ≤ x ∧ x ≤ 1000) : lsh ⟨1, 0, 0, 1⟩ x = sh x := by
  apply M.ext' <;> simp only [lsh, sh, Int.one_mul, Int.zero_mul]
  · rw [wrap_mid (x := x) (by omega), Int.add_zero, wrap_mid (by omega)]
  · rw [wrap_mid (x := 0) (by omega), wrap_mid (by omega)]; rfl
theorem l3turn_ (a b c d : Int) (w : World) : Calls Tryd.prog 29 #[.agg #[.int .i64 a, .int .i64 b, .int .i64 c, .int .i64 d]] w (fun E' W' => E' = .returned (.agg #[.int .i64 ((ltu ⟨a, b, c, d⟩)).a, .int .i64 ((ltu ⟨a, b, c, d⟩)).b, .int .i64 ((ltu ⟨a, b, c, d⟩)).c, .int .i64 ((ltu ⟨a, b, c, d⟩)).d]) ∧ Below w.heap.size w W') := by
  have hM := mem_nil w; have hB := Below.refl w.heap.size w; have hC := True.intro
  go_enter Tryd.func29, Tryd.ntmps29
  go_wp2
  refine bodyPost_ret (by (simp [results, Tryd.results29, go_sem, *]; try rfl)) rfl ?_
  exact ⟨by simp [ltu], by (repeat' (first | (with_reducible exact hB) | (with_reducible exact Below.refl _ _) | (with_reducible refine Below.alloc ?_ ?_ _) | (with_reducible refine Below.setCell ?_ ?_ _) | (with_reducible refine Below.drew ?_) | (with_reducible refine below_drewN ?_ _) | (with_reducible exact Nat.le_refl _) | (with_reducible exact hB.size) | (simp [go_sem]; done) | (have := hB.size; simp [go_sem]; omega)))⟩
theorem l3Shift_ (a b c d x : Int) (w : World) : Calls Tryd.prog 27 #[.agg #[.int .i64 a, .int .i64 b, .int .i64 c, .int .i64 d], .int .i64 x] w (fun E' W' => E' = .returned (.agg #[.int .i64 ((lsh ⟨a, b, c, d⟩ x)).a, .int .i64 ((lsh ⟨a, b, c, d⟩ x)).b, .int .i64 ((lsh ⟨a, b, c, d⟩ x)).c, .int .i64 ((lsh ⟨a, b, c, d⟩ x)).d]) ∧ Below w.heap.size w W') := by
  have hM := mem_nil w; have hB := Below.refl w.heap.size w; have hC := True.intro
  go_enter Tryd.func27, Tryd.ntmps27
  go_wp2
  refine bodyPost_ret (by (simp [results, Tryd.results27, go_sem, *]; try rfl)) rfl ?_
  exact ⟨by simp [lsh], by (repeat' (first | (with_reducible exact hB) | (with_reducible exact Below.refl _ _) | (with_reducible refine Below.alloc ?_ ?_ _) | (with_reducible refine Below.setCell ?_ ?_ _) | (with_reducible refine Below.drew ?_) | (with_reducible refine below_drewN ?_ _) | (with_reducible exact Nat.le_refl _) | (with_reducible exact hB.size) | (simp [go_sem]; done) | (have := hB.size; simp [go_sem]; omega)))⟩
/-- at the head of a round of the model's 'TurnOf': g more numbers at most -/
def SoRel (zs : List Int) (w : World) (b0 : Nat) (g : Nat) (i : Value) (wr : World) : Prop := ∃ (k : Nat) (m : M), k + g = zs.length ∧ 1 ≤ k ∧ i = .int .i64 k ∧ inB m = true ∧ xd m = 1 ∧ lmat zs = matF m (zs.drop k) ∧
  Mem wr [(b0, #[.int .i64 m.a, .int .i64 m.b, .int .i64 m.c, .int .i64 m.d], 26), (w.heap.size, #[.int .i64 0, .int .i64 0, .int .i64 0, .int .i64 0], 26)] ∧ Below w.heap.size w wr
set_option maxHeartbeats 2000000 in
theorem sTurnOf_ (v : Value) (zs : List Int) (hz : zs.length ≤ 1000000000) (w : World) (hv : RdO w v zs) : Calls Tryd.prog 9 #[v] w (fun E' W' => E' = .returned (.tuple #[.agg #[.int .i64 ((tof zs).1).a, .int .i64 ((tof zs).1).b, .int .i64 ((tof zs).1).c, .int .i64 ((tof zs).1).d], .bool (tof zs).2]) ∧ Below w.heap.size w W') := by
  cases h : lsB zs
  · have HE := Lib.hid (tof_no h)
    have hM := mem_nil w; have hB := Below.refl w.heap.size w; have hC := True.intro
    go_enter Tryd.func9, Tryd.ntmps9
    go_wp2_with (first | (go_at_call 25; refine (l3List_ _ zs hz _ (hv.below (by (repeat' (first | (with_reducible exact hB) | (with_reducible exact Below.refl _ _) | (with_reducible refine Below.alloc ?_ ?_ _) | (with_reducible refine Below.setCell ?_ ?_ _) | (with_reducible refine Below.drew ?_) | (with_reducible refine below_drewN ?_ _) | (with_reducible exact Nat.le_refl _) | (with_reducible exact hB.size) | (simp [go_sem]; done) | (have := hB.size; simp [go_sem]; omega)))))).mono ?_; rintro e w' ⟨rfl, rfl⟩) | (go_at_call 26; refine (l1None_ _).mono ?_; rintro e w' ⟨rfl, hb⟩; apply after_call (w := w) hb; (focus ((repeat' (first | (with_reducible exact hM) | (with_reducible apply mem_alloc) | (with_reducible apply mem_set) | (with_reducible apply mem_drew) | (with_reducible apply mem_drewN))); done)); (focus ((repeat' (first | (with_reducible exact hB) | (with_reducible exact Below.refl _ _) | (with_reducible refine Below.alloc ?_ ?_ _) | (with_reducible refine Below.setCell ?_ ?_ _) | (with_reducible refine Below.drew ?_) | (with_reducible refine below_drewN ?_ _) | (with_reducible exact Nat.le_refl _) | (with_reducible exact hB.size) | (simp [go_sem]; done) | (have := hB.size; simp [go_sem]; omega))); done)); (focus ((repeat' (first | (with_reducible exact hB) | (with_reducible exact Below.refl _ _) | (with_reducible refine Below.alloc ?_ ?_ _) | (with_reducible refine Below.setCell ?_ ?_ _) | (with_reducible refine Below.drew ?_) | (with_reducible refine below_drewN ?_ _) | (with_reducible exact Nat.le_refl _) | (with_reducible exact hB.size) | (simp [go_sem]; done) | (have := hB.size; simp [go_sem]; omega))); done)); clear hM hB hb; intro hM hB; (try clear hC); have hC := mem_facts hM; simp at hC))
    refine bodyPost_ret (by (simp [results, Tryd.results9, go_sem, *]; try rfl)) rfl ?_
    exact ⟨by rw [HE.out]; rfl, by (repeat' (first | (with_reducible exact hB) | (with_reducible exact Below.refl _ _) | (with_reducible refine Below.alloc ?_ ?_ _) | (with_reducible refine Below.setCell ?_ ?_ _) | (with_reducible refine Below.drew ?_) | (with_reducible refine below_drewN ?_ _) | (with_reducible exact Nat.le_refl _) | (with_reducible exact hB.size) | (simp [go_sem]; done) | (have := hB.size; simp [go_sem]; omega)))⟩
  · have hv0 := hv
    obtain ⟨ao, cap, rfl, hcap, hc⟩ := hv
    obtain ⟨⟨h1, h20⟩, hall⟩ := lsB_iff.1 h
    have HC := Lib.hid hc
    have HA := Lib.hid hall
    have HE := Lib.hid (tof_ls h)
    obtain ⟨g, o, rfl, hc0⟩ := hc 0 (by omega)
    have h0 : zs.getD 0 0 = zs.headD 0 := by cases zs <;> rfl
    rw [Nat.add_zero, h0] at hc0
    have hx0 : -1000 ≤ zs.headD 0 ∧ zs.headD 0 ≤ 1000 := by
      cases zs with
      | nil => simp at h1
      | cons x l => exact hall x List.mem_cons_self
    have HL := Lib.hid (show lmat zs = matF (sh (zs.headD 0)) (zs.drop 1) from by rw [lmat, List.drop_one])
    generalize zs.headD 0 = x0 at *
    have hg : g < w.heap.size := World.block_lt_of_cell? w _ hc0
    have hg1 : (g = w.heap.size) = False := by simp; omega
    have hg2 : (w.heap.size = g) = False := by simp; omega
    have HS := Lib.hid (lsh_unit hx0)
    have hl0 : 0 < zs.length := h1
    clear hc hall h0
    have hM := mem_nil w; have hB := Below.refl w.heap.size w; have hC := True.intro
    go_enter Tryd.func9, Tryd.ntmps9
    go_upto_region 3 with (first | (go_at_call 25; refine (l3List_ _ zs hz _ (hv0.below (by (repeat' (first | (with_reducible exact hB) | (with_reducible exact Below.refl _ _) | (with_reducible refine Below.alloc ?_ ?_ _) | (with_reducible refine Below.setCell ?_ ?_ _) | (with_reducible refine Below.drew ?_) | (with_reducible refine below_drewN ?_ _) | (with_reducible exact Nat.le_refl _) | (with_reducible exact hB.size) | (simp [go_sem]; done) | (have := hB.size; simp [go_sem]; omega)))))).mono ?_; rintro e w' ⟨rfl, rfl⟩))
    go_cut [4] (fun s4 wx => ∃ b0 : Nat, s4 = .pointer (some ⟨b0, 0, none⟩) ∧ Mem wx [(b0, #[.int .i64 (sh x0).a, .int .i64 (sh x0).b, .int .i64 (sh x0).c, .int .i64 (sh x0).d], 26), (w.heap.size, #[.int .i64 0, .int .i64 0, .int .i64 0, .int .i64 0], 26)] ∧ Below w.heap.size w wx)
    case first =>
      go_region_held3 (fun W' => W'.cell? ⟨g, o, none⟩ = some (.int .i64 x0)) (first | (refine Eq.trans (Below.cell (B := w.heap.size) (w := w) ?_ (p := ⟨g, o, none⟩) hg) hc0; (focus ((repeat' (first | (with_reducible exact hB) | (with_reducible exact Below.refl _ _) | (with_reducible refine Below.alloc ?_ ?_ _) | (with_reducible refine Below.setCell ?_ ?_ _) | (with_reducible refine Below.drew ?_) | (with_reducible refine below_drewN ?_ _) | (with_reducible exact Nat.le_refl _) | (with_reducible exact hB.size) | (simp [go_sem]; done) | (have := hB.size; simp [go_sem]; omega))); done))) | (simp [*, go_sem]; done)) (first | (go_at_call 28; refine (l1Unit_ _).mono ?_; rintro e w' ⟨rfl, hb⟩; apply after_call (w := w) hb; (focus ((repeat' (first | (with_reducible exact hM) | (with_reducible apply mem_alloc) | (with_reducible apply mem_set) | (with_reducible apply mem_drew) | (with_reducible apply mem_drewN))); done)); (focus ((repeat' (first | (with_reducible exact hB) | (with_reducible exact Below.refl _ _) | (with_reducible refine Below.alloc ?_ ?_ _) | (with_reducible refine Below.setCell ?_ ?_ _) | (with_reducible refine Below.drew ?_) | (with_reducible refine below_drewN ?_ _) | (with_reducible exact Nat.le_refl _) | (with_reducible exact hB.size) | (simp [go_sem]; done) | (have := hB.size; simp [go_sem]; omega))); done)); (focus ((repeat' (first | (with_reducible exact hB) | (with_reducible exact Below.refl _ _) | (with_reducible refine Below.alloc ?_ ?_ _) | (with_reducible refine Below.setCell ?_ ?_ _) | (with_reducible refine Below.drew ?_) | (with_reducible refine below_drewN ?_ _) | (with_reducible exact Nat.le_refl _) | (with_reducible exact hB.size) | (simp [go_sem]; done) | (have := hB.size; simp [go_sem]; omega))); done)); clear hM hB hb; intro hM hB; (try clear hC); have hC := mem_facts hM; simp at hC) | (go_at_call 27; refine (l3Shift_ _ _ _ _ _ _).mono ?_; rintro e w' ⟨rfl, hb⟩; apply after_call (w := w) hb; (focus ((repeat' (first | (with_reducible exact hM) | (with_reducible apply mem_alloc) | (with_reducible apply mem_set) | (with_reducible apply mem_drew) | (with_reducible apply mem_drewN))); done)); (focus ((repeat' (first | (with_reducible exact hB) | (with_reducible exact Below.refl _ _) | (with_reducible refine Below.alloc ?_ ?_ _) | (with_reducible refine Below.setCell ?_ ?_ _) | (with_reducible refine Below.drew ?_) | (with_reducible refine below_drewN ?_ _) | (with_reducible exact Nat.le_refl _) | (with_reducible exact hB.size) | (simp [go_sem]; done) | (have := hB.size; simp [go_sem]; omega))); done)); (focus ((repeat' (first | (with_reducible exact hB) | (with_reducible exact Below.refl _ _) | (with_reducible refine Below.alloc ?_ ?_ _) | (with_reducible refine Below.setCell ?_ ?_ _) | (with_reducible refine Below.drew ?_) | (with_reducible refine below_drewN ?_ _) | (with_reducible exact Nat.le_refl _) | (with_reducible exact hB.size) | (simp [go_sem]; done) | (have := hB.size; simp [go_sem]; omega))); done)); clear hM hB hb; intro hM hB; (try clear hC); have hC := mem_facts hM; simp at hC))
      all_goals
        go_wp2_with fail
        go_meet
        refine ⟨_, rfl, ?_, by (repeat' (first | (with_reducible exact hB) | (with_reducible exact Below.refl _ _) | (with_reducible refine Below.alloc ?_ ?_ _) | (with_reducible refine Below.setCell ?_ ?_ _) | (with_reducible refine Below.drew ?_) | (with_reducible refine below_drewN ?_ _) | (with_reducible exact Nat.le_refl _) | (with_reducible exact hB.size) | (simp [go_sem]; done) | (have := hB.size; simp [go_sem]; omega)))⟩
        apply mem_drop 0
        · (repeat' (first | (with_reducible exact hM) | (with_reducible apply mem_alloc) | (with_reducible apply mem_set) | (with_reducible apply mem_drew) | (with_reducible apply mem_drewN)))
        · simp [HS.out, hC]
    case rest =>
      obtain ⟨b0, rfl, hM', hB'⟩ := hcut
      (try clear hC); clear hM hB; have hM := hM'; have hB := hB'; clear hM' hB'; have hC := mem_facts hM; simp at hC
      clear hc0
      go_wp2_with fail
      go_loopg [5] (zs.length - 1) (fun gk i wr => SoRel zs w b0 gk i wr)
      case atStart => exact ⟨1, sh x0, by omega, Nat.le_refl _, rfl, sh_in hx0, xd_sh x0, HL.out, hM, hB⟩
      case round =>
        obtain ⟨k, ⟨a, b, c, d⟩, hkg, hk1, rfl, hin, hxd, hlm, hM', hB'⟩ := hrel
        have HI := Lib.hid hin
        have HX := Lib.hid hxd
        have HLM := Lib.hid hlm
        clear hin hxd hlm
        (try clear hC); clear hM hB; have hM := hM'; have hB := hB'; clear hM' hB'; have hC := mem_facts hM; simp at hC
        by_cases hlt : k < zs.length
        · obtain ⟨g', o', e', h3⟩ := HC.out k hlt
          injection e' with e'
          injection e' with e1 e2
          subst e1 e2
          have hx : -1000 ≤ zs.getD k 0 ∧ zs.getD k 0 ≤ 1000 := by
            have : zs.getD k 0 = zs[k]'hlt := by simp [List.getD, hlt]
            rw [this]; exact HA.out _ (List.getElem_mem _)
          have HD := Lib.hid (show zs.drop k = zs.getD k 0 :: zs.drop (k + 1) from by
            rw [List.drop_eq_getElem_cons hlt]; simp [List.getD, hlt])
          generalize zs.getD k 0 = x at *
          have hcx : wr.cell? ⟨g, o + k, none⟩ = some (.int .i64 x) := (hB.cell (p := ⟨g, o + k, none⟩) hg).trans h3
          have HS := Lib.hid (show lsh ⟨(ltu ⟨a, b, c, d⟩).a, (ltu ⟨a, b, c, d⟩).b, (ltu ⟨a, b, c, d⟩).c, (ltu ⟨a, b, c, d⟩).d⟩ x = stp ⟨a, b, c, d⟩ x from lsh_step HI.out hx)
          have HQ := Lib.hid (xd_stp ⟨a, b, c, d⟩ x)
          have hk0 : (0 : Int) ≤ (k : Int) := by omega
          have hkl : (k : Int) < (zs.length : Int) := by omega
          go_upto_region 7 with fail
          go_cut [] (fun wx => Mem wx [(b0, #[.int .i64 (stp ⟨a, b, c, d⟩ x).a, .int .i64 (stp ⟨a, b, c, d⟩ x).b, .int .i64 (stp ⟨a, b, c, d⟩ x).c, .int .i64 (stp ⟨a, b, c, d⟩ x).d], 26), (w.heap.size, #[.int .i64 0, .int .i64 0, .int .i64 0, .int .i64 0], 26)] ∧ Below w.heap.size w wx)
          case first =>
            go_region_with (first | ((go_at_call 29; refine (l3turn_ _ _ _ _ _).mono ?_; rintro e w' ⟨rfl, hb⟩; apply after_call (w := w) hb; (focus ((repeat' (first | (with_reducible exact hM) | (with_reducible apply mem_alloc) | (with_reducible apply mem_set) | (with_reducible apply mem_drew) | (with_reducible apply mem_drewN))); done)); (focus ((repeat' (first | (with_reducible exact hB) | (with_reducible exact Below.refl _ _) | (with_reducible refine Below.alloc ?_ ?_ _) | (with_reducible refine Below.setCell ?_ ?_ _) | (with_reducible refine Below.drew ?_) | (with_reducible refine below_drewN ?_ _) | (with_reducible exact Nat.le_refl _) | (with_reducible exact hB.size) | (simp [go_sem]; done) | (have := hB.size; simp [go_sem]; omega))); done)); (focus ((repeat' (first | (with_reducible exact hB) | (with_reducible exact Below.refl _ _) | (with_reducible refine Below.alloc ?_ ?_ _) | (with_reducible refine Below.setCell ?_ ?_ _) | (with_reducible refine Below.drew ?_) | (with_reducible refine below_drewN ?_ _) | (with_reducible exact Nat.le_refl _) | (with_reducible exact hB.size) | (simp [go_sem]; done) | (have := hB.size; simp [go_sem]; omega))); done)); clear hM hB hb; intro hM hB; (try clear hC); have hC := mem_facts hM; simp at hC); have hcw := (hB.cell (p := ⟨g, o + k, none⟩) hg).trans h3) | (go_at_call 27; refine (l3Shift_ _ _ _ _ _ _).mono ?_; rintro e w' ⟨rfl, hb⟩; apply after_call (w := w) hb; (focus ((repeat' (first | (with_reducible exact hM) | (with_reducible apply mem_alloc) | (with_reducible apply mem_set) | (with_reducible apply mem_drew) | (with_reducible apply mem_drewN))); done)); (focus ((repeat' (first | (with_reducible exact hB) | (with_reducible exact Below.refl _ _) | (with_reducible refine Below.alloc ?_ ?_ _) | (with_reducible refine Below.setCell ?_ ?_ _) | (with_reducible refine Below.drew ?_) | (with_reducible refine below_drewN ?_ _) | (with_reducible exact Nat.le_refl _) | (with_reducible exact hB.size) | (simp [go_sem]; done) | (have := hB.size; simp [go_sem]; omega))); done)); (focus ((repeat' (first | (with_reducible exact hB) | (with_reducible exact Below.refl _ _) | (with_reducible refine Below.alloc ?_ ?_ _) | (with_reducible refine Below.setCell ?_ ?_ _) | (with_reducible refine Below.drew ?_) | (with_reducible refine below_drewN ?_ _) | (with_reducible exact Nat.le_refl _) | (with_reducible exact hB.size) | (simp [go_sem]; done) | (have := hB.size; simp [go_sem]; omega))); done)); clear hM hB hb; intro hM hB; (try clear hC); have hC := mem_facts hM; simp at hC))
            all_goals
              go_wp2_with fail
              go_meet
              refine ⟨?_, by (repeat' (first | (with_reducible exact hB) | (with_reducible exact Below.refl _ _) | (with_reducible refine Below.alloc ?_ ?_ _) | (with_reducible refine Below.setCell ?_ ?_ _) | (with_reducible refine Below.drew ?_) | (with_reducible refine below_drewN ?_ _) | (with_reducible exact Nat.le_refl _) | (with_reducible exact hB.size) | (simp [go_sem]; done) | (have := hB.size; simp [go_sem]; omega)))⟩
              apply mem_drop 0
              · (repeat' (first | (with_reducible exact hM) | (with_reducible apply mem_alloc) | (with_reducible apply mem_set) | (with_reducible apply mem_drew) | (with_reducible apply mem_drewN)))
              · simp [HS.out, hC]
          case rest =>
            obtain ⟨hM', hB'⟩ := hcut
            have HF := Lib.hid (fun h => matF_yes (m := ⟨a, b, c, d⟩) (x := x) (l := zs.drop (k + 1)) h)
            have HN := Lib.hid (fun h => matF_no (m := ⟨a, b, c, d⟩) (x := x) (l := zs.drop (k + 1)) h)
            clear HI HS
            generalize stp ⟨a, b, c, d⟩ x = m at *
            obtain ⟨a1, b1, c1, d1⟩ := m
            (try clear hC); clear hM hB; have hM := hM'; have hB := hB'; clear hM' hB'; have hC := mem_facts hM; simp at hC
            cases hi : inB ⟨a1, b1, c1, d1⟩
            · have hr : lmat zs = (⟨a1, b1, c1, d1⟩, false) := by rw [HLM.out, HD.out, HN.out hi]
              have HR := Lib.hid hr
              clear hr
              go_wp2_with (first | (go_at_call 30; refine (sMatIn_ _ _ _ _ _).mono ?_; rintro e w' ⟨rfl, hb⟩; apply after_call (w := w) hb; (focus ((repeat' (first | (with_reducible exact hM) | (with_reducible apply mem_alloc) | (with_reducible apply mem_set) | (with_reducible apply mem_drew) | (with_reducible apply mem_drewN))); done)); (focus ((repeat' (first | (with_reducible exact hB) | (with_reducible exact Below.refl _ _) | (with_reducible refine Below.alloc ?_ ?_ _) | (with_reducible refine Below.setCell ?_ ?_ _) | (with_reducible refine Below.drew ?_) | (with_reducible refine below_drewN ?_ _) | (with_reducible exact Nat.le_refl _) | (with_reducible exact hB.size) | (simp [go_sem]; done) | (have := hB.size; simp [go_sem]; omega))); done)); (focus ((repeat' (first | (with_reducible exact hB) | (with_reducible exact Below.refl _ _) | (with_reducible refine Below.alloc ?_ ?_ _) | (with_reducible refine Below.setCell ?_ ?_ _) | (with_reducible refine Below.drew ?_) | (with_reducible refine below_drewN ?_ _) | (with_reducible exact Nat.le_refl _) | (with_reducible exact hB.size) | (simp [go_sem]; done) | (have := hB.size; simp [go_sem]; omega))); done)); clear hM hB hb; intro hM hB; (try clear hC); have hC := mem_facts hM; simp at hC) | (go_at_call 26; refine (l1None_ _).mono ?_; rintro e w' ⟨rfl, hb⟩; apply after_call (w := w) hb; (focus ((repeat' (first | (with_reducible exact hM) | (with_reducible apply mem_alloc) | (with_reducible apply mem_set) | (with_reducible apply mem_drew) | (with_reducible apply mem_drewN))); done)); (focus ((repeat' (first | (with_reducible exact hB) | (with_reducible exact Below.refl _ _) | (with_reducible refine Below.alloc ?_ ?_ _) | (with_reducible refine Below.setCell ?_ ?_ _) | (with_reducible refine Below.drew ?_) | (with_reducible refine below_drewN ?_ _) | (with_reducible exact Nat.le_refl _) | (with_reducible exact hB.size) | (simp [go_sem]; done) | (have := hB.size; simp [go_sem]; omega))); done)); (focus ((repeat' (first | (with_reducible exact hB) | (with_reducible exact Below.refl _ _) | (with_reducible refine Below.alloc ?_ ?_ _) | (with_reducible refine Below.setCell ?_ ?_ _) | (with_reducible refine Below.drew ?_) | (with_reducible refine below_drewN ?_ _) | (with_reducible exact Nat.le_refl _) | (with_reducible exact hB.size) | (simp [go_sem]; done) | (have := hB.size; simp [go_sem]; omega))); done)); clear hM hB hb; intro hM hB; (try clear hC); have hC := mem_facts hM; simp at hC))
              refine bodyPost_ret (by (simp [results, Tryd.results9, go_sem, *]; try rfl)) rfl ?_
              exact ⟨by rw [HE.out, HR.out]; rfl, by (repeat' (first | (with_reducible exact hB) | (with_reducible exact Below.refl _ _) | (with_reducible refine Below.alloc ?_ ?_ _) | (with_reducible refine Below.setCell ?_ ?_ _) | (with_reducible refine Below.drew ?_) | (with_reducible refine below_drewN ?_ _) | (with_reducible exact Nat.le_refl _) | (with_reducible exact hB.size) | (simp [go_sem]; done) | (have := hB.size; simp [go_sem]; omega)))⟩
            · go_wp2_with (first | (go_at_call 30; refine (sMatIn_ _ _ _ _ _).mono ?_; rintro e w' ⟨rfl, hb⟩; apply after_call (w := w) hb; (focus ((repeat' (first | (with_reducible exact hM) | (with_reducible apply mem_alloc) | (with_reducible apply mem_set) | (with_reducible apply mem_drew) | (with_reducible apply mem_drewN))); done)); (focus ((repeat' (first | (with_reducible exact hB) | (with_reducible exact Below.refl _ _) | (with_reducible refine Below.alloc ?_ ?_ _) | (with_reducible refine Below.setCell ?_ ?_ _) | (with_reducible refine Below.drew ?_) | (with_reducible refine below_drewN ?_ _) | (with_reducible exact Nat.le_refl _) | (with_reducible exact hB.size) | (simp [go_sem]; done) | (have := hB.size; simp [go_sem]; omega))); done)); (focus ((repeat' (first | (with_reducible exact hB) | (with_reducible exact Below.refl _ _) | (with_reducible refine Below.alloc ?_ ?_ _) | (with_reducible refine Below.setCell ?_ ?_ _) | (with_reducible refine Below.drew ?_) | (with_reducible refine below_drewN ?_ _) | (with_reducible exact Nat.le_refl _) | (with_reducible exact hB.size) | (simp [go_sem]; done) | (have := hB.size; simp [go_sem]; omega))); done)); clear hM hB hb; intro hM hB; (try clear hC); have hC := mem_facts hM; simp at hC))
              go_roundg (gk - 1)
              case measure => omega
              case rel =>
                refine ⟨k + 1, ⟨a1, b1, c1, d1⟩, by omega, by omega, by go_num, hi, HQ.out.trans HX.out, ?_, ?_, by (repeat' (first | (with_reducible exact hB) | (with_reducible exact Below.refl _ _) | (with_reducible refine Below.alloc ?_ ?_ _) | (with_reducible refine Below.setCell ?_ ?_ _) | (with_reducible refine Below.drew ?_) | (with_reducible refine below_drewN ?_ _) | (with_reducible exact Nat.le_refl _) | (with_reducible exact hB.size) | (simp [go_sem]; done) | (have := hB.size; simp [go_sem]; omega)))⟩
                · rw [HLM.out, HD.out, HF.out hi]
                · apply mem_drop 0
                  · (repeat' (first | (with_reducible exact hM) | (with_reducible apply mem_alloc) | (with_reducible apply mem_set) | (with_reducible apply mem_drew) | (with_reducible apply mem_drewN)))
                  · simp
        · have hr : lmat zs = (⟨a, b, c, d⟩, true) := by rw [HLM.out, List.drop_of_length_le (by omega)]; rfl
          have HR := Lib.hid hr
          clear hr
          obtain rfl : k = zs.length := by omega
          go_wp2
          refine bodyPost_ret (by (simp [results, Tryd.results9, go_sem, *]; try rfl)) rfl ?_
          exact ⟨by rw [HE.out, HR.out]; rfl, by (repeat' (first | (with_reducible exact hB) | (with_reducible exact Below.refl _ _) | (with_reducible refine Below.alloc ?_ ?_ _) | (with_reducible refine Below.setCell ?_ ?_ _) | (with_reducible refine Below.drew ?_) | (with_reducible refine below_drewN ?_ _) | (with_reducible exact Nat.le_refl _) | (with_reducible exact hB.size) | (simp [go_sem]; done) | (have := hB.size; simp [go_sem]; omega)))⟩

theorem sTurnTrace_ (v : Value) (zs : List Int) (hz : zs.length ≤ 1000000000) (w : World) (hv : RdO w v zs) : Calls Tryd.prog 18 #[v] w (fun E' W' => E' = .returned (.tuple #[.int .i64 (ttr zs).1, .bool (ttr zs).2]) ∧ Below w.heap.size w W') := by
  have hT := fun W hv => sTurnOf_ v zs hz W hv
  have HE := Lib.hid (show ttr zs = if (tof zs).2 then (tr (tof zs).1, true) else (0, false) from rfl)
  have HR := Lib.hid (show tr (tof zs).1 = wrap64 ((tof zs).1.a + (tof zs).1.d) from rfl)
  cases h : (tof zs).2
  all_goals
    rw [h] at hT
    rw [h] at HE
    clear h
    generalize (tof zs).1 = m at *
    have hM := mem_nil w; have hB := Below.refl w.heap.size w; have hC := True.intro
    go_enter Tryd.func18, Tryd.ntmps18
    go_wp2_with (first | (go_at_call 9; refine (hT _ (hv.below (by (repeat' (first | (with_reducible exact hB) | (with_reducible exact Below.refl _ _) | (with_reducible refine Below.alloc ?_ ?_ _) | (with_reducible refine Below.setCell ?_ ?_ _) | (with_reducible refine Below.drew ?_) | (with_reducible refine below_drewN ?_ _) | (with_reducible exact Nat.le_refl _) | (with_reducible exact hB.size) | (simp [go_sem]; done) | (have := hB.size; simp [go_sem]; omega)))))).mono ?_; rintro e w' ⟨rfl, hb⟩; apply after_call (w := w) hb; (focus ((repeat' (first | (with_reducible exact hM) | (with_reducible apply mem_alloc) | (with_reducible apply mem_set) | (with_reducible apply mem_drew) | (with_reducible apply mem_drewN))); done)); (focus ((repeat' (first | (with_reducible exact hB) | (with_reducible exact Below.refl _ _) | (with_reducible refine Below.alloc ?_ ?_ _) | (with_reducible refine Below.setCell ?_ ?_ _) | (with_reducible refine Below.drew ?_) | (with_reducible refine below_drewN ?_ _) | (with_reducible exact Nat.le_refl _) | (with_reducible exact hB.size) | (simp [go_sem]; done) | (have := hB.size; simp [go_sem]; omega))); done)); (focus ((repeat' (first | (with_reducible exact hB) | (with_reducible exact Below.refl _ _) | (with_reducible refine Below.alloc ?_ ?_ _) | (with_reducible refine Below.setCell ?_ ?_ _) | (with_reducible refine Below.drew ?_) | (with_reducible refine below_drewN ?_ _) | (with_reducible exact Nat.le_refl _) | (with_reducible exact hB.size) | (simp [go_sem]; done) | (have := hB.size; simp [go_sem]; omega))); done)); clear hM hB hb; intro hM hB; (try clear hC); have hC := mem_facts hM; simp at hC))
    go_ret2
    exact ⟨by rw [HE.out]; first | rfl | (rw [HR.out]; rfl), by (repeat' (first | (with_reducible exact hB) | (with_reducible exact Below.refl _ _) | (with_reducible refine Below.alloc ?_ ?_ _) | (with_reducible refine Below.setCell ?_ ?_ _) | (with_reducible refine Below.drew ?_) | (with_reducible refine below_drewN ?_ _) | (with_reducible exact Nat.le_refl _) | (with_reducible exact hB.size) | (simp [go_sem]; done) | (have := hB.size; simp [go_sem]; omega)))⟩
end Go.Proofs.YtbpaklcibkifnaaDoor

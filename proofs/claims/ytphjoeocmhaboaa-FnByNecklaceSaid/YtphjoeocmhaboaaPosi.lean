
/- The program's way from a matrix to one of positive numbers, walked; what stands in its rounds. Under what an even matrix with a trace from 3 to 2000 keeps. -/
import Derived.Test.YtphjoeocmhaboaaConj
import Derived.Test.YtphjoeocmhaboaaImplB
import Derived.Test.YtphjoeocmhaboaaImplBack
import Derived.Test.YtphjoeocmhaboaaHeld
import Derived.Deep.LoopGhost
import Derived.Deep.DeepCutAuto
namespace Go.Proofs.Ytphjoeocmhaboaa
open Go.RowKit

theorem i64wrap (x : Int) : IntKind.i64.wrap x = wrap64 x := by rw [IntKind.wrap_i64, wrap64]
theorem shift4_ (x : Int) (w : World) : Calls Try.prog 48 #[.int .i64 x] w (fun E' W' => E' = .returned (.agg #[.int .i64 1, .int .i64 x, .int .i64 0, .int .i64 1]) ∧ Below w.heap.size w W') := by
  have hM := mem_nil w; have hB := Below.refl w.heap.size w; have hC := True.intro
  go_enter Try.func48, Try.ntmps48
  go_wp2
  refine bodyPost_ret (by (simp [results, Try.results48, go_sem, *]; try rfl)) rfl ?_
  exact ⟨rfl, by (repeat' (first | (with_reducible exact hB) | (with_reducible exact Below.refl _ _) | (with_reducible refine Below.alloc ?_ ?_ _) | (with_reducible refine Below.setCell ?_ ?_ _) | (with_reducible refine Below.drew ?_) | (with_reducible refine below_drewN ?_ _) | (with_reducible exact Nat.le_refl _) | (with_reducible exact hB.size) | (simp [go_sem]; done) | (have := hB.size; simp [go_sem]; omega)))⟩
theorem turn4_ (w : World) : Calls Try.prog 47 #[] w (fun E' W' => E' = .returned (.agg #[.int .i64 0, .int .i64 (-1), .int .i64 1, .int .i64 0]) ∧ Below w.heap.size w W') := by
  have hM := mem_nil w; have hB := Below.refl w.heap.size w; have hC := True.intro
  go_enter Try.func47, Try.ntmps47
  go_wp2
  refine bodyPost_ret (by (simp [results, Try.results47, go_sem, *]; try rfl)) rfl ?_
  exact ⟨rfl, by (repeat' (first | (with_reducible exact hB) | (with_reducible exact Below.refl _ _) | (with_reducible refine Below.alloc ?_ ?_ _) | (with_reducible refine Below.setCell ?_ ?_ _) | (with_reducible refine Below.drew ?_) | (with_reducible refine below_drewN ?_ _) | (with_reducible exact Nat.le_refl _) | (with_reducible exact hB.size) | (simp [go_sem]; done) | (have := hB.size; simp [go_sem]; omega)))⟩
theorem q_bd2 {N D : Int} (hD : 1 ≤ D) (hN : -10000000 ≤ N ∧ N ≤ 10000000) : -10000001 ≤ N / D ∧ N / D ≤ 10000000 := by
  have h := fl_bd (N := N) (D := D) (by omega)
  generalize N / D = q at *
  constructor
  · apply Int.not_lt.1; intro hq
    have := Int.mul_nonneg (show 0 ≤ D - 1 by omega) (show 0 ≤ -(q + 1) by omega)
    rw [Int.sub_mul, Int.mul_neg, Int.mul_add] at this
    omega
  · apply Int.not_lt.1; intro hq
    have := Int.mul_nonneg (show 0 ≤ D - 1 by omega) (show 0 ≤ q by omega)
    rw [Int.sub_mul] at this
    omega
theorem near4_ (a c : Int) (ha : -2000000 ≤ a ∧ a ≤ 2000000) (hc : -2000000 ≤ c ∧ c ≤ 2000000) (h0 : c ≠ 0) (w : World) : Calls Try.prog 49 #[.int .i64 a, .int .i64 c] w (fun E' W' => E' = .returned (.int .i64 (near a c)) ∧ w = W') := by
  by_cases hn : c < 0
  · have e := floor_td (n := -(2 * a) - c) (d := -(2 * c)) (by omega)
    have hq : near a c = (-(2 * a) - c) / (-(2 * c)) := by rw [near, if_pos hn]
    have hb := q_bd2 (N := -(2 * a) - c) (D := -(2 * c)) (by omega) (by omega)
    have hw := wrap_mid (x := (-(2 * a) - c) / (-(2 * c))) (by omega)
    rw [hq]
    clear hq
    generalize hN : -(2 * a) - c = N at *
    generalize hD : -(2 * c) = D at *
    have e1 : 2 * -a + -c = N := by omega
    have e2 : 2 * -c = D := by omega
    have hD1 : (D = 0) = False := by simp; omega
    by_cases ht : N.tmod D < 0
    · have e' := e.1 ht
      go_enter Try.func49, Try.ntmps49
      go_wp2
      go_ret
      exact ⟨rfl, rfl⟩
    · have e' := e.2 ht
      go_enter Try.func49, Try.ntmps49
      go_wp2
      go_ret
      exact ⟨rfl, rfl⟩
  · have e := floor_td (n := 2 * a + c) (d := 2 * c) (by omega)
    have hq : near a c = (2 * a + c) / (2 * c) := by rw [near, if_neg hn]
    have hb := q_bd2 (N := 2 * a + c) (D := 2 * c) (by omega) (by omega)
    have hw := wrap_mid (x := (2 * a + c) / (2 * c)) (by omega)
    rw [hq]
    clear hq
    generalize hN : 2 * a + c = N at *
    generalize hD : 2 * c = D at *
    have hD1 : (D = 0) = False := by simp; omega
    by_cases ht : N.tmod D < 0
    · have e' := e.1 ht
      go_enter Try.func49, Try.ntmps49
      go_wp2
      go_ret
      exact ⟨rfl, rfl⟩
    · have e' := e.2 ht
      go_enter Try.func49, Try.ntmps49
      go_wp2
      go_ret
      exact ⟨rfl, rfl⟩
/-- conjugated by x -/
def byM (m x : M) : M := tm (tm x m) (bki x)
theorem by_ (a b c d e f g h : Int) (w : World) : Calls Try.prog 46 #[.agg #[.int .i64 a, .int .i64 b, .int .i64 c, .int .i64 d], .agg #[.int .i64 e, .int .i64 f, .int .i64 g, .int .i64 h]] w (fun E' W' => E' = .returned (.agg #[.int .i64 ((byM ⟨a, b, c, d⟩ ⟨e, f, g, h⟩)).a, .int .i64 ((byM ⟨a, b, c, d⟩ ⟨e, f, g, h⟩)).b, .int .i64 ((byM ⟨a, b, c, d⟩ ⟨e, f, g, h⟩)).c, .int .i64 ((byM ⟨a, b, c, d⟩ ⟨e, f, g, h⟩)).d]) ∧ Below w.heap.size w W') := by
  have hM := mem_nil w; have hB := Below.refl w.heap.size w; have hC := True.intro
  go_enter Try.func46, Try.ntmps46
  go_wp2_with fail
  go_region_held3 (fun W' => (W'.cell? ⟨w.heap.size, 0, none⟩ = some (.int .i64 a) ∧ W'.cell? ⟨w.heap.size, 1, none⟩ = some (.int .i64 b) ∧ W'.cell? ⟨w.heap.size, 2, none⟩ = some (.int .i64 c) ∧ W'.cell? ⟨w.heap.size, 3, none⟩ = some (.int .i64 d)) ∧ W'.cell? ⟨w.heap.size + 1, 0, none⟩ = some (.int .i64 e) ∧ W'.cell? ⟨w.heap.size + 1, 1, none⟩ = some (.int .i64 f) ∧ W'.cell? ⟨w.heap.size + 1, 2, none⟩ = some (.int .i64 g) ∧ W'.cell? ⟨w.heap.size + 1, 3, none⟩ = some (.int .i64 h)) ((simp [*, go_sem]; done)) (first | (go_at_call 41; refine (times_ _ _ _ _ _ _ _ _ _).mono ?_; rintro e w' ⟨rfl, hb⟩; apply after_call (w := w) hb; (focus ((repeat' (first | (with_reducible exact hM) | (with_reducible apply mem_alloc) | (with_reducible apply mem_set) | (with_reducible apply mem_drew) | (with_reducible apply mem_drewN))); done)); (focus ((repeat' (first | (with_reducible exact hB) | (with_reducible exact Below.refl _ _) | (with_reducible refine Below.alloc ?_ ?_ _) | (with_reducible refine Below.setCell ?_ ?_ _) | (with_reducible refine Below.drew ?_) | (with_reducible refine below_drewN ?_ _) | (with_reducible exact Nat.le_refl _) | (with_reducible exact hB.size) | (simp [go_sem]; done) | (have := hB.size; simp [go_sem]; omega))); done)); (focus ((repeat' (first | (with_reducible exact hB) | (with_reducible exact Below.refl _ _) | (with_reducible refine Below.alloc ?_ ?_ _) | (with_reducible refine Below.setCell ?_ ?_ _) | (with_reducible refine Below.drew ?_) | (with_reducible refine below_drewN ?_ _) | (with_reducible exact Nat.le_refl _) | (with_reducible exact hB.size) | (simp [go_sem]; done) | (have := hB.size; simp [go_sem]; omega))); done)); clear hM hB hb; intro hM hB; (try clear hC); have hC := mem_facts hM; simp at hC) | (go_at_call 68; refine (back_ _ _ _ _ _).mono ?_; rintro e w' ⟨rfl, hb⟩; apply after_call (w := w) hb; (focus ((repeat' (first | (with_reducible exact hM) | (with_reducible apply mem_alloc) | (with_reducible apply mem_set) | (with_reducible apply mem_drew) | (with_reducible apply mem_drewN))); done)); (focus ((repeat' (first | (with_reducible exact hB) | (with_reducible exact Below.refl _ _) | (with_reducible refine Below.alloc ?_ ?_ _) | (with_reducible refine Below.setCell ?_ ?_ _) | (with_reducible refine Below.drew ?_) | (with_reducible refine below_drewN ?_ _) | (with_reducible exact Nat.le_refl _) | (with_reducible exact hB.size) | (simp [go_sem]; done) | (have := hB.size; simp [go_sem]; omega))); done)); (focus ((repeat' (first | (with_reducible exact hB) | (with_reducible exact Below.refl _ _) | (with_reducible refine Below.alloc ?_ ?_ _) | (with_reducible refine Below.setCell ?_ ?_ _) | (with_reducible refine Below.drew ?_) | (with_reducible refine below_drewN ?_ _) | (with_reducible exact Nat.le_refl _) | (with_reducible exact hB.size) | (simp [go_sem]; done) | (have := hB.size; simp [go_sem]; omega))); done)); clear hM hB hb; intro hM hB; (try clear hC); have hC := mem_facts hM; simp at hC))
  all_goals
    go_wp2_with fail
    refine bodyPost_ret (by (simp [results, Try.results46, go_sem, *]; try rfl)) rfl ?_
    exact ⟨rfl, by (repeat' (first | (with_reducible exact hB) | (with_reducible exact Below.refl _ _) | (with_reducible refine Below.alloc ?_ ?_ _) | (with_reducible refine Below.setCell ?_ ?_ _) | (with_reducible refine Below.drew ?_) | (with_reducible refine below_drewN ?_ _) | (with_reducible exact Nat.le_refl _) | (with_reducible exact hB.size) | (simp [go_sem]; done) | (have := hB.size; simp [go_sem]; omega)))⟩
theorem near_le {u c : Int} (hc : c ≠ 0) (hu : -2000000 ≤ u ∧ u ≤ 2000000) : -1000000 ≤ near u (2 * c) ∧ near u (2 * c) ≤ 1000000 := by
  have h := near_ok (u := u) hc
  generalize near u (2 * c) = k at *
  rcases Int.lt_or_gt_of_ne hc with h0 | h0
  · constructor
    · apply Int.not_lt.1; intro hq
      have := Int.mul_nonneg (show 0 ≤ -k - 1000001 by omega) (show 0 ≤ -c - 1 by omega)
      grind
    · apply Int.not_lt.1; intro hq
      have := Int.mul_nonneg (show 0 ≤ k - 1000001 by omega) (show 0 ≤ -c - 1 by omega)
      grind
  · constructor
    · apply Int.not_lt.1; intro hq
      have := Int.mul_nonneg (show 0 ≤ -k - 1000001 by omega) (show 0 ≤ c - 1 by omega)
      grind
    · apply Int.not_lt.1; intro hq
      have := Int.mul_nonneg (show 0 ≤ k - 1000001 by omega) (show 0 ≤ c - 1 by omega)
      grind
theorem bki4_x {m : M} (h1 : inB m = true) : bki m = ⟨wrap64 (xd m * m.d), wrap64 (xd m * -m.b), wrap64 (xd m * -m.c), wrap64 (xd m * m.a)⟩ := by
  obtain ⟨k1, k2, k3, k4⟩ := inB_iff.1 h1
  simp only [bki, neg64, dt_x h1, neg_wrap k2, neg_wrap k3]
theorem byM_T {m : M} (hm : inB m = true) : byM m ⟨0, -1, 1, 0⟩ = cT m := by
  have hb : bki ⟨0, -1, 1, 0⟩ = ⟨0, 1, -1, 0⟩ := by kernel_rfl
  have h1 : tm ⟨0, -1, 1, 0⟩ m = ⟨-m.c, -m.d, m.a, m.b⟩ := by
    rw [tm_x (by decide) hm]; unfold xm; apply M.ext' <;> dsimp only <;> omega
  have h2 : inB ⟨-m.c, -m.d, m.a, m.b⟩ = true := by rw [inB_iff] at *; dsimp only; omega
  rw [byM, hb, h1, tm_x h2 (by decide)]
  unfold xm cT; apply M.ext' <;> dsimp only <;> omega
theorem byM_S {m : M} (hm : inB m = true) {k : Int} (hk : -1000000 ≤ k ∧ k ≤ 1000000) (hr : inB (cS m k) = true) : byM m ⟨1, k, 0, 1⟩ = cS m k := by
  have hs : inB ⟨1, k, 0, 1⟩ = true := inB_iff.2 ⟨by simp, hk, by simp, by simp⟩
  have hb : bki ⟨1, k, 0, 1⟩ = ⟨1, -k, 0, 1⟩ := by
    rw [bki4_x hs]
    simp only [xd, Int.mul_one, Int.mul_zero, Int.sub_zero, Int.one_mul, Int.neg_zero]
    rw [wrap_mid (x := 1) (by omega), wrap_mid (x := -k) (by omega), wrap_mid (x := 0) (by omega)]
  obtain ⟨a, b, c, d⟩ := m
  obtain ⟨h1, h2, h3, h4⟩ := inB_iff.1 hm
  obtain ⟨r1, r2, r3, r4⟩ := inB_iff.1 hr
  simp only [cS] at r1 r2 r3 r4
  dsimp only at h1 h2 h3 h4
  have p1 := mul6 hk h3
  have p2 := mul6 hk h4
  have p3 := mul6 r1 (y := -k) (by omega)
  rw [Int.mul_neg] at p3
  rw [Int.mul_comm] at p3
  have e1 : tm ⟨1, k, 0, 1⟩ ⟨a, b, c, d⟩ = ⟨a + k * c, b + k * d, c, d⟩ := by
    rw [tm_x hs hm]; unfold xm; apply M.ext' <;> dsimp only <;> omega
  rw [byM, hb, e1]
  unfold tm cS
  dsimp only
  simp only [Int.mul_one, Int.mul_zero, Int.mul_neg]
  have q1 := mul6 h3 hk
  apply M.ext' <;> dsimp only
  · rw [wrap_mid (x := a + k * c) (by omega), wrap_mid (x := 0) (by omega), wrap_mid (by omega)]; omega
  · rw [Int.mul_comm (a + k * c) k, wrap_mid (x := -(k * (a + k * c))) (by omega), wrap_mid (x := b + k * d) (by omega), wrap_mid (by omega)]; omega
  · rw [wrap_mid (x := c) (by omega), wrap_mid (x := 0) (by omega), wrap_mid (by omega)]; omega
  · rw [Int.mul_comm c k, wrap_mid (x := -(k * c)) (by omega), wrap_mid (x := d) (by omega), wrap_mid (by omega)]; omega
/-- at the head of a round: g more at most -/
def PoRel (m0 : M) (N : Nat) (w : World) (g : Nat) (wr : World) : Prop := ∃ m : M, goodM m ∧ muP m ≤ g ∧ posF N m0 = posF g m ∧
  Mem wr [(w.heap.size + 1, #[.int .i64 0, .int .i64 0, .int .i64 0, .int .i64 0], 24), (w.heap.size, #[.int .i64 m.a, .int .i64 m.b, .int .i64 m.c, .int .i64 m.d], 24)] ∧ Below w.heap.size w wr
set_option maxHeartbeats 8000000 in
theorem positive_ (a b c d : Int) (hg : goodM ⟨a, b, c, d⟩) (w : World) : Calls Try.prog 22 #[.agg #[.int .i64 a, .int .i64 b, .int .i64 c, .int .i64 d]] w (fun E' W' => E' = .returned (.agg #[.int .i64 ((posP ⟨a, b, c, d⟩)).a, .int .i64 ((posP ⟨a, b, c, d⟩)).b, .int .i64 ((posP ⟨a, b, c, d⟩)).c, .int .i64 ((posP ⟨a, b, c, d⟩)).d]) ∧ Below w.heap.size w W') := by
  have hM := mem_nil w; have hB := Below.refl w.heap.size w; have hC := True.intro
  go_enter Try.func22, Try.ntmps22
  go_wp2
  go_loopg [] (muP ⟨a, b, c, d⟩) (fun gk wr => PoRel ⟨a, b, c, d⟩ (muP ⟨a, b, c, d⟩) w gk wr)
  case atStart =>
    refine ⟨⟨a, b, c, d⟩, hg, Nat.le_refl _, rfl, ?_, by (repeat' (first | (with_reducible exact hB) | (with_reducible exact Below.refl _ _) | (with_reducible refine Below.alloc ?_ ?_ _) | (with_reducible refine Below.setCell ?_ ?_ _) | (with_reducible refine Below.drew ?_) | (with_reducible refine below_drewN ?_ _) | (with_reducible exact Nat.le_refl _) | (with_reducible exact hB.size) | (simp [go_sem]; done) | (have := hB.size; simp [go_sem]; omega)))⟩
    apply mem_drop 0
    · (repeat' (first | (with_reducible exact hM) | (with_reducible apply mem_alloc) | (with_reducible apply mem_set) | (with_reducible apply mem_drew) | (with_reducible apply mem_drewN)))
    · simp
  case round =>
    obtain ⟨⟨p, q, r, t⟩, hgm, hmu, hpo, hM', hB'⟩ := hrel
    (try clear hC); clear hM hB; have hM := hM'; have hB := hB'; clear hM' hB'; have hC := mem_facts hM; simp at hC
    have HG := Lib.hid hgm
    have HMU := Lib.hid hmu
    have HPO := Lib.hid hpo
    by_cases hp : 1 ≤ q ∧ 1 ≤ r
    · have HF := Lib.hid (posF_pos (m := ⟨p, q, r, t⟩) hp gk)
      have h1 : decide (q < 1) = false := by simp; omega
      have h2 : decide (r < 1) = false := by simp; omega
      have h3 : ¬ q < 1 := by omega
      have h4 : ¬ r < 1 := by omega
      clear hg hgm hmu hpo hp
      go_wp2
      refine bodyPost_ret (by (simp [results, Try.results22, go_sem, *]; try rfl)) rfl ?_
      exact ⟨by rw [posP, HPO.out, HF.out], by (repeat' (first | (with_reducible exact hB) | (with_reducible exact Below.refl _ _) | (with_reducible refine Below.alloc ?_ ?_ _) | (with_reducible refine Below.setCell ?_ ?_ _) | (with_reducible refine Below.drew ?_) | (with_reducible refine below_drewN ?_ _) | (with_reducible exact Nat.le_refl _) | (with_reducible exact hB.size) | (simp [go_sem]; done) | (have := hB.size; simp [go_sem]; omega)))⟩
    · have hst := stepP_mu hgm hp
      have HF := Lib.hid (posF_step (m := ⟨p, q, r, t⟩) hp (n := gk) (by omega))
      have HSG := Lib.hid (stepP_good hgm)
      have HMS := Lib.hid hst
      have hTg := cT_good hgm
      have HS1 := Lib.hid (byM_T hgm.1)
      have HST := Lib.hid (show stepP ⟨p, q, r, t⟩ = cS (cT ⟨p, q, r, t⟩) (near ((cT ⟨p, q, r, t⟩).d - (cT ⟨p, q, r, t⟩).a) (2 * (cT ⟨p, q, r, t⟩).c)) from rfl)
      clear hg hgm hmu hpo hst
      have HSI := HSG.out.1.1
      by_cases hq : q < 1
      all_goals
        have hr : q < 1 ∨ r < 1 := by omega
        clear hp
        try have hr2 : r < 1 := by omega
        clear hr
        go_wp2_with fail
        go_cut [] (fun wx => Mem wx [(w.heap.size + 1, #[.int .i64 0, .int .i64 0, .int .i64 0, .int .i64 0], 24), (w.heap.size, #[.int .i64 (cT ⟨p, q, r, t⟩).a, .int .i64 (cT ⟨p, q, r, t⟩).b, .int .i64 (cT ⟨p, q, r, t⟩).c, .int .i64 (cT ⟨p, q, r, t⟩).d], 24)] ∧ Below w.heap.size w wx)
        case first =>
          go_region_with (first | (go_at_call 47; refine (turn4_ _).mono ?_; rintro e w' ⟨rfl, hb⟩; apply after_call (w := w) hb; (focus ((repeat' (first | (with_reducible exact hM) | (with_reducible apply mem_alloc) | (with_reducible apply mem_set) | (with_reducible apply mem_drew) | (with_reducible apply mem_drewN))); done)); (focus ((repeat' (first | (with_reducible exact hB) | (with_reducible exact Below.refl _ _) | (with_reducible refine Below.alloc ?_ ?_ _) | (with_reducible refine Below.setCell ?_ ?_ _) | (with_reducible refine Below.drew ?_) | (with_reducible refine below_drewN ?_ _) | (with_reducible exact Nat.le_refl _) | (with_reducible exact hB.size) | (simp [go_sem]; done) | (have := hB.size; simp [go_sem]; omega))); done)); (focus ((repeat' (first | (with_reducible exact hB) | (with_reducible exact Below.refl _ _) | (with_reducible refine Below.alloc ?_ ?_ _) | (with_reducible refine Below.setCell ?_ ?_ _) | (with_reducible refine Below.drew ?_) | (with_reducible refine below_drewN ?_ _) | (with_reducible exact Nat.le_refl _) | (with_reducible exact hB.size) | (simp [go_sem]; done) | (have := hB.size; simp [go_sem]; omega))); done)); clear hM hB hb; intro hM hB; (try clear hC); have hC := mem_facts hM; simp at hC) | (go_at_call 46; refine (by_ _ _ _ _ _ _ _ _ _).mono ?_; rintro e w' ⟨rfl, hb⟩; apply after_call (w := w) hb; (focus ((repeat' (first | (with_reducible exact hM) | (with_reducible apply mem_alloc) | (with_reducible apply mem_set) | (with_reducible apply mem_drew) | (with_reducible apply mem_drewN))); done)); (focus ((repeat' (first | (with_reducible exact hB) | (with_reducible exact Below.refl _ _) | (with_reducible refine Below.alloc ?_ ?_ _) | (with_reducible refine Below.setCell ?_ ?_ _) | (with_reducible refine Below.drew ?_) | (with_reducible refine below_drewN ?_ _) | (with_reducible exact Nat.le_refl _) | (with_reducible exact hB.size) | (simp [go_sem]; done) | (have := hB.size; simp [go_sem]; omega))); done)); (focus ((repeat' (first | (with_reducible exact hB) | (with_reducible exact Below.refl _ _) | (with_reducible refine Below.alloc ?_ ?_ _) | (with_reducible refine Below.setCell ?_ ?_ _) | (with_reducible refine Below.drew ?_) | (with_reducible refine below_drewN ?_ _) | (with_reducible exact Nat.le_refl _) | (with_reducible exact hB.size) | (simp [go_sem]; done) | (have := hB.size; simp [go_sem]; omega))); done)); clear hM hB hb; intro hM hB; (try clear hC); have hC := mem_facts hM; simp at hC))
          all_goals
            go_wp2_with fail
            go_meet
            refine ⟨?_, by (repeat' (first | (with_reducible exact hB) | (with_reducible exact Below.refl _ _) | (with_reducible refine Below.alloc ?_ ?_ _) | (with_reducible refine Below.setCell ?_ ?_ _) | (with_reducible refine Below.drew ?_) | (with_reducible refine below_drewN ?_ _) | (with_reducible exact Nat.le_refl _) | (with_reducible exact hB.size) | (simp [go_sem]; done) | (have := hB.size; simp [go_sem]; omega)))⟩
            apply mem_drop 0
            · (repeat' (first | (with_reducible exact hM) | (with_reducible apply mem_alloc) | (with_reducible apply mem_set) | (with_reducible apply mem_drew) | (with_reducible apply mem_drewN)))
            · simp [HS1.out]
        case rest =>
          obtain ⟨hM', hB'⟩ := hcut
          rw [HST.out] at HF HSG HMS HSI
          generalize cT ⟨p, q, r, t⟩ = m1 at *
          obtain ⟨x, y, z, v⟩ := m1
          clear HST HS1
          have hz := (good_nz hTg).2
          obtain ⟨i1, i2, i3, i4⟩ := inB_iff.1 hTg.1
          dsimp only at hz i1 i2 i3 i4 HF HSG HMS HSI
          have hw1 : wrap64 (v - x) = v - x := wrap_mid (by omega)
          have hw2 : wrap64 (2 * z) = 2 * z := wrap_mid (by omega)
          have hnr : ∀ W : World, Calls Try.prog 49 #[.int .i64 (IntKind.i64.wrap (v - x)), .int .i64 (IntKind.i64.wrap (2 * z))] W (fun E' W' => E' = .returned (.int .i64 (near (v - x) (2 * z))) ∧ W = W') := by
            intro W
            rw [i64wrap, i64wrap, hw1, hw2]
            exact near4_ (v - x) (2 * z) (by omega) (by omega) (by omega) W
          have HS2 := Lib.hid (byM_S hTg.1 (near_le (u := v - x) hz (by omega)) HSI)
          (try clear hC); clear hM hB; have hM := hM'; have hB := hB'; clear hM' hB'; have hC := mem_facts hM; simp at hC
          clear hTg i1 i2 i3 i4 HSI hw1 hw2
          generalize near (v - x) (2 * z) = k at *
          go_wp2_with fail
          refine wp_region_T (fun W' => W'.cell? ⟨w.heap.size, 0, none⟩ = some (.int .i64 x) ∧ W'.cell? ⟨w.heap.size, 1, none⟩ = some (.int .i64 y) ∧ W'.cell? ⟨w.heap.size, 2, none⟩ = some (.int .i64 z) ∧ W'.cell? ⟨w.heap.size, 3, none⟩ = some (.int .i64 v)) 12 (by kernel_rfl) ?_
          have hS : wc.drew.cell? ⟨w.heap.size, 0, none⟩ = some (.int .i64 x) ∧ wc.drew.cell? ⟨w.heap.size, 1, none⟩ = some (.int .i64 y) ∧ wc.drew.cell? ⟨w.heap.size, 2, none⟩ = some (.int .i64 z) ∧ wc.drew.cell? ⟨w.heap.size, 3, none⟩ = some (.int .i64 v) := by simp [*, go_sem]
          (refine wpT_take (i := 0) (oi := ?_) (v := ?_) hS ?_ ?_ ?_ ?_ ?_ ?_; rotate_left 2; (focus (simp only [List.getElem?_toArray, List.getElem?_cons_zero]; exact rfl)); (focus (kernel_rfl)); (focus (rfl)); (focus (intro w' hW; (try dsimp only at hW); go_simp; (try with_reducible rfl); done)); (focus (exact fun _ _ _ h => h)); (try simp only [Act.put, List.setIfInBounds_toArray, List.set_cons_zero, List.set_cons_succ])); (refine wpT_take (i := 1) (oi := ?_) (v := ?_) hS ?_ ?_ ?_ ?_ ?_ ?_; rotate_left 2; (focus (simp only [List.getElem?_toArray, List.getElem?_cons_zero, List.getElem?_cons_succ]; exact rfl)); (focus (kernel_rfl)); (focus (rfl)); (focus (intro w' hW; (try dsimp only at hW); go_simp; (try with_reducible rfl); done)); (focus (exact fun _ _ _ h => h)); (try simp only [Act.put, List.setIfInBounds_toArray, List.set_cons_zero, List.set_cons_succ])); (refine wpT_take (i := 2) (oi := ?_) (v := ?_) hS ?_ ?_ ?_ ?_ ?_ ?_; rotate_left 2; (focus (simp only [List.getElem?_toArray, List.getElem?_cons_zero, List.getElem?_cons_succ]; exact rfl)); (focus (kernel_rfl)); (focus (rfl)); (focus (intro w' hW; (try dsimp only at hW); go_simp; (try with_reducible rfl); done)); (focus (exact fun _ _ _ h => h)); (try simp only [Act.put, List.setIfInBounds_toArray, List.set_cons_zero, List.set_cons_succ])); (refine wpT_take (i := 3) (oi := ?_) (v := ?_) hS ?_ ?_ ?_ ?_ ?_ ?_; rotate_left 2; (focus (simp only [List.getElem?_toArray, List.getElem?_cons_zero, List.getElem?_cons_succ]; exact rfl)); (focus (kernel_rfl)); (focus (rfl)); (focus (intro w' hW; (try dsimp only at hW); go_simp; (try with_reducible rfl); done)); (focus (exact fun _ _ _ h => h)); (try simp only [Act.put, List.setIfInBounds_toArray, List.set_cons_zero, List.set_cons_succ])); (refine wpT_take (i := 4) (oi := ?_) (v := ?_) hS ?_ ?_ ?_ ?_ ?_ ?_; rotate_left 2; (focus (simp only [List.getElem?_toArray, List.getElem?_cons_zero, List.getElem?_cons_succ]; exact rfl)); (focus (kernel_rfl)); (focus (rfl)); (focus (intro w' hW; (try dsimp only at hW); go_simp; (try with_reducible rfl); done)); (focus (exact fun _ _ _ h => h)); (try simp only [Act.put, List.setIfInBounds_toArray, List.set_cons_zero, List.set_cons_succ])); (refine wpT_take (i := 5) (oi := ?_) (v := ?_) hS ?_ ?_ ?_ ?_ ?_ ?_; rotate_left 2; (focus (simp only [List.getElem?_toArray, List.getElem?_cons_zero, List.getElem?_cons_succ]; exact rfl)); (focus (kernel_rfl)); (focus (rfl)); (focus (intro w' hW; (try dsimp only at hW); go_simp; (try with_reducible rfl); done)); (focus (exact fun _ _ _ h => h)); (try simp only [Act.put, List.setIfInBounds_toArray, List.set_cons_zero, List.set_cons_succ])); (refine wpT_take (i := 6) (oi := ?_) (v := ?_) hS ?_ ?_ ?_ ?_ ?_ ?_; rotate_left 2; (focus (simp only [List.getElem?_toArray, List.getElem?_cons_zero, List.getElem?_cons_succ]; exact rfl)); (focus (kernel_rfl)); (focus (rfl)); (focus (intro w' hW; (try dsimp only at hW); go_simp; (try with_reducible rfl); done)); (focus (exact fun _ _ _ h => h)); (try simp only [Act.put, List.setIfInBounds_toArray, List.set_cons_zero, List.set_cons_succ])); (refine wpT_take (i := 7) (oi := ?_) (v := ?_) hS ?_ ?_ ?_ ?_ ?_ ?_; rotate_left 2; (focus (simp only [List.getElem?_toArray, List.getElem?_cons_zero, List.getElem?_cons_succ]; exact rfl)); (focus (kernel_rfl)); (focus (rfl)); (focus (intro w' hW; (try dsimp only at hW); go_simp; (try with_reducible rfl); done)); (focus (exact fun _ _ _ h => h)); (try simp only [Act.put, List.setIfInBounds_toArray, List.set_cons_zero, List.set_cons_succ])); (refine wpT_take (i := 8) (oi := ?_) (v := ?_) hS ?_ ?_ ?_ ?_ ?_ ?_; rotate_left 2; (focus (simp only [List.getElem?_toArray, List.getElem?_cons_zero, List.getElem?_cons_succ]; exact rfl)); (focus (kernel_rfl)); (focus (rfl)); (focus (intro w' hW; (try dsimp only at hW); go_simp; (try with_reducible rfl); done)); (focus (exact fun _ _ _ h => h)); (try simp only [Act.put, List.setIfInBounds_toArray, List.set_cons_zero, List.set_cons_succ]))
          (refine wpT_one (i := 9) (oi := ?_) ?_ ?_ ?_ ?_; rotate_left 1; (focus (kernel_rfl)); (focus (simp only [List.getElem?_toArray, List.getElem?_cons_zero, List.getElem?_cons_succ]; exact rfl)); (focus (rfl)); go_simp)
          (go_at_call 49; refine (hnr _).mono ?_; rintro e w' ⟨rfl, rfl⟩)
          (first | (with_reducible refine wpT_hold ?_ ?_; (focus (simp [*, go_sem]; done)); clear hS; intro hS; (try dsimp only at hS)) | (refine held_intro ?_ ?_; (focus (simp [*, go_sem]; done)); clear hS; intro hS))
          (refine wpT_one (i := 10) (oi := ?_) ?_ ?_ ?_ ?_; rotate_left 1; (focus (kernel_rfl)); (focus (simp only [List.getElem?_toArray, List.getElem?_cons_zero, List.getElem?_cons_succ]; exact rfl)); (focus (rfl)); go_simp)
          (go_at_call 48; refine (shift4_ _ _).mono ?_; rintro e w' ⟨rfl, hb⟩; apply after_call (w := w) hb; (focus ((repeat' (first | (with_reducible exact hM) | (with_reducible apply mem_alloc) | (with_reducible apply mem_set) | (with_reducible apply mem_drew) | (with_reducible apply mem_drewN))); done)); (focus ((repeat' (first | (with_reducible exact hB) | (with_reducible exact Below.refl _ _) | (with_reducible refine Below.alloc ?_ ?_ _) | (with_reducible refine Below.setCell ?_ ?_ _) | (with_reducible refine Below.drew ?_) | (with_reducible refine below_drewN ?_ _) | (with_reducible exact Nat.le_refl _) | (with_reducible exact hB.size) | (simp [go_sem]; done) | (have := hB.size; simp [go_sem]; omega))); done)); (focus ((repeat' (first | (with_reducible exact hB) | (with_reducible exact Below.refl _ _) | (with_reducible refine Below.alloc ?_ ?_ _) | (with_reducible refine Below.setCell ?_ ?_ _) | (with_reducible refine Below.drew ?_) | (with_reducible refine below_drewN ?_ _) | (with_reducible exact Nat.le_refl _) | (with_reducible exact hB.size) | (simp [go_sem]; done) | (have := hB.size; simp [go_sem]; omega))); done)); clear hM hB hb; intro hM hB; (try clear hC); have hC := mem_facts hM; simp at hC)
          (first | (with_reducible refine wpT_hold ?_ ?_; (focus (simp [*, go_sem]; done)); clear hS; intro hS; (try dsimp only at hS)) | (refine held_intro ?_ ?_; (focus (simp [*, go_sem]; done)); clear hS; intro hS))
          (refine wpT_one (i := 11) (oi := ?_) ?_ ?_ ?_ ?_; rotate_left 1; (focus (kernel_rfl)); (focus (simp only [List.getElem?_toArray, List.getElem?_cons_zero, List.getElem?_cons_succ]; exact rfl)); (focus (rfl)); go_simp)
          (go_at_call 46; refine (by_ _ _ _ _ _ _ _ _ _).mono ?_; rintro e w' ⟨rfl, hb⟩; apply after_call (w := w) hb; (focus ((repeat' (first | (with_reducible exact hM) | (with_reducible apply mem_alloc) | (with_reducible apply mem_set) | (with_reducible apply mem_drew) | (with_reducible apply mem_drewN))); done)); (focus ((repeat' (first | (with_reducible exact hB) | (with_reducible exact Below.refl _ _) | (with_reducible refine Below.alloc ?_ ?_ _) | (with_reducible refine Below.setCell ?_ ?_ _) | (with_reducible refine Below.drew ?_) | (with_reducible refine below_drewN ?_ _) | (with_reducible exact Nat.le_refl _) | (with_reducible exact hB.size) | (simp [go_sem]; done) | (have := hB.size; simp [go_sem]; omega))); done)); (focus ((repeat' (first | (with_reducible exact hB) | (with_reducible exact Below.refl _ _) | (with_reducible refine Below.alloc ?_ ?_ _) | (with_reducible refine Below.setCell ?_ ?_ _) | (with_reducible refine Below.drew ?_) | (with_reducible refine below_drewN ?_ _) | (with_reducible exact Nat.le_refl _) | (with_reducible exact hB.size) | (simp [go_sem]; done) | (have := hB.size; simp [go_sem]; omega))); done)); clear hM hB hb; intro hM hB; (try clear hC); have hC := mem_facts hM; simp at hC)
          (first | (with_reducible refine wpT_hold ?_ ?_; (focus (simp [*, go_sem]; done)); clear hS; intro hS; (try dsimp only at hS)) | (refine held_intro ?_ ?_; (focus (simp [*, go_sem]; done)); clear hS; intro hS))
          (refine wpT_one (i := 12) (oi := ?_) ?_ ?_ ?_ ?_; rotate_left 1; (focus (kernel_rfl)); (focus (simp only [List.getElem?_toArray, List.getElem?_cons_zero, List.getElem?_cons_succ]; exact rfl)); (focus (rfl)); go_simp)
          refine wpT_done (by kernel_rfl) ?_ _
          go_wp2_with fail
          go_roundg (gk - 1)
          case measure => have := HMU.out; have := HMS.out; omega
          case rel =>
            refine ⟨cS ⟨x, y, z, v⟩ k, HSG.out.1, by have := HMU.out; have := HMS.out; omega, by rw [HPO.out, HF.out], ?_, by (repeat' (first | (with_reducible exact hB) | (with_reducible exact Below.refl _ _) | (with_reducible refine Below.alloc ?_ ?_ _) | (with_reducible refine Below.setCell ?_ ?_ _) | (with_reducible refine Below.drew ?_) | (with_reducible refine below_drewN ?_ _) | (with_reducible exact Nat.le_refl _) | (with_reducible exact hB.size) | (simp [go_sem]; done) | (have := hB.size; simp [go_sem]; omega)))⟩
            apply mem_drop 0
            · (repeat' (first | (with_reducible exact hM) | (with_reducible apply mem_alloc) | (with_reducible apply mem_set) | (with_reducible apply mem_drew) | (with_reducible apply mem_drewN)))
            · simp [HS2.out]
end Go.Proofs.Ytphjoeocmhaboaa

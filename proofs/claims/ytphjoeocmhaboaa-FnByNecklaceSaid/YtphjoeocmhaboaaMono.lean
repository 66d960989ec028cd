
/- The model's way from a matrix to one of positive numbers, walked. Under what an even matrix with a trace from 3 to 2000 keeps. -/
import Derived.Test.YtphjoeocmhaboaaConj
import Derived.Test.YtphjoeocmhaboaaSpecA
import Derived.Test.YtphjoeocmhaboaaHeld
import Derived.Deep.LoopGhost
import Derived.Deep.DeepCutAuto
namespace Go.Proofs.Ytphjoeocmhaboaa
open Go.RowKit

theorem q_bd3 {N D : Int} (hD : 1 ≤ D) (hN : -10000000 ≤ N ∧ N ≤ 10000000) : -10000001 ≤ N / D ∧ N / D ≤ 10000000 := by
  have h := fl_bd (N := N) (D := D) (by omega)
  generalize N / D = q at *
  constructor
  · apply Int.not_lt.1; intro hq
    have := Int.mul_nonneg (show 0 ≤ D - 1 by omega) (show 0 ≤ -(q + 1) by omega)
    rw [Int.sub_mul, Int.mul_neg, Int.mul_add] at this
    omega
  · apply Int.not_lt.1; intro hq
    have := Int.mul_nonneg (show 0 ≤ D - 1 by omega) (show 0 ≤ q by omega)
    rw [Int.sub_mul] at this
    omega
theorem i64wrap2 (x : Int) : IntKind.i64.wrap x = wrap64 x := by rw [IntKind.wrap_i64, wrap64]
theorem l3Near4_ (a c : Int) (ha : -2000000 ≤ a ∧ a ≤ 2000000) (hc : -2000000 ≤ c ∧ c ≤ 2000000) (h0 : c ≠ 0) (w : World) : Calls Try.prog 56 #[.int .i64 a, .int .i64 c] w (fun E' W' => E' = .returned (.int .i64 (near a c)) ∧ w = W') := by
  by_cases hn : c < 0
  · have e := floor_td (n := -(2 * a) - c) (d := -(2 * c)) (by omega)
    have hq : near a c = (-(2 * a) - c) / (-(2 * c)) := by rw [near, if_pos hn]
    have hb := q_bd3 (N := -(2 * a) - c) (D := -(2 * c)) (by omega) (by omega)
    have hw := wrap_mid (x := (-(2 * a) - c) / (-(2 * c))) (by omega)
    rw [hq]
    clear hq
    generalize hN : -(2 * a) - c = N at *
    generalize hD : -(2 * c) = D at *
    have e1 : 2 * -a + -c = N := by omega
    have e2 : 2 * -c = D := by omega
    have hD1 : (D = 0) = False := by simp; omega
    by_cases ht : N.tmod D < 0
    · have e' := e.1 ht
      go_enter Try.func56, Try.ntmps56
      go_wp2
      go_ret
      exact ⟨rfl, rfl⟩
    · have e' := e.2 ht
      go_enter Try.func56, Try.ntmps56
      go_wp2
      go_ret
      exact ⟨rfl, rfl⟩
  · have e := floor_td (n := 2 * a + c) (d := 2 * c) (by omega)
    have hq : near a c = (2 * a + c) / (2 * c) := by rw [near, if_neg hn]
    have hb := q_bd3 (N := 2 * a + c) (D := 2 * c) (by omega) (by omega)
    have hw := wrap_mid (x := (2 * a + c) / (2 * c)) (by omega)
    rw [hq]
    clear hq
    generalize hN : 2 * a + c = N at *
    generalize hD : 2 * c = D at *
    have hD1 : (D = 0) = False := by simp; omega
    by_cases ht : N.tmod D < 0
    · have e' := e.1 ht
      go_enter Try.func56, Try.ntmps56
      go_wp2
      go_ret
      exact ⟨rfl, rfl⟩
    · have e' := e.2 ht
      go_enter Try.func56, Try.ntmps56
      go_wp2
      go_ret
      exact ⟨rfl, rfl⟩
def ltM (m : M) : M := ⟨m.d, wrap64 (-m.c), wrap64 (-m.b), m.a⟩
theorem l4Turned_ (a b c d : Int) (w : World) : Calls Try.prog 54 #[.agg #[.int .i64 a, .int .i64 b, .int .i64 c, .int .i64 d]] w (fun E' W' => E' = .returned (.agg #[.int .i64 ((ltM ⟨a, b, c, d⟩)).a, .int .i64 ((ltM ⟨a, b, c, d⟩)).b, .int .i64 ((ltM ⟨a, b, c, d⟩)).c, .int .i64 ((ltM ⟨a, b, c, d⟩)).d]) ∧ Below w.heap.size w W') := by
  have hM := mem_nil w; have hB := Below.refl w.heap.size w; have hC := True.intro
  go_enter Try.func54, Try.ntmps54
  go_wp2
  refine bodyPost_ret (by (simp [results, Try.results54, go_sem, *]; try rfl)) rfl ?_
  exact ⟨rfl, by (repeat' (first | (with_reducible exact hB) | (with_reducible exact Below.refl _ _) | (with_reducible refine Below.alloc ?_ ?_ _) | (with_reducible refine Below.setCell ?_ ?_ _) | (with_reducible refine Below.drew ?_) | (with_reducible refine below_drewN ?_ _) | (with_reducible exact Nat.le_refl _) | (with_reducible exact hB.size) | (simp [go_sem]; done) | (have := hB.size; simp [go_sem]; omega)))⟩
theorem ltM_x {m : M} (hm : inB m = true) : ltM m = cT m := by
  obtain ⟨h1, h2, h3, h4⟩ := inB_iff.1 hm
  unfold ltM cT
  rw [neg_wrap h3, neg_wrap h2]
def lsM (m : M) (q : Int) : M := ⟨wrap64 (m.a - wrap64 (q * m.c)), wrap64 (wrap64 (wrap64 (m.a - wrap64 (q * m.c)) * q) + wrap64 (m.b - wrap64 (q * m.d))), m.c, wrap64 (wrap64 (m.c * q) + m.d)⟩
theorem l4Shifted_ (a b c d q : Int) (w : World) : Calls Try.prog 55 #[.agg #[.int .i64 a, .int .i64 b, .int .i64 c, .int .i64 d], .int .i64 q] w (fun E' W' => E' = .returned (.agg #[.int .i64 ((lsM ⟨a, b, c, d⟩ q)).a, .int .i64 ((lsM ⟨a, b, c, d⟩ q)).b, .int .i64 ((lsM ⟨a, b, c, d⟩ q)).c, .int .i64 ((lsM ⟨a, b, c, d⟩ q)).d]) ∧ Below w.heap.size w W') := by
  have hM := mem_nil w; have hB := Below.refl w.heap.size w; have hC := True.intro
  go_enter Try.func55, Try.ntmps55
  go_wp2
  refine bodyPost_ret (by (simp [results, Try.results55, go_sem, *]; try rfl)) rfl ?_
  exact ⟨rfl, by (repeat' (first | (with_reducible exact hB) | (with_reducible exact Below.refl _ _) | (with_reducible refine Below.alloc ?_ ?_ _) | (with_reducible refine Below.setCell ?_ ?_ _) | (with_reducible refine Below.drew ?_) | (with_reducible refine below_drewN ?_ _) | (with_reducible exact Nat.le_refl _) | (with_reducible exact hB.size) | (simp [go_sem]; done) | (have := hB.size; simp [go_sem]; omega)))⟩
theorem lsM_x {m : M} (hm : inB m = true) {k : Int} (hk : -1000000 ≤ k ∧ k ≤ 1000000) (hr : inB (cS m (-k)) = true) : lsM m k = cS m (-k) := by
  obtain ⟨a, b, c, d⟩ := m
  obtain ⟨h1, h2, h3, h4⟩ := inB_iff.1 hm
  obtain ⟨r1, r2, r3, r4⟩ := inB_iff.1 hr
  simp only [cS] at r1 r2 r3 r4
  dsimp only at h1 h2 h3 h4
  have p1 := mul6 hk h3
  have p2 := mul6 hk h4
  have p3 := mul6 r1 hk
  rw [Int.neg_mul] at *
  unfold lsM cS
  dsimp only
  rw [wrap_mid (x := k * c) (by omega), wrap_mid (x := k * d) (by omega), wrap_mid (x := a - k * c) (by omega), wrap_mid (x := b - k * d) (by omega),
    show a - k * c = a + -k * c from by rw [Int.neg_mul]; omega, wrap_mid (x := (a + -k * c) * k) (by rw [Int.neg_mul]; omega), Int.mul_comm c k, wrap_mid (x := k * c) (by omega)]
  have e1 : (a + -k * c) * k + (b - k * d) = b + -k * d - -k * (a + -k * c) := by grind
  rw [e1]
  apply M.ext' <;> dsimp only
  · exact wrap_mid (x := b + -k * d - -k * (a + -k * c)) (by simp only [Int.neg_mul] at *; omega)
  · rw [wrap_mid (x := k * c + d) (by omega), Int.neg_mul]; omega
theorem near_le4 {u c : Int} (hc : c ≠ 0) (hu : -2000000 ≤ u ∧ u ≤ 2000000) : -1000000 ≤ near u (2 * c) ∧ near u (2 * c) ≤ 1000000 := by
  have h := near_ok (u := u) hc
  generalize near u (2 * c) = k at *
  rcases Int.lt_or_gt_of_ne hc with h0 | h0
  · constructor
    · apply Int.not_lt.1; intro hq
      have := Int.mul_nonneg (show 0 ≤ -k - 1000001 by omega) (show 0 ≤ -c - 1 by omega)
      grind
    · apply Int.not_lt.1; intro hq
      have := Int.mul_nonneg (show 0 ≤ k - 1000001 by omega) (show 0 ≤ -c - 1 by omega)
      grind
  · constructor
    · apply Int.not_lt.1; intro hq
      have := Int.mul_nonneg (show 0 ≤ -k - 1000001 by omega) (show 0 ≤ c - 1 by omega)
      grind
    · apply Int.not_lt.1; intro hq
      have := Int.mul_nonneg (show 0 ≤ k - 1000001 by omega) (show 0 ≤ c - 1 by omega)
      grind
/-- at the head of a round: g more at most -/
def MoRel (m0 : M) (N : Nat) (w : World) (g : Nat) (wr : World) : Prop := ∃ m : M, goodM m ∧ muM m ≤ g ∧ monF N m0 = monF g m ∧
  Mem wr [(w.heap.size + 1, #[.int .i64 0, .int .i64 0, .int .i64 0, .int .i64 0], 24), (w.heap.size, #[.int .i64 m.a, .int .i64 m.b, .int .i64 m.c, .int .i64 m.d], 24)] ∧ Below w.heap.size w wr
set_option maxHeartbeats 8000000 in
theorem l4Monoid_ (a b c d : Int) (hg : goodM ⟨a, b, c, d⟩) (w : World) : Calls Try.prog 29 #[.agg #[.int .i64 a, .int .i64 b, .int .i64 c, .int .i64 d]] w (fun E' W' => E' = .returned (.agg #[.int .i64 ((monP ⟨a, b, c, d⟩)).a, .int .i64 ((monP ⟨a, b, c, d⟩)).b, .int .i64 ((monP ⟨a, b, c, d⟩)).c, .int .i64 ((monP ⟨a, b, c, d⟩)).d]) ∧ Below w.heap.size w W') := by
  have hM := mem_nil w; have hB := Below.refl w.heap.size w; have hC := True.intro
  go_enter Try.func29, Try.ntmps29
  go_wp2
  go_loopg [] (muM ⟨a, b, c, d⟩) (fun gk wr => MoRel ⟨a, b, c, d⟩ (muM ⟨a, b, c, d⟩) w gk wr)
  case atStart =>
    refine ⟨⟨a, b, c, d⟩, hg, Nat.le_refl _, rfl, ?_, by (repeat' (first | (with_reducible exact hB) | (with_reducible exact Below.refl _ _) | (with_reducible refine Below.alloc ?_ ?_ _) | (with_reducible refine Below.setCell ?_ ?_ _) | (with_reducible refine Below.drew ?_) | (with_reducible refine below_drewN ?_ _) | (with_reducible exact Nat.le_refl _) | (with_reducible exact hB.size) | (simp [go_sem]; done) | (have := hB.size; simp [go_sem]; omega)))⟩
    apply mem_drop 0
    · (repeat' (first | (with_reducible exact hM) | (with_reducible apply mem_alloc) | (with_reducible apply mem_set) | (with_reducible apply mem_drew) | (with_reducible apply mem_drewN)))
    · simp
  case round =>
    obtain ⟨⟨p, q, r, t⟩, hgm, hmu, hpo, hM', hB'⟩ := hrel
    (try clear hC); clear hM hB; have hM := hM'; have hB := hB'; clear hM' hB'; have hC := mem_facts hM; simp at hC
    have HG := Lib.hid hgm
    have HMU := Lib.hid hmu
    have HPO := Lib.hid hpo
    have hz := good_nz hgm
    dsimp only at hz
    by_cases hp : 1 ≤ q ∧ 1 ≤ r
    · have HF := Lib.hid (monF_pos (m := ⟨p, q, r, t⟩) hp gk)
      have h3 : ¬ q ≤ 0 := by omega
      have h4 : ¬ r ≤ 0 := by omega
      clear hg hgm hmu hpo hp hz
      go_wp2
      refine bodyPost_ret (by (simp [results, Try.results29, go_sem, *]; try rfl)) rfl ?_
      exact ⟨by rw [monP, HPO.out, HF.out], by (repeat' (first | (with_reducible exact hB) | (with_reducible exact Below.refl _ _) | (with_reducible refine Below.alloc ?_ ?_ _) | (with_reducible refine Below.setCell ?_ ?_ _) | (with_reducible refine Below.drew ?_) | (with_reducible refine below_drewN ?_ _) | (with_reducible exact Nat.le_refl _) | (with_reducible exact hB.size) | (simp [go_sem]; done) | (have := hB.size; simp [go_sem]; omega)))⟩
    · by_cases hn : q < 0 ∧ r < 0
      · have HF := Lib.hid (monF_neg (m := ⟨p, q, r, t⟩) hn gk)
        have HL := Lib.hid (ltM_x hgm.1)
        have h3 : q ≤ 0 := by omega
        have h5 : q < 0 := by omega
        have h6 : r < 0 := by omega
        clear hg hgm hmu hpo hp hz hn
        go_wp2_with (go_at_call 54; refine (l4Turned_ _ _ _ _ _).mono ?_; rintro e w' ⟨rfl, hb⟩; apply after_call (w := w) hb; (focus ((repeat' (first | (with_reducible exact hM) | (with_reducible apply mem_alloc) | (with_reducible apply mem_set) | (with_reducible apply mem_drew) | (with_reducible apply mem_drewN))); done)); (focus ((repeat' (first | (with_reducible exact hB) | (with_reducible exact Below.refl _ _) | (with_reducible refine Below.alloc ?_ ?_ _) | (with_reducible refine Below.setCell ?_ ?_ _) | (with_reducible refine Below.drew ?_) | (with_reducible refine below_drewN ?_ _) | (with_reducible exact Nat.le_refl _) | (with_reducible exact hB.size) | (simp [go_sem]; done) | (have := hB.size; simp [go_sem]; omega))); done)); (focus ((repeat' (first | (with_reducible exact hB) | (with_reducible exact Below.refl _ _) | (with_reducible refine Below.alloc ?_ ?_ _) | (with_reducible refine Below.setCell ?_ ?_ _) | (with_reducible refine Below.drew ?_) | (with_reducible refine below_drewN ?_ _) | (with_reducible exact Nat.le_refl _) | (with_reducible exact hB.size) | (simp [go_sem]; done) | (have := hB.size; simp [go_sem]; omega))); done)); clear hM hB hb; intro hM hB; (try clear hC); have hC := mem_facts hM; simp at hC)
        refine bodyPost_ret (by (simp [results, Try.results29, go_sem, *]; try rfl)) rfl ?_
        exact ⟨by rw [monP, HPO.out, HF.out, HL.out], by (repeat' (first | (with_reducible exact hB) | (with_reducible exact Below.refl _ _) | (with_reducible refine Below.alloc ?_ ?_ _) | (with_reducible refine Below.setCell ?_ ?_ _) | (with_reducible refine Below.drew ?_) | (with_reducible refine below_drewN ?_ _) | (with_reducible exact Nat.le_refl _) | (with_reducible exact hB.size) | (simp [go_sem]; done) | (have := hB.size; simp [go_sem]; omega)))⟩
      · have hst := stepM_mu hgm (by dsimp only; omega)
        have HF := Lib.hid (monF_step (m := ⟨p, q, r, t⟩) (by dsimp only; omega) (n := gk) (by omega))
        have HSG := Lib.hid (stepM_good hgm)
        have HMS := Lib.hid hst
        have hsm := (stM_bd hgm).1
        obtain ⟨i1, i2, i3, i4⟩ := inB_iff.1 hgm.1
        dsimp only at i1 i2 i3 i4
        have hw1 : wrap64 (p - t) = p - t := wrap_mid (by omega)
        have hw2 : wrap64 (2 * r) = 2 * r := wrap_mid (by omega)
        have hnr : ∀ W : World, Calls Try.prog 56 #[.int .i64 (IntKind.i64.wrap (p - t)), .int .i64 (IntKind.i64.wrap (2 * r))] W (fun E' W' => E' = .returned (.int .i64 (near (p - t) (2 * r))) ∧ W = W') := by
          intro W
          rw [i64wrap2, i64wrap2, hw1, hw2]
          exact l3Near4_ (p - t) (2 * r) (by omega) (by omega) (by omega) W
        have HS := Lib.hid (show lsM ⟨p, q, r, t⟩ (near (p - t) (2 * r)) = stM ⟨p, q, r, t⟩ from lsM_x hgm.1 (near_le4 (u := p - t) hz.2 (by omega)) hsm.1)
        have HT := Lib.hid (ltM_x hsm.1)
        have HST : Hid (stepM ⟨p, q, r, t⟩ = if (stM ⟨p, q, r, t⟩).b < 0 ∧ ¬ (stM ⟨p, q, r, t⟩).c < 0 ∨ ¬ (stM ⟨p, q, r, t⟩).b < 0 ∧ (stM ⟨p, q, r, t⟩).c < 0 then cT (stM ⟨p, q, r, t⟩) else stM ⟨p, q, r, t⟩) := Lib.hid rfl
        clear hg hgm hmu hpo hst hsm i1 i2 i3 i4 hw1 hw2
        by_cases hq : q < 0
        all_goals
          first
          | (have h3 : q ≤ 0 := by omega
             have h6 : ¬ r < 0 := by omega
             clear hp hn hz)
          | (have h3 : ¬ q ≤ 0 := by omega
             have h4 : r ≤ 0 := by omega
             clear hp hn hz)
          go_wp2_with fail
          go_cut [] (fun wx => Mem wx [(w.heap.size + 1, #[.int .i64 0, .int .i64 0, .int .i64 0, .int .i64 0], 24), (w.heap.size, #[.int .i64 (stM ⟨p, q, r, t⟩).a, .int .i64 (stM ⟨p, q, r, t⟩).b, .int .i64 (stM ⟨p, q, r, t⟩).c, .int .i64 (stM ⟨p, q, r, t⟩).d], 24)] ∧ Below w.heap.size w wx)
          case first =>
            generalize near (p - t) (2 * r) = k at *
            refine wp_region_T (fun W' => W'.cell? ⟨w.heap.size, 0, none⟩ = some (.int .i64 p) ∧ W'.cell? ⟨w.heap.size, 1, none⟩ = some (.int .i64 q) ∧ W'.cell? ⟨w.heap.size, 2, none⟩ = some (.int .i64 r) ∧ W'.cell? ⟨w.heap.size, 3, none⟩ = some (.int .i64 t)) 11 (by kernel_rfl) ?_
            have hS : wr.drew.cell? ⟨w.heap.size, 0, none⟩ = some (.int .i64 p) ∧ wr.drew.cell? ⟨w.heap.size, 1, none⟩ = some (.int .i64 q) ∧ wr.drew.cell? ⟨w.heap.size, 2, none⟩ = some (.int .i64 r) ∧ wr.drew.cell? ⟨w.heap.size, 3, none⟩ = some (.int .i64 t) := by simp [*, go_sem]
            (refine wpT_take (i := 0) (oi := ?_) (v := ?_) hS ?_ ?_ ?_ ?_ ?_ ?_; rotate_left 2; (focus (simp only [List.getElem?_toArray, List.getElem?_cons_zero]; exact rfl)); (focus (kernel_rfl)); (focus (rfl)); (focus (intro w' hW; (try dsimp only at hW); go_simp; (try with_reducible rfl); done)); (focus (exact fun _ _ _ h => h)); (try simp only [Act.put, List.setIfInBounds_toArray, List.set_cons_zero, List.set_cons_succ])); (refine wpT_take (i := 1) (oi := ?_) (v := ?_) hS ?_ ?_ ?_ ?_ ?_ ?_; rotate_left 2; (focus (simp only [List.getElem?_toArray, List.getElem?_cons_zero, List.getElem?_cons_succ]; exact rfl)); (focus (kernel_rfl)); (focus (rfl)); (focus (intro w' hW; (try dsimp only at hW); go_simp; (try with_reducible rfl); done)); (focus (exact fun _ _ _ h => h)); (try simp only [Act.put, List.setIfInBounds_toArray, List.set_cons_zero, List.set_cons_succ])); (refine wpT_take (i := 2) (oi := ?_) (v := ?_) hS ?_ ?_ ?_ ?_ ?_ ?_; rotate_left 2; (focus (simp only [List.getElem?_toArray, List.getElem?_cons_zero, List.getElem?_cons_succ]; exact rfl)); (focus (kernel_rfl)); (focus (rfl)); (focus (intro w' hW; (try dsimp only at hW); go_simp; (try with_reducible rfl); done)); (focus (exact fun _ _ _ h => h)); (try simp only [Act.put, List.setIfInBounds_toArray, List.set_cons_zero, List.set_cons_succ])); (refine wpT_take (i := 3) (oi := ?_) (v := ?_) hS ?_ ?_ ?_ ?_ ?_ ?_; rotate_left 2; (focus (simp only [List.getElem?_toArray, List.getElem?_cons_zero, List.getElem?_cons_succ]; exact rfl)); (focus (kernel_rfl)); (focus (rfl)); (focus (intro w' hW; (try dsimp only at hW); go_simp; (try with_reducible rfl); done)); (focus (exact fun _ _ _ h => h)); (try simp only [Act.put, List.setIfInBounds_toArray, List.set_cons_zero, List.set_cons_succ])); (refine wpT_take (i := 4) (oi := ?_) (v := ?_) hS ?_ ?_ ?_ ?_ ?_ ?_; rotate_left 2; (focus (simp only [List.getElem?_toArray, List.getElem?_cons_zero, List.getElem?_cons_succ]; exact rfl)); (focus (kernel_rfl)); (focus (rfl)); (focus (intro w' hW; (try dsimp only at hW); go_simp; (try with_reducible rfl); done)); (focus (exact fun _ _ _ h => h)); (try simp only [Act.put, List.setIfInBounds_toArray, List.set_cons_zero, List.set_cons_succ])); (refine wpT_take (i := 5) (oi := ?_) (v := ?_) hS ?_ ?_ ?_ ?_ ?_ ?_; rotate_left 2; (focus (simp only [List.getElem?_toArray, List.getElem?_cons_zero, List.getElem?_cons_succ]; exact rfl)); (focus (kernel_rfl)); (focus (rfl)); (focus (intro w' hW; (try dsimp only at hW); go_simp; (try with_reducible rfl); done)); (focus (exact fun _ _ _ h => h)); (try simp only [Act.put, List.setIfInBounds_toArray, List.set_cons_zero, List.set_cons_succ])); (refine wpT_take (i := 6) (oi := ?_) (v := ?_) hS ?_ ?_ ?_ ?_ ?_ ?_; rotate_left 2; (focus (simp only [List.getElem?_toArray, List.getElem?_cons_zero, List.getElem?_cons_succ]; exact rfl)); (focus (kernel_rfl)); (focus (rfl)); (focus (intro w' hW; (try dsimp only at hW); go_simp; (try with_reducible rfl); done)); (focus (exact fun _ _ _ h => h)); (try simp only [Act.put, List.setIfInBounds_toArray, List.set_cons_zero, List.set_cons_succ])); (refine wpT_take (i := 7) (oi := ?_) (v := ?_) hS ?_ ?_ ?_ ?_ ?_ ?_; rotate_left 2; (focus (simp only [List.getElem?_toArray, List.getElem?_cons_zero, List.getElem?_cons_succ]; exact rfl)); (focus (kernel_rfl)); (focus (rfl)); (focus (intro w' hW; (try dsimp only at hW); go_simp; (try with_reducible rfl); done)); (focus (exact fun _ _ _ h => h)); (try simp only [Act.put, List.setIfInBounds_toArray, List.set_cons_zero, List.set_cons_succ])); (refine wpT_take (i := 8) (oi := ?_) (v := ?_) hS ?_ ?_ ?_ ?_ ?_ ?_; rotate_left 2; (focus (simp only [List.getElem?_toArray, List.getElem?_cons_zero, List.getElem?_cons_succ]; exact rfl)); (focus (kernel_rfl)); (focus (rfl)); (focus (intro w' hW; (try dsimp only at hW); go_simp; (try with_reducible rfl); done)); (focus (exact fun _ _ _ h => h)); (try simp only [Act.put, List.setIfInBounds_toArray, List.set_cons_zero, List.set_cons_succ]))
            (refine wpT_one (i := 9) (oi := ?_) ?_ ?_ ?_ ?_; rotate_left 1; (focus (kernel_rfl)); (focus (simp only [List.getElem?_toArray, List.getElem?_cons_zero, List.getElem?_cons_succ]; exact rfl)); (focus (rfl)); go_simp)
            (go_at_call 56; refine (hnr _).mono ?_; rintro e w' ⟨rfl, rfl⟩)
            (first | (with_reducible refine wpT_hold ?_ ?_; (focus (simp [*, go_sem]; done)); clear hS; intro hS; (try dsimp only at hS)) | (refine held_intro ?_ ?_; (focus (simp [*, go_sem]; done)); clear hS; intro hS))
            (refine wpT_one (i := 10) (oi := ?_) ?_ ?_ ?_ ?_; rotate_left 1; (focus (kernel_rfl)); (focus (simp only [List.getElem?_toArray, List.getElem?_cons_zero, List.getElem?_cons_succ]; exact rfl)); (focus (rfl)); go_simp)
            (go_at_call 55; refine (l4Shifted_ _ _ _ _ _ _).mono ?_; rintro e w' ⟨rfl, hb⟩; apply after_call (w := w) hb; (focus ((repeat' (first | (with_reducible exact hM) | (with_reducible apply mem_alloc) | (with_reducible apply mem_set) | (with_reducible apply mem_drew) | (with_reducible apply mem_drewN))); done)); (focus ((repeat' (first | (with_reducible exact hB) | (with_reducible exact Below.refl _ _) | (with_reducible refine Below.alloc ?_ ?_ _) | (with_reducible refine Below.setCell ?_ ?_ _) | (with_reducible refine Below.drew ?_) | (with_reducible refine below_drewN ?_ _) | (with_reducible exact Nat.le_refl _) | (with_reducible exact hB.size) | (simp [go_sem]; done) | (have := hB.size; simp [go_sem]; omega))); done)); (focus ((repeat' (first | (with_reducible exact hB) | (with_reducible exact Below.refl _ _) | (with_reducible refine Below.alloc ?_ ?_ _) | (with_reducible refine Below.setCell ?_ ?_ _) | (with_reducible refine Below.drew ?_) | (with_reducible refine below_drewN ?_ _) | (with_reducible exact Nat.le_refl _) | (with_reducible exact hB.size) | (simp [go_sem]; done) | (have := hB.size; simp [go_sem]; omega))); done)); clear hM hB hb; intro hM hB; (try clear hC); have hC := mem_facts hM; simp at hC)
            (first | (with_reducible refine wpT_hold ?_ ?_; (focus (simp [*, go_sem]; done)); clear hS; intro hS; (try dsimp only at hS)) | (refine held_intro ?_ ?_; (focus (simp [*, go_sem]; done)); clear hS; intro hS))
            (refine wpT_one (i := 11) (oi := ?_) ?_ ?_ ?_ ?_; rotate_left 1; (focus (kernel_rfl)); (focus (simp only [List.getElem?_toArray, List.getElem?_cons_zero, List.getElem?_cons_succ]; exact rfl)); (focus (rfl)); go_simp)
            refine wpT_done (by kernel_rfl) ?_ _
            go_wp2_with fail
            go_meet
            refine ⟨?_, by (repeat' (first | (with_reducible exact hB) | (with_reducible exact Below.refl _ _) | (with_reducible refine Below.alloc ?_ ?_ _) | (with_reducible refine Below.setCell ?_ ?_ _) | (with_reducible refine Below.drew ?_) | (with_reducible refine below_drewN ?_ _) | (with_reducible exact Nat.le_refl _) | (with_reducible exact hB.size) | (simp [go_sem]; done) | (have := hB.size; simp [go_sem]; omega)))⟩
            apply mem_drop 0
            · (repeat' (first | (with_reducible exact hM) | (with_reducible apply mem_alloc) | (with_reducible apply mem_set) | (with_reducible apply mem_drew) | (with_reducible apply mem_drewN)))
            · simp [HS.out]
          case rest =>
            obtain ⟨hM', hB'⟩ := hcut
            clear hnr HS hq
            generalize stM ⟨p, q, r, t⟩ = m1 at *
            obtain ⟨x, y, z, v⟩ := m1
            (try clear hC); clear hM hB; have hM := hM'; have hB := hB'; clear hM' hB'; have hC := mem_facts hM; simp at hC
            by_cases hc : y < 0 ∧ 0 ≤ z ∨ 0 ≤ y ∧ z < 0
            · have HQ := Lib.hid (HST.out.trans (if_pos hc))
              have hne : (decide (y < 0) == decide (z < 0)) = false := by
                by_cases h1 : y < 0 <;> by_cases h2 : z < 0 <;> simp [h1, h2] <;> omega
              clear hc HST
              go_wp2_with (go_at_call 54; refine (l4Turned_ _ _ _ _ _).mono ?_; rintro e w' ⟨rfl, hb⟩; apply after_call (w := w) hb; (focus ((repeat' (first | (with_reducible exact hM) | (with_reducible apply mem_alloc) | (with_reducible apply mem_set) | (with_reducible apply mem_drew) | (with_reducible apply mem_drewN))); done)); (focus ((repeat' (first | (with_reducible exact hB) | (with_reducible exact Below.refl _ _) | (with_reducible refine Below.alloc ?_ ?_ _) | (with_reducible refine Below.setCell ?_ ?_ _) | (with_reducible refine Below.drew ?_) | (with_reducible refine below_drewN ?_ _) | (with_reducible exact Nat.le_refl _) | (with_reducible exact hB.size) | (simp [go_sem]; done) | (have := hB.size; simp [go_sem]; omega))); done)); (focus ((repeat' (first | (with_reducible exact hB) | (with_reducible exact Below.refl _ _) | (with_reducible refine Below.alloc ?_ ?_ _) | (with_reducible refine Below.setCell ?_ ?_ _) | (with_reducible refine Below.drew ?_) | (with_reducible refine below_drewN ?_ _) | (with_reducible exact Nat.le_refl _) | (with_reducible exact hB.size) | (simp [go_sem]; done) | (have := hB.size; simp [go_sem]; omega))); done)); clear hM hB hb; intro hM hB; (try clear hC); have hC := mem_facts hM; simp at hC)
              go_roundg (gk - 1)
              case measure => have := HMU.out; have := HMS.out; omega
              case rel =>
                have h1 := HSG.out.1
                have h2 := HMS.out
                have h3 := HF.out
                rw [HQ.out] at h1 h2 h3
                refine ⟨cT ⟨x, y, z, v⟩, h1, by have := HMU.out; omega, by rw [HPO.out, h3], ?_, by (repeat' (first | (with_reducible exact hB) | (with_reducible exact Below.refl _ _) | (with_reducible refine Below.alloc ?_ ?_ _) | (with_reducible refine Below.setCell ?_ ?_ _) | (with_reducible refine Below.drew ?_) | (with_reducible refine below_drewN ?_ _) | (with_reducible exact Nat.le_refl _) | (with_reducible exact hB.size) | (simp [go_sem]; done) | (have := hB.size; simp [go_sem]; omega)))⟩
                apply mem_drop 0
                · (repeat' (first | (with_reducible exact hM) | (with_reducible apply mem_alloc) | (with_reducible apply mem_set) | (with_reducible apply mem_drew) | (with_reducible apply mem_drewN)))
                · simp [HT.out]
            · have HQ := Lib.hid (HST.out.trans (if_neg hc))
              have hne : (decide (y < 0) == decide (z < 0)) = true := by
                by_cases h1 : y < 0 <;> by_cases h2 : z < 0 <;> simp [h1, h2] <;> omega
              clear hc HST
              go_wp2_with fail
              go_roundg (gk - 1)
              case measure => have := HMU.out; have := HMS.out; omega
              case rel =>
                have h1 := HSG.out.1
                have h2 := HMS.out
                have h3 := HF.out
                rw [HQ.out] at h1 h2 h3
                exact ⟨⟨x, y, z, v⟩, h1, by have := HMU.out; omega, by rw [HPO.out, h3], hM, by (repeat' (first | (with_reducible exact hB) | (with_reducible exact Below.refl _ _) | (with_reducible refine Below.alloc ?_ ?_ _) | (with_reducible refine Below.setCell ?_ ?_ _) | (with_reducible refine Below.drew ?_) | (with_reducible refine below_drewN ?_ _) | (with_reducible exact Nat.le_refl _) | (with_reducible exact hB.size) | (simp [go_sem]; done) | (have := hB.size; simp [go_sem]; omega)))⟩
end Go.Proofs.Ytphjoeocmhaboaa


/- The program's small functions on forms, walked, each for every argument that it may come by. -/
import Derived.Test.YtohkmdpefplddaaFoP
import Derived.Test.YtohkmdpefplddaaImplB
import Derived.Test.YtohkmdpefplddaaHeld
import Derived.Deep.LoopGhost
import Derived.Deep.DeepCutAuto
namespace Go.Proofs.Ytohkmdpefplddaa
open Go.RowKit

theorem fIn_ (a b c : Int) (w : World) : Calls Try.prog 19 #[.agg #[.int .i64 a, .int .i64 b, .int .i64 c]] w (fun E' W' => E' = .returned (.bool (inF ⟨a, b, c⟩)) ∧ Below w.heap.size w W') := by
  have HE := Lib.hid (show ∀ v : Bool, (v = true ↔ (-10000 ≤ a ∧ a ≤ 10000) ∧ (-10000 ≤ b ∧ b ≤ 10000) ∧ (-10000 ≤ c ∧ c ≤ 10000)) → v = inF ⟨a, b, c⟩ from
    fun v h => by rw [Bool.eq_iff_iff, inF_iff]; exact h)
  have hM := mem_nil w; have hB := Below.refl w.heap.size w; have hC := True.intro
  go_enter Try.func19, Try.ntmps19
  go_wp2
  all_goals
    go_ret
    exact ⟨by refine congrArg Ending.returned (congrArg Value.bool (HE.out _ ?_)); simp; omega, by (repeat' (first | (with_reducible exact hB) | (with_reducible exact Below.refl _ _) | (with_reducible refine Below.alloc ?_ ?_ _) | (with_reducible refine Below.setCell ?_ ?_ _) | (with_reducible refine Below.drew ?_) | (with_reducible refine below_drewN ?_ _) | (with_reducible exact Nat.le_refl _) | (with_reducible exact hB.size) | (simp [go_sem]; done) | (have := hB.size; simp [go_sem]; omega)))⟩
theorem fValue_ (a b c x y : Int) (w : World) : Calls Try.prog 31 #[.agg #[.int .i64 a, .int .i64 b, .int .i64 c], .int .i64 x, .int .i64 y] w (fun E' W' => E' = .returned (.int .i64 (wrap64 (vF ⟨a, b, c⟩ x y))) ∧ Below w.heap.size w W') := by
  have hM := mem_nil w; have hB := Below.refl w.heap.size w; have hC := True.intro
  go_enter Try.func31, Try.ntmps31
  go_wp2
  go_ret
  exact ⟨by rw [← wr_vF]; rfl, by (repeat' (first | (with_reducible exact hB) | (with_reducible exact Below.refl _ _) | (with_reducible refine Below.alloc ?_ ?_ _) | (with_reducible refine Below.setCell ?_ ?_ _) | (with_reducible refine Below.drew ?_) | (with_reducible refine below_drewN ?_ _) | (with_reducible exact Nat.le_refl _) | (with_reducible exact hB.size) | (simp [go_sem]; done) | (have := hB.size; simp [go_sem]; omega)))⟩
theorem fDisc_ (a b c : Int) (w : World) : Calls Try.prog 22 #[.agg #[.int .i64 a, .int .i64 b, .int .i64 c]] w (fun E' W' => E' = .returned (.int .i64 (wrap64 (dF ⟨a, b, c⟩))) ∧ Below w.heap.size w W') := by
  have hM := mem_nil w; have hB := Below.refl w.heap.size w; have hC := True.intro
  go_enter Try.func22, Try.ntmps22
  go_wp2
  go_ret
  exact ⟨by simp only [wr_sl, wr_sr, wr_ml, dF]; rfl, by (repeat' (first | (with_reducible exact hB) | (with_reducible exact Below.refl _ _) | (with_reducible refine Below.alloc ?_ ?_ _) | (with_reducible refine Below.setCell ?_ ?_ _) | (with_reducible refine Below.drew ?_) | (with_reducible refine below_drewN ?_ _) | (with_reducible exact Nat.le_refl _) | (with_reducible exact hB.size) | (simp [go_sem]; done) | (have := hB.size; simp [go_sem]; omega)))⟩
theorem dF_bd {a b c : Int} (h : inF ⟨a, b, c⟩ = true) : -500000000 ≤ dF ⟨a, b, c⟩ ∧ dF ⟨a, b, c⟩ ≤ 500000000 := by
  obtain ⟨h1, h2, h3⟩ := inF_iff.1 h
  have k1 := mul_bd h2 h2
  have k2 := mul_bd h1 h3
  dsimp only at k1 k2
  simp only [dF]
  rw [Int.mul_assoc]
  omega
theorem vF_bd {a b c x y K L : Int} (hb : (-K ≤ a ∧ a ≤ K) ∧ (-K ≤ b ∧ b ≤ K) ∧ (-K ≤ c ∧ c ≤ K)) (hx : -L ≤ x ∧ x ≤ L) (hy : -L ≤ y ∧ y ≤ L) : -(3 * (K * L * L)) ≤ vF ⟨a, b, c⟩ x y ∧ vF ⟨a, b, c⟩ x y ≤ 3 * (K * L * L) := by
  obtain ⟨h1, h2, h3⟩ := hb
  have k1 := mul_bd (mul_bd h1 hx) hx
  have k2 := mul_bd (mul_bd h2 hx) hy
  have k3 := mul_bd (mul_bd h3 hy) hy
  simp only [vF]
  omega
theorem fDisc1_ (a b c : Int) (h : inF ⟨a, b, c⟩ = true) (w : World) : Calls Try.prog 22 #[.agg #[.int .i64 a, .int .i64 b, .int .i64 c]] w (fun E' W' => E' = .returned (.int .i64 (dF ⟨a, b, c⟩)) ∧ Below w.heap.size w W') := by
  have := dF_bd h
  have c1 := fDisc_ a b c w
  rw [wrap_mid (by omega)] at c1
  exact c1
theorem fPositive_ (a b c : Int) (h : inF ⟨a, b, c⟩ = true) (w : World) : Calls Try.prog 20 #[.agg #[.int .i64 a, .int .i64 b, .int .i64 c]] w (fun E' W' => E' = .returned (.bool (posB ⟨a, b, c⟩)) ∧ Below w.heap.size w W') := by
  have c1 := fun W => fDisc1_ a b c h W
  clear h
  have HE := Lib.hid (show ∀ v : Bool, (v = true ↔ 1 ≤ a ∧ dF ⟨a, b, c⟩ < 0) → v = posB ⟨a, b, c⟩ from fun v h => by rw [Bool.eq_iff_iff, posB_iff]; exact h)
  generalize dF ⟨a, b, c⟩ = D at *
  generalize posB ⟨a, b, c⟩ = v at *
  have hM := mem_nil w; have hB := Below.refl w.heap.size w; have hC := True.intro
  go_enter Try.func20, Try.ntmps20
  go_wp2_with (first | (go_at_call 22; refine (c1 _).mono ?_; rintro e w' ⟨rfl, hb⟩; apply after_call (w := w) hb; (focus ((repeat' (first | (with_reducible exact hM) | (with_reducible apply mem_alloc) | (with_reducible apply mem_set) | (with_reducible apply mem_drew) | (with_reducible apply mem_drewN))); done)); (focus ((repeat' (first | (with_reducible exact hB) | (with_reducible exact Below.refl _ _) | (with_reducible refine Below.alloc ?_ ?_ _) | (with_reducible refine Below.setCell ?_ ?_ _) | (with_reducible refine Below.drew ?_) | (with_reducible refine below_drewN ?_ _) | (with_reducible exact Nat.le_refl _) | (with_reducible exact hB.size) | (simp [go_sem]; done) | (have := hB.size; simp [go_sem]; omega))); done)); (focus ((repeat' (first | (with_reducible exact hB) | (with_reducible exact Below.refl _ _) | (with_reducible refine Below.alloc ?_ ?_ _) | (with_reducible refine Below.setCell ?_ ?_ _) | (with_reducible refine Below.drew ?_) | (with_reducible refine below_drewN ?_ _) | (with_reducible exact Nat.le_refl _) | (with_reducible exact hB.size) | (simp [go_sem]; done) | (have := hB.size; simp [go_sem]; omega))); done)); clear hM hB hb; intro hM hB; (try clear hC); have hC := mem_facts hM; simp at hC))
  all_goals
    go_ret
    exact ⟨by refine congrArg Ending.returned (congrArg Value.bool (HE.out _ ?_)); (try simp); (try omega), by (repeat' (first | (with_reducible exact hB) | (with_reducible exact Below.refl _ _) | (with_reducible refine Below.alloc ?_ ?_ _) | (with_reducible refine Below.setCell ?_ ?_ _) | (with_reducible refine Below.drew ?_) | (with_reducible refine below_drewN ?_ _) | (with_reducible exact Nat.le_refl _) | (with_reducible exact hB.size) | (simp [go_sem]; done) | (have := hB.size; simp [go_sem]; omega)))⟩
theorem fAbs_ (x : Int) (hx : -4000000000000000000 ≤ x ∧ x ≤ 4000000000000000000) (w : World) : Calls Try.prog 34 #[.int .i64 x] w (fun E' W' => E' = .returned (.int .i64 (absI x)) ∧ w = W') := by
  have h1 : wrap64 (-x) = -x := wrap_mid (by omega)
  by_cases h : x < 0
  · have e : absI x = -x := by unfold absI; rw [if_pos h]
    have h2 : (-x > x) = True := by simp; omega
    go_enter Try.func34, Try.ntmps34
    go_wp2
    go_ret
    exact ⟨by first | rfl | (rw [e]; rfl), rfl⟩
  · have e : absI x = x := by unfold absI; rw [if_neg h]
    have h2 : (-x > x) = False := by simp; omega
    go_enter Try.func34, Try.ntmps34
    go_wp2
    go_ret
    exact ⟨by first | rfl | (rw [e]; rfl), rfl⟩
theorem fShort_ (a b c : Int) (hb : -4000000000000000000 ≤ b ∧ b ≤ 4000000000000000000) (w : World) : Calls Try.prog 27 #[.agg #[.int .i64 a, .int .i64 b, .int .i64 c]] w (fun E' W' => E' = .returned (.bool (shtB ⟨a, b, c⟩)) ∧ Below w.heap.size w W') := by
  have c1 := fun W => fAbs_ b hb W
  have HE := Lib.hid (show ∀ v : Bool, (v = true ↔ absI b ≤ a ∧ (a ≤ c ∧ (0 ≤ b ∨ (¬ a = c ∧ ¬ absI b = a)))) → v = shtB ⟨a, b, c⟩ from fun v h => by
    rw [Bool.eq_iff_iff, h]; simp [shtB])
  generalize absI b = u at *
  generalize shtB ⟨a, b, c⟩ = v at *
  clear hb
  have hM := mem_nil w; have hB := Below.refl w.heap.size w; have hC := True.intro
  go_enter Try.func27, Try.ntmps27
  go_wp2_with (first | (go_at_call 34; refine (c1 _).mono ?_; rintro e w' ⟨rfl, rfl⟩))
  all_goals
    go_ret
    exact ⟨by refine congrArg Ending.returned (congrArg Value.bool (HE.out _ ?_)); (try simp); (try omega), by (repeat' (first | (with_reducible exact hB) | (with_reducible exact Below.refl _ _) | (with_reducible refine Below.alloc ?_ ?_ _) | (with_reducible refine Below.setCell ?_ ?_ _) | (with_reducible refine Below.drew ?_) | (with_reducible refine below_drewN ?_ _) | (with_reducible exact Nat.le_refl _) | (with_reducible exact hB.size) | (simp [go_sem]; done) | (have := hB.size; simp [go_sem]; omega)))⟩
theorem fTurn_ (w : World) : Calls Try.prog 36 #[] w (fun E' W' => E' = .returned (.agg #[.int .i64 0, .int .i64 (-1), .int .i64 1, .int .i64 0]) ∧ Below w.heap.size w W') := by
  have hM := mem_nil w; have hB := Below.refl w.heap.size w; have hC := True.intro
  go_enter Try.func36, Try.ntmps36
  go_wp2
  refine bodyPost_ret (by (simp [results, Try.results36, go_sem, *]; try rfl)) rfl ?_
  exact ⟨rfl, by (repeat' (first | (with_reducible exact hB) | (with_reducible exact Below.refl _ _) | (with_reducible refine Below.alloc ?_ ?_ _) | (with_reducible refine Below.setCell ?_ ?_ _) | (with_reducible refine Below.drew ?_) | (with_reducible refine below_drewN ?_ _) | (with_reducible exact Nat.le_refl _) | (with_reducible exact hB.size) | (simp [go_sem]; done) | (have := hB.size; simp [go_sem]; omega)))⟩
theorem fShift_ (x : Int) (w : World) : Calls Try.prog 37 #[.int .i64 x] w (fun E' W' => E' = .returned (.agg #[.int .i64 1, .int .i64 x, .int .i64 0, .int .i64 1]) ∧ Below w.heap.size w W') := by
  have hM := mem_nil w; have hB := Below.refl w.heap.size w; have hC := True.intro
  go_enter Try.func37, Try.ntmps37
  go_wp2
  refine bodyPost_ret (by (simp [results, Try.results37, go_sem, *]; try rfl)) rfl ?_
  exact ⟨rfl, by (repeat' (first | (with_reducible exact hB) | (with_reducible exact Below.refl _ _) | (with_reducible refine Below.alloc ?_ ?_ _) | (with_reducible refine Below.setCell ?_ ?_ _) | (with_reducible refine Below.drew ?_) | (with_reducible refine below_drewN ?_ _) | (with_reducible exact Nat.le_refl _) | (with_reducible exact hB.size) | (simp [go_sem]; done) | (have := hB.size; simp [go_sem]; omega)))⟩
theorem q_bd8 {N D : Int} (hD : 1 ≤ D) (hN : -1000000000000 ≤ N ∧ N ≤ 1000000000000) : -1000000000001 ≤ N / D ∧ N / D ≤ 1000000000000 := by
  have h := fl_bd (N := N) (D := D) (by omega)
  generalize N / D = q at *
  constructor
  · apply Int.not_lt.1; intro hq
    have := Int.mul_nonneg (show 0 ≤ D - 1 by omega) (show 0 ≤ -(q + 1) by omega)
    rw [Int.sub_mul, Int.mul_neg, Int.mul_add] at this
    omega
  · apply Int.not_lt.1; intro hq
    have := Int.mul_nonneg (show 0 ≤ D - 1 by omega) (show 0 ≤ q by omega)
    rw [Int.sub_mul] at this
    omega
theorem fNear_ (a c : Int) (ha : -100000000000 ≤ a ∧ a ≤ 100000000000) (hc : 1 ≤ c ∧ c ≤ 100000000000) (w : World) : Calls Try.prog 38 #[.int .i64 a, .int .i64 c] w (fun E' W' => E' = .returned (.int .i64 (near a c)) ∧ w = W') := by
  have hn : ¬ c < 0 := by omega
  have e := floor_td (n := 2 * a + c) (d := 2 * c) (by omega)
  have hq : near a c = (2 * a + c) / (2 * c) := by rw [near, if_neg hn]
  have hb := q_bd8 (N := 2 * a + c) (D := 2 * c) (by omega) (by omega)
  have hw := wrap_mid (x := (2 * a + c) / (2 * c)) (by omega)
  rw [hq]
  clear hq
  generalize hN : 2 * a + c = N at *
  generalize hD : 2 * c = D at *
  have hD1 : (D = 0) = False := by simp; omega
  by_cases ht : N.tmod D < 0
  · have e' := e.1 ht
    go_enter Try.func38, Try.ntmps38
    go_wp2
    go_ret
    exact ⟨rfl, rfl⟩
  · have e' := e.2 ht
    go_enter Try.func38, Try.ntmps38
    go_wp2
    go_ret
    exact ⟨rfl, rfl⟩
theorem fStep_ (a b c : Int) (ha : 1 ≤ a ∧ a ≤ 10000) (hb : -20000 < b ∧ b < 20000) (w : World) : Calls Try.prog 30 #[.agg #[.int .i64 a, .int .i64 b, .int .i64 c]] w (fun E' W' => E' = .returned (.agg #[.int .i64 ((fstM ⟨a, b, c⟩)).a, .int .i64 ((fstM ⟨a, b, c⟩)).b, .int .i64 ((fstM ⟨a, b, c⟩)).c, .int .i64 ((fstM ⟨a, b, c⟩)).d]) ∧ Below w.heap.size w W') := by
  have c1 := fun W => fNear_ (-b) (2 * a) (by omega) (by omega) W
  have h1 : wrap64 (-b) = -b := wrap_mid (by omega)
  have h2 : wrap64 (2 * a) = 2 * a := wrap_mid (by omega)
  have h3 : wrap64 (-a) = -a := wrap_mid (by omega)
  cases hn : nrF ⟨a, b, c⟩
  · have HE := Lib.hid (show fstM ⟨a, b, c⟩ = ⟨1, near (-b) (2 * a), 0, 1⟩ from by rw [fstM, if_neg (by rw [hn]; exact Bool.false_ne_true)])
    have hn' : ¬ (-a < b ∧ b ≤ a) := fun e => by rw [nrF_iff.2 e] at hn; cases hn
    rw [HE.out]
    clear hn HE
    generalize near (-b) (2 * a) = k at *
    by_cases h4 : -a < b
    · have h5 : ¬ b ≤ a := fun e => hn' ⟨h4, e⟩
      have hM := mem_nil w; have hB := Below.refl w.heap.size w; have hC := True.intro
      go_enter Try.func30, Try.ntmps30
      go_wp2_with (first | (go_at_call 38; refine (c1 _).mono ?_; rintro e w' ⟨rfl, rfl⟩) | (go_at_call 37; refine (fShift_ _ _).mono ?_; rintro e w' ⟨rfl, hb⟩; apply after_call (w := w) hb; (focus ((repeat' (first | (with_reducible exact hM) | (with_reducible apply mem_alloc) | (with_reducible apply mem_set) | (with_reducible apply mem_drew) | (with_reducible apply mem_drewN))); done)); (focus ((repeat' (first | (with_reducible exact hB) | (with_reducible exact Below.refl _ _) | (with_reducible refine Below.alloc ?_ ?_ _) | (with_reducible refine Below.setCell ?_ ?_ _) | (with_reducible refine Below.drew ?_) | (with_reducible refine below_drewN ?_ _) | (with_reducible exact Nat.le_refl _) | (with_reducible exact hB.size) | (simp [go_sem]; done) | (have := hB.size; simp [go_sem]; omega))); done)); (focus ((repeat' (first | (with_reducible exact hB) | (with_reducible exact Below.refl _ _) | (with_reducible refine Below.alloc ?_ ?_ _) | (with_reducible refine Below.setCell ?_ ?_ _) | (with_reducible refine Below.drew ?_) | (with_reducible refine below_drewN ?_ _) | (with_reducible exact Nat.le_refl _) | (with_reducible exact hB.size) | (simp [go_sem]; done) | (have := hB.size; simp [go_sem]; omega))); done)); clear hM hB hb; intro hM hB; (try clear hC); have hC := mem_facts hM; simp at hC))
      refine bodyPost_ret (by (simp [results, Try.results30, go_sem, *]; try rfl)) rfl ?_
      exact ⟨rfl, by (repeat' (first | (with_reducible exact hB) | (with_reducible exact Below.refl _ _) | (with_reducible refine Below.alloc ?_ ?_ _) | (with_reducible refine Below.setCell ?_ ?_ _) | (with_reducible refine Below.drew ?_) | (with_reducible refine below_drewN ?_ _) | (with_reducible exact Nat.le_refl _) | (with_reducible exact hB.size) | (simp [go_sem]; done) | (have := hB.size; simp [go_sem]; omega)))⟩
    · have hM := mem_nil w; have hB := Below.refl w.heap.size w; have hC := True.intro
      go_enter Try.func30, Try.ntmps30
      go_wp2_with (first | (go_at_call 38; refine (c1 _).mono ?_; rintro e w' ⟨rfl, rfl⟩) | (go_at_call 37; refine (fShift_ _ _).mono ?_; rintro e w' ⟨rfl, hb⟩; apply after_call (w := w) hb; (focus ((repeat' (first | (with_reducible exact hM) | (with_reducible apply mem_alloc) | (with_reducible apply mem_set) | (with_reducible apply mem_drew) | (with_reducible apply mem_drewN))); done)); (focus ((repeat' (first | (with_reducible exact hB) | (with_reducible exact Below.refl _ _) | (with_reducible refine Below.alloc ?_ ?_ _) | (with_reducible refine Below.setCell ?_ ?_ _) | (with_reducible refine Below.drew ?_) | (with_reducible refine below_drewN ?_ _) | (with_reducible exact Nat.le_refl _) | (with_reducible exact hB.size) | (simp [go_sem]; done) | (have := hB.size; simp [go_sem]; omega))); done)); (focus ((repeat' (first | (with_reducible exact hB) | (with_reducible exact Below.refl _ _) | (with_reducible refine Below.alloc ?_ ?_ _) | (with_reducible refine Below.setCell ?_ ?_ _) | (with_reducible refine Below.drew ?_) | (with_reducible refine below_drewN ?_ _) | (with_reducible exact Nat.le_refl _) | (with_reducible exact hB.size) | (simp [go_sem]; done) | (have := hB.size; simp [go_sem]; omega))); done)); clear hM hB hb; intro hM hB; (try clear hC); have hC := mem_facts hM; simp at hC))
      refine bodyPost_ret (by (simp [results, Try.results30, go_sem, *]; try rfl)) rfl ?_
      exact ⟨rfl, by (repeat' (first | (with_reducible exact hB) | (with_reducible exact Below.refl _ _) | (with_reducible refine Below.alloc ?_ ?_ _) | (with_reducible refine Below.setCell ?_ ?_ _) | (with_reducible refine Below.drew ?_) | (with_reducible refine below_drewN ?_ _) | (with_reducible exact Nat.le_refl _) | (with_reducible exact hB.size) | (simp [go_sem]; done) | (have := hB.size; simp [go_sem]; omega)))⟩
  · have HE := Lib.hid (show fstM ⟨a, b, c⟩ = ⟨0, -1, 1, 0⟩ from by rw [fstM, if_pos hn])
    obtain ⟨h4, h5⟩ := nrF_iff.1 hn
    dsimp only at h4 h5
    rw [HE.out]
    clear hn HE
    have hM := mem_nil w; have hB := Below.refl w.heap.size w; have hC := True.intro
    go_enter Try.func30, Try.ntmps30
    go_wp2_with (first | (go_at_call 36; refine (fTurn_ _).mono ?_; rintro e w' ⟨rfl, hb⟩; apply after_call (w := w) hb; (focus ((repeat' (first | (with_reducible exact hM) | (with_reducible apply mem_alloc) | (with_reducible apply mem_set) | (with_reducible apply mem_drew) | (with_reducible apply mem_drewN))); done)); (focus ((repeat' (first | (with_reducible exact hB) | (with_reducible exact Below.refl _ _) | (with_reducible refine Below.alloc ?_ ?_ _) | (with_reducible refine Below.setCell ?_ ?_ _) | (with_reducible refine Below.drew ?_) | (with_reducible refine below_drewN ?_ _) | (with_reducible exact Nat.le_refl _) | (with_reducible exact hB.size) | (simp [go_sem]; done) | (have := hB.size; simp [go_sem]; omega))); done)); (focus ((repeat' (first | (with_reducible exact hB) | (with_reducible exact Below.refl _ _) | (with_reducible refine Below.alloc ?_ ?_ _) | (with_reducible refine Below.setCell ?_ ?_ _) | (with_reducible refine Below.drew ?_) | (with_reducible refine below_drewN ?_ _) | (with_reducible exact Nat.le_refl _) | (with_reducible exact hB.size) | (simp [go_sem]; done) | (have := hB.size; simp [go_sem]; omega))); done)); clear hM hB hb; intro hM hB; (try clear hC); have hC := mem_facts hM; simp at hC))
    refine bodyPost_ret (by (simp [results, Try.results30, go_sem, *]; try rfl)) rfl ?_
    exact ⟨rfl, by (repeat' (first | (with_reducible exact hB) | (with_reducible exact Below.refl _ _) | (with_reducible refine Below.alloc ?_ ?_ _) | (with_reducible refine Below.setCell ?_ ?_ _) | (with_reducible refine Below.drew ?_) | (with_reducible refine below_drewN ?_ _) | (with_reducible exact Nat.le_refl _) | (with_reducible exact hB.size) | (simp [go_sem]; done) | (have := hB.size; simp [go_sem]; omega)))⟩
end Go.Proofs.Ytohkmdpefplddaa

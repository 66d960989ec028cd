
/- The program's lattices, walked: whether one has a pair; double forms. -/
import Derived.Test.YtcnhjnmnflehhaaLaD
import Derived.Test.YtcnhjnmnflehhaaMoA
namespace Go.Proofs.Ytcnhjnmnflehhaa
open Go.RowKit

theorem tmod0_iff {x a : Int} : x.tmod a = 0 ↔ x % a = 0 := by
  rw [← Int.dvd_iff_tmod_eq_zero, ← Int.dvd_iff_emod_eq_zero]
theorem tdiv_bd {x a : Int} (_ha : 1 ≤ a) (hx : -1000000 ≤ x ∧ x ≤ 1000000) : -1000000 ≤ x.tdiv a ∧ x.tdiv a ≤ 1000000 := by
  have h1 : (x.tdiv a).natAbs ≤ x.natAbs := by rw [Int.natAbs_tdiv]; exact Nat.div_le_self _ _
  omega
/-- what the region of 'has' reckons with -/
theorem has_num {a b x y : Int} (ha : 1 ≤ a) (hb : 0 ≤ b ∧ b ≤ 1000000) (hx : -1000000 ≤ x ∧ x ≤ 1000000) (hy : -1000000 ≤ y ∧ y ≤ 1000000) :
    wrap64 (y - wrap64 (wrap64 (x.tdiv a) * b)) = y - x.tdiv a * b := by
  have h1 := tdiv_bd ha hx
  have h2 := mul_bd (x := x.tdiv a) (y := b) (a := 1000000) (b := 1000000) ⟨by omega, by omega⟩ ⟨by omega, by omega⟩
  rw [wrap_mid (x := x.tdiv a) (by omega), wrap_mid (x := x.tdiv a * b) (by omega), wrap_mid (by omega)]
theorem hasB_f {a b d x y : Int} (h : x.tmod a ≠ 0) : hasB ⟨a, b, 0, d⟩ x y = false := by
  have : ¬ x % a = 0 := fun e => h (tmod0_iff.2 e)
  simp [hasB, this]
theorem hasB_t {a b d x y : Int} (h : x.tmod a = 0) : hasB ⟨a, b, 0, d⟩ x y = ((y - x.tdiv a * b).tmod d == 0) := by
  have h1 := tmod0_iff.1 h
  have h2 : x.tdiv a = x / a := Int.tdiv_eq_ediv_of_dvd (Int.dvd_of_emod_eq_zero h1)
  rw [h2, Bool.eq_iff_iff]
  simp only [hasB, h1, decide_true, Bool.true_and, decide_eq_true_eq, beq_iff_eq, tmod0_iff]
set_option maxHeartbeats 1000000 in
theorem has_ (a b d x y : Int) (ha : 1 ≤ a) (hb : 0 ≤ b ∧ b ≤ 1000000) (hd : 1 ≤ d) (hx : -1000000 ≤ x ∧ x ≤ 1000000) (hy : -1000000 ≤ y ∧ y ≤ 1000000) (w : World) :
    Calls Try.prog 40 #[.agg #[.int .i64 a, .int .i64 b, .int .i64 0, .int .i64 d], .int .i64 x, .int .i64 y] w (fun E' W' => E' = .returned (.bool (hasB ⟨a, b, 0, d⟩ x y)) ∧ Below w.heap.size w W') := by
  have hz : (a == 0) = false := by simp; omega
  have hz' : (a = 0) = False := by simp; omega
  have hzd : (d == 0) = false := by simp; omega
  have hzd' : (d = 0) = False := by simp; omega
  have HN := Lib.hid (has_num ha hb hx hy)
  by_cases hr : x.tmod a = 0
  · have HE := Lib.hid (hasB_t (b := b) (d := d) (y := y) hr)
    clear ha hb hd hx hy
    have hM := mem_nil w; have hB := Below.refl w.heap.size w; have hC := True.intro
    go_enter Try.func40, Try.ntmps40
    go_wp2_with fail
    go_quiet (fail)
    go_wp2
    go_ret
    exact ⟨by rw [HE.out, HN.out]; rfl, by (repeat' (first | (with_reducible exact hB) | (with_reducible exact Below.refl _ _) | (with_reducible refine Below.alloc ?_ ?_ _) | (with_reducible refine Below.setCell ?_ ?_ _) | (with_reducible refine Below.drew ?_) | (with_reducible refine below_drewN ?_ _) | (with_reducible exact Nat.le_refl _) | (with_reducible exact hB.size) | (simp [go_sem]; done) | (have := hB.size; simp [go_sem]; omega)))⟩
  · have HE := Lib.hid (hasB_f (b := b) (d := d) (y := y) hr)
    have hr1 : (x.tmod a == 0) = false := by simp [hr]
    have hr2 : (x.tmod a = 0) = False := by simp [hr]
    clear ha hb hd hx hy
    have hM := mem_nil w; have hB := Below.refl w.heap.size w; have hC := True.intro
    go_enter Try.func40, Try.ntmps40
    go_wp2_with fail
    go_quiet (fail)
    go_wp2
    go_ret
    exact ⟨by rw [HE.out]; rfl, by (repeat' (first | (with_reducible exact hB) | (with_reducible exact Below.refl _ _) | (with_reducible refine Below.alloc ?_ ?_ _) | (with_reducible refine Below.setCell ?_ ?_ _) | (with_reducible refine Below.drew ?_) | (with_reducible refine below_drewN ?_ _) | (with_reducible exact Nat.le_refl _) | (with_reducible exact hB.size) | (simp [go_sem]; done) | (have := hB.size; simp [go_sem]; omega)))⟩
def mHasL (m : M) (x y : Int) : Bool := ltB 1000000 m && (numB x && (numB y && hasB (ltM 1000000 m) x y))
theorem ltM_rf {k : Int} {m : M} (h : ltB k m = true) : ltM k m = nf m ∧ RF (nf m) ∧ LatE (nf m) m ∧ xd m ≠ 0 ∧ inB m = true ∧ absI (xd m) ≤ k ∧ (nf m).a * (nf m).d = absI (xd m) ∧
    (1 ≤ (nf m).a ∧ (nf m).a ≤ k) ∧ (0 ≤ (nf m).b ∧ (nf m).b < (nf m).d) ∧ (nf m).c = 0 ∧ (1 ≤ (nf m).d ∧ (nf m).d ≤ k) := by
  have h' := h
  simp only [ltB, Bool.and_eq_true, Bool.not_eq_true', decide_eq_true_eq, beq_eq_false_iff_ne] at h'
  obtain ⟨⟨h1, h2⟩, h3⟩ := h'
  obtain ⟨s1, s2, s3⟩ := nf_spec h2
  obtain ⟨r1, r2, r3, r4, _⟩ := nf_in h2 h3
  exact ⟨by rw [ltM, if_pos h], s1, s2, h2, h1, h3, s3, r1, r2, r3, r4⟩
set_option maxHeartbeats 4000000 in
theorem LatticeHas_ (a b c d x y : Int) (w : World) : Calls Try.prog 15 #[.agg #[.int .i64 a, .int .i64 b, .int .i64 c, .int .i64 d], .int .i64 x, .int .i64 y] w (fun E' W' => E' = .returned (.bool (mHasL ⟨a, b, c, d⟩ x y)) ∧ Below w.heap.size w W') := by
  have c1 := fun W => latticeUpTo_ 1000000 a b c d W
  have HE := Lib.hid (show mHasL ⟨a, b, c, d⟩ x y = (ltB 1000000 ⟨a, b, c, d⟩ && (numB x && (numB y && hasB (ltM 1000000 ⟨a, b, c, d⟩) x y))) from rfl)
  cases ho : ltB 1000000 ⟨a, b, c, d⟩
  · rw [ho] at HE
    rw [ho] at c1
    clear ho
    generalize ltM 1000000 ⟨a, b, c, d⟩ = l at *
    obtain ⟨p, q, r, t⟩ := l
    dsimp only at c1
    have hM := mem_nil w; have hB := Below.refl w.heap.size w; have hC := True.intro
    go_enter Try.func15, Try.ntmps15
    go_wp2_with (first | (go_at_call 33; refine (c1 _).mono ?_; rintro e w' ⟨rfl, hb⟩; apply after_call (w := w) hb; (focus ((repeat' (first | (with_reducible exact hM) | (with_reducible apply mem_alloc) | (with_reducible apply mem_set) | (with_reducible apply mem_drew) | (with_reducible apply mem_drewN))); done)); (focus ((repeat' (first | (with_reducible exact hB) | (with_reducible exact Below.refl _ _) | (with_reducible refine Below.alloc ?_ ?_ _) | (with_reducible refine Below.setCell ?_ ?_ _) | (with_reducible refine Below.drew ?_) | (with_reducible refine below_drewN ?_ _) | (with_reducible exact Nat.le_refl _) | (with_reducible exact hB.size) | (simp [go_sem]; done) | (have := hB.size; simp [go_sem]; omega))); done)); (focus ((repeat' (first | (with_reducible exact hB) | (with_reducible exact Below.refl _ _) | (with_reducible refine Below.alloc ?_ ?_ _) | (with_reducible refine Below.setCell ?_ ?_ _) | (with_reducible refine Below.drew ?_) | (with_reducible refine below_drewN ?_ _) | (with_reducible exact Nat.le_refl _) | (with_reducible exact hB.size) | (simp [go_sem]; done) | (have := hB.size; simp [go_sem]; omega))); done)); clear hM hB hb; intro hM hB; (try clear hC); have hC := mem_facts hM; simp at hC))
    go_ret
    exact ⟨by rw [HE.out]; rfl, by (repeat' (first | (with_reducible exact hB) | (with_reducible exact Below.refl _ _) | (with_reducible refine Below.alloc ?_ ?_ _) | (with_reducible refine Below.setCell ?_ ?_ _) | (with_reducible refine Below.drew ?_) | (with_reducible refine below_drewN ?_ _) | (with_reducible exact Nat.le_refl _) | (with_reducible exact hB.size) | (simp [go_sem]; done) | (have := hB.size; simp [go_sem]; omega)))⟩
  · obtain ⟨e1, _, _, _, _, _, _, r1, r2, r3, r4⟩ := ltM_rf ho
    rw [ho] at HE
    rw [ho] at c1
    rw [e1] at HE
    rw [e1] at c1
    clear ho e1
    generalize nf ⟨a, b, c, d⟩ = l at *
    obtain ⟨p, q, r, t⟩ := l
    dsimp only at c1 r1 r2 r3 r4
    subst r3
    cases h1 : numB x
    · rw [h1] at HE
      have c2 := fun W => numberIn_ x W
      rw [h1] at c2
      clear h1 r1 r2 r4
      have hM := mem_nil w; have hB := Below.refl w.heap.size w; have hC := True.intro
      go_enter Try.func15, Try.ntmps15
      go_wp2_with (first | (go_at_call 33; refine (c1 _).mono ?_; rintro e w' ⟨rfl, hb⟩; apply after_call (w := w) hb; (focus ((repeat' (first | (with_reducible exact hM) | (with_reducible apply mem_alloc) | (with_reducible apply mem_set) | (with_reducible apply mem_drew) | (with_reducible apply mem_drewN))); done)); (focus ((repeat' (first | (with_reducible exact hB) | (with_reducible exact Below.refl _ _) | (with_reducible refine Below.alloc ?_ ?_ _) | (with_reducible refine Below.setCell ?_ ?_ _) | (with_reducible refine Below.drew ?_) | (with_reducible refine below_drewN ?_ _) | (with_reducible exact Nat.le_refl _) | (with_reducible exact hB.size) | (simp [go_sem]; done) | (have := hB.size; simp [go_sem]; omega))); done)); (focus ((repeat' (first | (with_reducible exact hB) | (with_reducible exact Below.refl _ _) | (with_reducible refine Below.alloc ?_ ?_ _) | (with_reducible refine Below.setCell ?_ ?_ _) | (with_reducible refine Below.drew ?_) | (with_reducible refine below_drewN ?_ _) | (with_reducible exact Nat.le_refl _) | (with_reducible exact hB.size) | (simp [go_sem]; done) | (have := hB.size; simp [go_sem]; omega))); done)); clear hM hB hb; intro hM hB; (try clear hC); have hC := mem_facts hM; simp at hC) | (go_at_call 39; refine (c2 _).mono ?_; rintro e w' ⟨rfl, rfl⟩))
      go_ret
      exact ⟨by rw [HE.out]; rfl, by (repeat' (first | (with_reducible exact hB) | (with_reducible exact Below.refl _ _) | (with_reducible refine Below.alloc ?_ ?_ _) | (with_reducible refine Below.setCell ?_ ?_ _) | (with_reducible refine Below.drew ?_) | (with_reducible refine below_drewN ?_ _) | (with_reducible exact Nat.le_refl _) | (with_reducible exact hB.size) | (simp [go_sem]; done) | (have := hB.size; simp [go_sem]; omega)))⟩
    · have hx := numB_iff.1 h1
      rw [h1] at HE
      have c2 := fun W => numberIn_ x W
      rw [h1] at c2
      clear h1
      cases h2 : numB y
      · rw [h2] at HE
        have c3 := fun W => numberIn_ y W
        rw [h2] at c3
        clear h2 r1 r2 r4 hx
        have hM := mem_nil w; have hB := Below.refl w.heap.size w; have hC := True.intro
        go_enter Try.func15, Try.ntmps15
        go_wp2_with (first | (go_at_call 33; refine (c1 _).mono ?_; rintro e w' ⟨rfl, hb⟩; apply after_call (w := w) hb; (focus ((repeat' (first | (with_reducible exact hM) | (with_reducible apply mem_alloc) | (with_reducible apply mem_set) | (with_reducible apply mem_drew) | (with_reducible apply mem_drewN))); done)); (focus ((repeat' (first | (with_reducible exact hB) | (with_reducible exact Below.refl _ _) | (with_reducible refine Below.alloc ?_ ?_ _) | (with_reducible refine Below.setCell ?_ ?_ _) | (with_reducible refine Below.drew ?_) | (with_reducible refine below_drewN ?_ _) | (with_reducible exact Nat.le_refl _) | (with_reducible exact hB.size) | (simp [go_sem]; done) | (have := hB.size; simp [go_sem]; omega))); done)); (focus ((repeat' (first | (with_reducible exact hB) | (with_reducible exact Below.refl _ _) | (with_reducible refine Below.alloc ?_ ?_ _) | (with_reducible refine Below.setCell ?_ ?_ _) | (with_reducible refine Below.drew ?_) | (with_reducible refine below_drewN ?_ _) | (with_reducible exact Nat.le_refl _) | (with_reducible exact hB.size) | (simp [go_sem]; done) | (have := hB.size; simp [go_sem]; omega))); done)); clear hM hB hb; intro hM hB; (try clear hC); have hC := mem_facts hM; simp at hC) | ((go_at_call 39; refine (c2 _).mono ?_; rintro e w' ⟨rfl, rfl⟩); clear c2) | (go_at_call 39; refine (c3 _).mono ?_; rintro e w' ⟨rfl, rfl⟩))
        go_ret
        exact ⟨by rw [HE.out]; rfl, by (repeat' (first | (with_reducible exact hB) | (with_reducible exact Below.refl _ _) | (with_reducible refine Below.alloc ?_ ?_ _) | (with_reducible refine Below.setCell ?_ ?_ _) | (with_reducible refine Below.drew ?_) | (with_reducible refine below_drewN ?_ _) | (with_reducible exact Nat.le_refl _) | (with_reducible exact hB.size) | (simp [go_sem]; done) | (have := hB.size; simp [go_sem]; omega)))⟩
      · have hy := numB_iff.1 h2
        rw [h2] at HE
        have c3 := fun W => numberIn_ y W
        rw [h2] at c3
        clear h2
        have c4 := fun W => has_ p q t x y r1.1 (by omega) r4.1 hx hy W
        clear r1 r2 r4 hx hy
        generalize hasB ⟨p, q, 0, t⟩ x y = o at *
        have hM := mem_nil w; have hB := Below.refl w.heap.size w; have hC := True.intro
        go_enter Try.func15, Try.ntmps15
        go_wp2_with (first | (go_at_call 33; refine (c1 _).mono ?_; rintro e w' ⟨rfl, hb⟩; apply after_call (w := w) hb; (focus ((repeat' (first | (with_reducible exact hM) | (with_reducible apply mem_alloc) | (with_reducible apply mem_set) | (with_reducible apply mem_drew) | (with_reducible apply mem_drewN))); done)); (focus ((repeat' (first | (with_reducible exact hB) | (with_reducible exact Below.refl _ _) | (with_reducible refine Below.alloc ?_ ?_ _) | (with_reducible refine Below.setCell ?_ ?_ _) | (with_reducible refine Below.drew ?_) | (with_reducible refine below_drewN ?_ _) | (with_reducible exact Nat.le_refl _) | (with_reducible exact hB.size) | (simp [go_sem]; done) | (have := hB.size; simp [go_sem]; omega))); done)); (focus ((repeat' (first | (with_reducible exact hB) | (with_reducible exact Below.refl _ _) | (with_reducible refine Below.alloc ?_ ?_ _) | (with_reducible refine Below.setCell ?_ ?_ _) | (with_reducible refine Below.drew ?_) | (with_reducible refine below_drewN ?_ _) | (with_reducible exact Nat.le_refl _) | (with_reducible exact hB.size) | (simp [go_sem]; done) | (have := hB.size; simp [go_sem]; omega))); done)); clear hM hB hb; intro hM hB; (try clear hC); have hC := mem_facts hM; simp at hC) | ((go_at_call 39; refine (c2 _).mono ?_; rintro e w' ⟨rfl, rfl⟩); clear c2) | (go_at_call 39; refine (c3 _).mono ?_; rintro e w' ⟨rfl, rfl⟩) | (go_at_call 40; refine (c4 _).mono ?_; rintro e w' ⟨rfl, hb⟩; apply after_call (w := w) hb; (focus ((repeat' (first | (with_reducible exact hM) | (with_reducible apply mem_alloc) | (with_reducible apply mem_set) | (with_reducible apply mem_drew) | (with_reducible apply mem_drewN))); done)); (focus ((repeat' (first | (with_reducible exact hB) | (with_reducible exact Below.refl _ _) | (with_reducible refine Below.alloc ?_ ?_ _) | (with_reducible refine Below.setCell ?_ ?_ _) | (with_reducible refine Below.drew ?_) | (with_reducible refine below_drewN ?_ _) | (with_reducible exact Nat.le_refl _) | (with_reducible exact hB.size) | (simp [go_sem]; done) | (have := hB.size; simp [go_sem]; omega))); done)); (focus ((repeat' (first | (with_reducible exact hB) | (with_reducible exact Below.refl _ _) | (with_reducible refine Below.alloc ?_ ?_ _) | (with_reducible refine Below.setCell ?_ ?_ _) | (with_reducible refine Below.drew ?_) | (with_reducible refine below_drewN ?_ _) | (with_reducible exact Nat.le_refl _) | (with_reducible exact hB.size) | (simp [go_sem]; done) | (have := hB.size; simp [go_sem]; omega))); done)); clear hM hB hb; intro hM hB; (try clear hC); have hC := mem_facts hM; simp at hC))
        go_ret
        exact ⟨by rw [HE.out]; rfl, by (repeat' (first | (with_reducible exact hB) | (with_reducible exact Below.refl _ _) | (with_reducible refine Below.alloc ?_ ?_ _) | (with_reducible refine Below.setCell ?_ ?_ _) | (with_reducible refine Below.drew ?_) | (with_reducible refine below_drewN ?_ _) | (with_reducible exact Nat.le_refl _) | (with_reducible exact hB.size) | (simp [go_sem]; done) | (have := hB.size; simp [go_sem]; omega)))⟩
/-- the greatest number that divides all four -/
def gc4 (m : M) : Nat := Nat.gcd (Nat.gcd m.a.natAbs m.b.natAbs) (Nat.gcd m.c.natAbs m.d.natAbs)
def dbl (m : M) : Int × Int := if gc4 m = 0 then (0, 0) else ((gc4 m : Int), absI (xd m) / (gc4 m : Int))
theorem gcd_le' {x y k : Nat} (hx : x ≤ k) (hy : y ≤ k) : Nat.gcd x y ≤ k := by
  rcases Nat.eq_zero_or_pos x with h | h
  · rw [h, Nat.gcd_zero_left]; exact hy
  · exact Nat.le_trans (Nat.gcd_le_left _ h) hx
theorem dbl_bd {m : M} (h : inB m = true) : (0 ≤ (dbl m).1 ∧ (dbl m).1 ≤ 1000000) ∧ (0 ≤ (dbl m).2 ∧ (dbl m).2 ≤ 2000000000000) := by
  obtain ⟨h1, h2, h3, h4⟩ := inB_iff.1 h
  have hx := (xd_bd h).1
  have h0 := absI_nonneg (xd m)
  have hg : gc4 m ≤ 1000000 := gcd_le' (gcd_le' (by omega) (by omega)) (gcd_le' (by omega) (by omega))
  unfold dbl
  split
  · simp
  · refine ⟨⟨by dsimp only; omega, by dsimp only; omega⟩, Int.ediv_nonneg h0 (by omega), ?_⟩
    exact Int.le_trans (Int.ediv_le_self _ h0) hx
set_option maxHeartbeats 4000000 in
theorem double_ (a b c d : Int) (h : inB ⟨a, b, c, d⟩ = true) (w : World) : Calls Try.prog 51 #[.agg #[.int .i64 a, .int .i64 b, .int .i64 c, .int .i64 d]] w (fun E' W' => E' = .returned (.tuple #[.int .i64 (dbl ⟨a, b, c, d⟩).1, .int .i64 (dbl ⟨a, b, c, d⟩).2]) ∧ Below w.heap.size w W') := by
  obtain ⟨h1, h2, h3, h4⟩ := inB_iff.1 h
  dsimp only at h1 h2 h3 h4
  have ca := fun W => absV_ a (by omega) W
  have cb := fun W => absV_ b (by omega) W
  have cc := fun W => absV_ c (by omega) W
  have cd := fun W => absV_ d (by omega) W
  rw [absI_nat] at ca cb cc cd
  have k1 := mGcd_ a.natAbs b.natAbs (by omega) (by omega)
  have k2 := mGcd_ c.natAbs d.natAbs (by omega) (by omega)
  have g1 := gcd_le' (x := a.natAbs) (y := b.natAbs) (k := 1000000) (by omega) (by omega)
  have g2 := gcd_le' (x := c.natAbs) (y := d.natAbs) (k := 1000000) (by omega) (by omega)
  have HD := Lib.hid (show dbl ⟨a, b, c, d⟩ = if gc4 ⟨a, b, c, d⟩ = 0 then (0, 0) else ((gc4 ⟨a, b, c, d⟩ : Int), absI (xd ⟨a, b, c, d⟩) / (gc4 ⟨a, b, c, d⟩ : Int)) from rfl)
  have hgd : gc4 ⟨a, b, c, d⟩ = Nat.gcd (Nat.gcd a.natAbs b.natAbs) (Nat.gcd c.natAbs d.natAbs) := rfl
  rw [hgd] at HD
  clear hgd
  have cD := fun W => det_ a b c d W
  rw [dt_x h] at cD
  have hX := xd_bd h
  have cX := fun W => absV_ (xd ⟨a, b, c, d⟩) (by omega) W
  have hX0 := absI_nonneg (xd ⟨a, b, c, d⟩)
  have hX1 := hX.1
  clear h1 h2 h3 h4 h hX
  generalize a.natAbs = a1 at *
  generalize b.natAbs = b1 at *
  generalize c.natAbs = c1 at *
  generalize d.natAbs = d1 at *
  generalize Nat.gcd a1 b1 = x at *
  generalize Nat.gcd c1 d1 = y at *
  have k3 := mGcd_ x y (by omega) (by omega)
  generalize Nat.gcd x y = g at *
  generalize absI (xd ⟨a, b, c, d⟩) = X at *
  generalize xd ⟨a, b, c, d⟩ = D at *
  clear g1 g2
  have hM := mem_nil w; have hB := Below.refl w.heap.size w; have hC := True.intro
  go_enter Try.func51, Try.ntmps51
  go_wp2_with fail
  (refine wp_region_T2 (fun W' => (W'.cell? ⟨w.heap.size, 0, none⟩ = some (.int .i64 a) ∧ W'.cell? ⟨w.heap.size, 1, none⟩ = some (.int .i64 b) ∧ W'.cell? ⟨w.heap.size, 2, none⟩ = some (.int .i64 c) ∧ W'.cell? ⟨w.heap.size, 3, none⟩ = some (.int .i64 d))) 100 (by kernel_rfl) ?_ ?_; (focus (simp [*, go_sem]; done)); intro hS)
  (refine wpT_take (i := 0) (oi := ?_) (v := ?_) hS ?_ ?_ ?_ ?_ ?_ ?_; rotate_left 2; (focus (simp only [List.getElem?_toArray, List.getElem?_cons_zero]; exact rfl)); (focus (kernel_rfl)); (focus (rfl)); (focus (intro w' hW; (try dsimp only at hW); go_simp; (try with_reducible rfl); done)); (focus (exact fun _ _ _ h => h)); (try simp only [Act.put, List.setIfInBounds_toArray, List.set_cons_zero, List.set_cons_succ])); (refine wpT_take (i := 1) (oi := ?_) (v := ?_) hS ?_ ?_ ?_ ?_ ?_ ?_; rotate_left 2; (focus (simp only [List.getElem?_toArray, List.getElem?_cons_zero, List.getElem?_cons_succ]; exact rfl)); (focus (kernel_rfl)); (focus (rfl)); (focus (intro w' hW; (try dsimp only at hW); go_simp; (try with_reducible rfl); done)); (focus (exact fun _ _ _ h => h)); (try simp only [Act.put, List.setIfInBounds_toArray, List.set_cons_zero, List.set_cons_succ])); (refine wpT_take (i := 3) (oi := ?_) (v := ?_) hS ?_ ?_ ?_ ?_ ?_ ?_; rotate_left 2; (focus (simp only [List.getElem?_toArray, List.getElem?_cons_zero, List.getElem?_cons_succ]; exact rfl)); (focus (kernel_rfl)); (focus (rfl)); (focus (intro w' hW; (try dsimp only at hW); go_simp; (try with_reducible rfl); done)); (focus (exact fun _ _ _ h => h)); (try simp only [Act.put, List.setIfInBounds_toArray, List.set_cons_zero, List.set_cons_succ])); (refine wpT_take (i := 4) (oi := ?_) (v := ?_) hS ?_ ?_ ?_ ?_ ?_ ?_; rotate_left 2; (focus (simp only [List.getElem?_toArray, List.getElem?_cons_zero, List.getElem?_cons_succ]; exact rfl)); (focus (kernel_rfl)); (focus (rfl)); (focus (intro w' hW; (try dsimp only at hW); go_simp; (try with_reducible rfl); done)); (focus (exact fun _ _ _ h => h)); (try simp only [Act.put, List.setIfInBounds_toArray, List.set_cons_zero, List.set_cons_succ])); (refine wpT_take (i := 7) (oi := ?_) (v := ?_) hS ?_ ?_ ?_ ?_ ?_ ?_; rotate_left 2; (focus (simp only [List.getElem?_toArray, List.getElem?_cons_zero, List.getElem?_cons_succ]; exact rfl)); (focus (kernel_rfl)); (focus (rfl)); (focus (intro w' hW; (try dsimp only at hW); go_simp; (try with_reducible rfl); done)); (focus (exact fun _ _ _ h => h)); (try simp only [Act.put, List.setIfInBounds_toArray, List.set_cons_zero, List.set_cons_succ])); (refine wpT_take (i := 8) (oi := ?_) (v := ?_) hS ?_ ?_ ?_ ?_ ?_ ?_; rotate_left 2; (focus (simp only [List.getElem?_toArray, List.getElem?_cons_zero, List.getElem?_cons_succ]; exact rfl)); (focus (kernel_rfl)); (focus (rfl)); (focus (intro w' hW; (try dsimp only at hW); go_simp; (try with_reducible rfl); done)); (focus (exact fun _ _ _ h => h)); (try simp only [Act.put, List.setIfInBounds_toArray, List.set_cons_zero, List.set_cons_succ])); (refine wpT_take (i := 10) (oi := ?_) (v := ?_) hS ?_ ?_ ?_ ?_ ?_ ?_; rotate_left 2; (focus (simp only [List.getElem?_toArray, List.getElem?_cons_zero, List.getElem?_cons_succ]; exact rfl)); (focus (kernel_rfl)); (focus (rfl)); (focus (intro w' hW; (try dsimp only at hW); go_simp; (try with_reducible rfl); done)); (focus (exact fun _ _ _ h => h)); (try simp only [Act.put, List.setIfInBounds_toArray, List.set_cons_zero, List.set_cons_succ])); (refine wpT_take (i := 11) (oi := ?_) (v := ?_) hS ?_ ?_ ?_ ?_ ?_ ?_; rotate_left 2; (focus (simp only [List.getElem?_toArray, List.getElem?_cons_zero, List.getElem?_cons_succ]; exact rfl)); (focus (kernel_rfl)); (focus (rfl)); (focus (intro w' hW; (try dsimp only at hW); go_simp; (try with_reducible rfl); done)); (focus (exact fun _ _ _ h => h)); (try simp only [Act.put, List.setIfInBounds_toArray, List.set_cons_zero, List.set_cons_succ]))
  (refine wpT_one (i := 2) (oi := ?_) ?_ ?_ ?_ ?_; rotate_left 1; (focus (kernel_rfl)); (focus (simp only [List.getElem?_toArray, List.getElem?_cons_zero, List.getElem?_cons_succ]; exact rfl)); (focus (rfl)); go_simp)
  (go_at_call 71; refine (ca _).mono ?_; rintro e w' ⟨rfl, rfl⟩)
  (first | (with_reducible refine wpT_hold ?_ ?_; (focus (simp [*, go_sem]; done)); clear hS; intro hS; (try dsimp only at hS)) | (refine held_intro ?_ ?_; (focus (simp [*, go_sem]; done)); clear hS; intro hS))
  (refine wpT_one (i := 5) (oi := ?_) ?_ ?_ ?_ ?_; rotate_left 1; (focus (kernel_rfl)); (focus (simp only [List.getElem?_toArray, List.getElem?_cons_zero, List.getElem?_cons_succ]; exact rfl)); (focus (rfl)); go_simp)
  (go_at_call 71; refine (cb _).mono ?_; rintro e w' ⟨rfl, rfl⟩)
  (first | (with_reducible refine wpT_hold ?_ ?_; (focus (simp [*, go_sem]; done)); clear hS; intro hS; (try dsimp only at hS)) | (refine held_intro ?_ ?_; (focus (simp [*, go_sem]; done)); clear hS; intro hS))
  (refine wpT_one (i := 6) (oi := ?_) ?_ ?_ ?_ ?_; rotate_left 1; (focus (kernel_rfl)); (focus (simp only [List.getElem?_toArray, List.getElem?_cons_zero, List.getElem?_cons_succ]; exact rfl)); (focus (rfl)); go_simp)
  (go_at_call 70; refine (k1 _).mono ?_; rintro e w' ⟨rfl, hb⟩; apply after_call (w := w) hb; (focus ((repeat' (first | (with_reducible exact hM) | (with_reducible apply mem_alloc) | (with_reducible apply mem_set) | (with_reducible apply mem_drew) | (with_reducible apply mem_drewN))); done)); (focus ((repeat' (first | (with_reducible exact hB) | (with_reducible exact Below.refl _ _) | (with_reducible refine Below.alloc ?_ ?_ _) | (with_reducible refine Below.setCell ?_ ?_ _) | (with_reducible refine Below.drew ?_) | (with_reducible refine below_drewN ?_ _) | (with_reducible exact Nat.le_refl _) | (with_reducible exact hB.size) | (simp [go_sem]; done) | (have := hB.size; simp [go_sem]; omega))); done)); (focus ((repeat' (first | (with_reducible exact hB) | (with_reducible exact Below.refl _ _) | (with_reducible refine Below.alloc ?_ ?_ _) | (with_reducible refine Below.setCell ?_ ?_ _) | (with_reducible refine Below.drew ?_) | (with_reducible refine below_drewN ?_ _) | (with_reducible exact Nat.le_refl _) | (with_reducible exact hB.size) | (simp [go_sem]; done) | (have := hB.size; simp [go_sem]; omega))); done)); clear hM hB hb; intro hM hB; (try clear hC); have hC := mem_facts hM; simp at hC)
  (first | (with_reducible refine wpT_hold ?_ ?_; (focus (simp [*, go_sem]; done)); clear hS; intro hS; (try dsimp only at hS)) | (refine held_intro ?_ ?_; (focus (simp [*, go_sem]; done)); clear hS; intro hS))
  (refine wpT_one (i := 9) (oi := ?_) ?_ ?_ ?_ ?_; rotate_left 1; (focus (kernel_rfl)); (focus (simp only [List.getElem?_toArray, List.getElem?_cons_zero, List.getElem?_cons_succ]; exact rfl)); (focus (rfl)); go_simp)
  (go_at_call 71; refine (cc _).mono ?_; rintro e w' ⟨rfl, rfl⟩)
  (first | (with_reducible refine wpT_hold ?_ ?_; (focus (simp [*, go_sem]; done)); clear hS; intro hS; (try dsimp only at hS)) | (refine held_intro ?_ ?_; (focus (simp [*, go_sem]; done)); clear hS; intro hS))
  (refine wpT_one (i := 12) (oi := ?_) ?_ ?_ ?_ ?_; rotate_left 1; (focus (kernel_rfl)); (focus (simp only [List.getElem?_toArray, List.getElem?_cons_zero, List.getElem?_cons_succ]; exact rfl)); (focus (rfl)); go_simp)
  (go_at_call 71; refine (cd _).mono ?_; rintro e w' ⟨rfl, rfl⟩)
  (first | (with_reducible refine wpT_hold ?_ ?_; (focus (simp [*, go_sem]; done)); clear hS; intro hS; (try dsimp only at hS)) | (refine held_intro ?_ ?_; (focus (simp [*, go_sem]; done)); clear hS; intro hS))
  (refine wpT_one (i := 13) (oi := ?_) ?_ ?_ ?_ ?_; rotate_left 1; (focus (kernel_rfl)); (focus (simp only [List.getElem?_toArray, List.getElem?_cons_zero, List.getElem?_cons_succ]; exact rfl)); (focus (rfl)); go_simp)
  (go_at_call 70; refine (k2 _).mono ?_; rintro e w' ⟨rfl, hb⟩; apply after_call (w := w) hb; (focus ((repeat' (first | (with_reducible exact hM) | (with_reducible apply mem_alloc) | (with_reducible apply mem_set) | (with_reducible apply mem_drew) | (with_reducible apply mem_drewN))); done)); (focus ((repeat' (first | (with_reducible exact hB) | (with_reducible exact Below.refl _ _) | (with_reducible refine Below.alloc ?_ ?_ _) | (with_reducible refine Below.setCell ?_ ?_ _) | (with_reducible refine Below.drew ?_) | (with_reducible refine below_drewN ?_ _) | (with_reducible exact Nat.le_refl _) | (with_reducible exact hB.size) | (simp [go_sem]; done) | (have := hB.size; simp [go_sem]; omega))); done)); (focus ((repeat' (first | (with_reducible exact hB) | (with_reducible exact Below.refl _ _) | (with_reducible refine Below.alloc ?_ ?_ _) | (with_reducible refine Below.setCell ?_ ?_ _) | (with_reducible refine Below.drew ?_) | (with_reducible refine below_drewN ?_ _) | (with_reducible exact Nat.le_refl _) | (with_reducible exact hB.size) | (simp [go_sem]; done) | (have := hB.size; simp [go_sem]; omega))); done)); clear hM hB hb; intro hM hB; (try clear hC); have hC := mem_facts hM; simp at hC)
  (first | (with_reducible refine wpT_hold ?_ ?_; (focus (simp [*, go_sem]; done)); clear hS; intro hS; (try dsimp only at hS)) | (refine held_intro ?_ ?_; (focus (simp [*, go_sem]; done)); clear hS; intro hS))
  (refine wpT_one (i := 14) (oi := ?_) ?_ ?_ ?_ ?_; rotate_left 1; (focus (kernel_rfl)); (focus (simp only [List.getElem?_toArray, List.getElem?_cons_zero, List.getElem?_cons_succ]; exact rfl)); (focus (rfl)); go_simp)
  (go_at_call 70; refine (k3 _).mono ?_; rintro e w' ⟨rfl, hb⟩; apply after_call (w := w) hb; (focus ((repeat' (first | (with_reducible exact hM) | (with_reducible apply mem_alloc) | (with_reducible apply mem_set) | (with_reducible apply mem_drew) | (with_reducible apply mem_drewN))); done)); (focus ((repeat' (first | (with_reducible exact hB) | (with_reducible exact Below.refl _ _) | (with_reducible refine Below.alloc ?_ ?_ _) | (with_reducible refine Below.setCell ?_ ?_ _) | (with_reducible refine Below.drew ?_) | (with_reducible refine below_drewN ?_ _) | (with_reducible exact Nat.le_refl _) | (with_reducible exact hB.size) | (simp [go_sem]; done) | (have := hB.size; simp [go_sem]; omega))); done)); (focus ((repeat' (first | (with_reducible exact hB) | (with_reducible exact Below.refl _ _) | (with_reducible refine Below.alloc ?_ ?_ _) | (with_reducible refine Below.setCell ?_ ?_ _) | (with_reducible refine Below.drew ?_) | (with_reducible refine below_drewN ?_ _) | (with_reducible exact Nat.le_refl _) | (with_reducible exact hB.size) | (simp [go_sem]; done) | (have := hB.size; simp [go_sem]; omega))); done)); clear hM hB hb; intro hM hB; (try clear hC); have hC := mem_facts hM; simp at hC)
  (first | (with_reducible refine wpT_hold ?_ ?_; (focus (simp [*, go_sem]; done)); clear hS; intro hS; (try dsimp only at hS)) | (refine held_intro ?_ ?_; (focus (simp [*, go_sem]; done)); clear hS; intro hS))
  (refine wpT_take (i := 15) (oi := ?_) (v := ?_) hS ?_ ?_ ?_ ?_ ?_ ?_; rotate_left 2; (focus (simp only [List.getElem?_toArray, List.getElem?_cons_zero, List.getElem?_cons_succ]; exact rfl)); (focus (kernel_rfl)); (focus (rfl)); (focus (intro w' hW; (try dsimp only at hW); go_simp; (try with_reducible rfl); done)); (focus (exact fun _ _ _ h => h)); (try simp only [Act.put, List.setIfInBounds_toArray, List.set_cons_zero, List.set_cons_succ]))
  refine wpT_done (by kernel_rfl) ?_ _
  by_cases hg : g = 0
  · subst hg
    go_wp2_with fail
    go_ret2
    exact ⟨by rw [HD.out]; rfl, by (repeat' (first | (with_reducible exact hB) | (with_reducible exact Below.refl _ _) | (with_reducible refine Below.alloc ?_ ?_ _) | (with_reducible refine Below.setCell ?_ ?_ _) | (with_reducible refine Below.drew ?_) | (with_reducible refine below_drewN ?_ _) | (with_reducible exact Nat.le_refl _) | (with_reducible exact hB.size) | (simp [go_sem]; done) | (have := hB.size; simp [go_sem]; omega)))⟩
  · have hg1 : ((g : Int) == 0) = false := by simp [hg]
    have hg2 : (g = 0) = False := by simp [hg]
    have HQ := Lib.hid (show IntKind.i64.wrap (X.tdiv (g : Int)) = X / (g : Int) by
      rw [Int.tdiv_eq_ediv_of_nonneg hX0, iw]
      have q1 := Int.ediv_nonneg hX0 (show (0 : Int) ≤ (g : Int) by omega)
      have q2 := Int.ediv_le_self (g : Int) hX0
      exact wrap_mid (by omega))
    have HG := Lib.hid hg
    clear hg
    go_wp2_with fail
    (refine wp_region_T2 (fun W' => (W'.cell? ⟨w.heap.size, 0, none⟩ = some (.int .i64 a) ∧ W'.cell? ⟨w.heap.size, 1, none⟩ = some (.int .i64 b) ∧ W'.cell? ⟨w.heap.size, 2, none⟩ = some (.int .i64 c) ∧ W'.cell? ⟨w.heap.size, 3, none⟩ = some (.int .i64 d))) 100 (by kernel_rfl) ?_ ?_; (focus (simp [*, go_sem]; done)); intro hS)
    (refine wpT_take (i := 0) (oi := ?_) (v := ?_) hS ?_ ?_ ?_ ?_ ?_ ?_; rotate_left 2; (focus (simp only [List.getElem?_toArray, List.getElem?_cons_zero]; exact rfl)); (focus (kernel_rfl)); (focus (rfl)); (focus (intro w' hW; (try dsimp only at hW); go_simp; (try with_reducible rfl); done)); (focus (exact fun _ _ _ h => h)); (try simp only [Act.put, List.setIfInBounds_toArray, List.set_cons_zero, List.set_cons_succ])); (refine wpT_take (i := 1) (oi := ?_) (v := ?_) hS ?_ ?_ ?_ ?_ ?_ ?_; rotate_left 2; (focus (simp only [List.getElem?_toArray, List.getElem?_cons_zero, List.getElem?_cons_succ]; exact rfl)); (focus (kernel_rfl)); (focus (rfl)); (focus (intro w' hW; (try dsimp only at hW); go_simp; (try with_reducible rfl); done)); (focus (exact fun _ _ _ h => h)); (try simp only [Act.put, List.setIfInBounds_toArray, List.set_cons_zero, List.set_cons_succ])); (refine wpT_take (i := 4) (oi := ?_) (v := ?_) hS ?_ ?_ ?_ ?_ ?_ ?_; rotate_left 2; (focus (simp only [List.getElem?_toArray, List.getElem?_cons_zero, List.getElem?_cons_succ]; exact rfl)); (focus (kernel_rfl)); (focus (rfl)); (focus (intro w' hW; (try dsimp only at hW); go_simp; (try with_reducible rfl); done)); (focus (exact fun _ _ _ h => h)); (try simp only [Act.put, List.setIfInBounds_toArray, List.set_cons_zero, List.set_cons_succ]))
    (refine wpT_one (i := 2) (oi := ?_) ?_ ?_ ?_ ?_; rotate_left 1; (focus (kernel_rfl)); (focus (simp only [List.getElem?_toArray, List.getElem?_cons_zero, List.getElem?_cons_succ]; exact rfl)); (focus (rfl)); go_simp)
    (go_at_call 38; refine (cD _).mono ?_; rintro e w' ⟨rfl, hb⟩; apply after_call (w := w) hb; (focus ((repeat' (first | (with_reducible exact hM) | (with_reducible apply mem_alloc) | (with_reducible apply mem_set) | (with_reducible apply mem_drew) | (with_reducible apply mem_drewN))); done)); (focus ((repeat' (first | (with_reducible exact hB) | (with_reducible exact Below.refl _ _) | (with_reducible refine Below.alloc ?_ ?_ _) | (with_reducible refine Below.setCell ?_ ?_ _) | (with_reducible refine Below.drew ?_) | (with_reducible refine below_drewN ?_ _) | (with_reducible exact Nat.le_refl _) | (with_reducible exact hB.size) | (simp [go_sem]; done) | (have := hB.size; simp [go_sem]; omega))); done)); (focus ((repeat' (first | (with_reducible exact hB) | (with_reducible exact Below.refl _ _) | (with_reducible refine Below.alloc ?_ ?_ _) | (with_reducible refine Below.setCell ?_ ?_ _) | (with_reducible refine Below.drew ?_) | (with_reducible refine below_drewN ?_ _) | (with_reducible exact Nat.le_refl _) | (with_reducible exact hB.size) | (simp [go_sem]; done) | (have := hB.size; simp [go_sem]; omega))); done)); clear hM hB hb; intro hM hB; (try clear hC); have hC := mem_facts hM; simp at hC)
    (first | (with_reducible refine wpT_hold ?_ ?_; (focus (simp [*, go_sem]; done)); clear hS; intro hS; (try dsimp only at hS)) | (refine held_intro ?_ ?_; (focus (simp [*, go_sem]; done)); clear hS; intro hS))
    (refine wpT_one (i := 3) (oi := ?_) ?_ ?_ ?_ ?_; rotate_left 1; (focus (kernel_rfl)); (focus (simp only [List.getElem?_toArray, List.getElem?_cons_zero, List.getElem?_cons_succ]; exact rfl)); (focus (rfl)); go_simp)
    (go_at_call 71; refine (cX _).mono ?_; rintro e w' ⟨rfl, rfl⟩)
    (first | (with_reducible refine wpT_hold ?_ ?_; (focus (simp [*, go_sem]; done)); clear hS; intro hS; (try dsimp only at hS)) | (refine held_intro ?_ ?_; (focus (simp [*, go_sem]; done)); clear hS; intro hS))
    (refine wpT_take (i := 5) (oi := ?_) (v := ?_) hS ?_ ?_ ?_ ?_ ?_ ?_; rotate_left 2; (focus (simp only [List.getElem?_toArray, List.getElem?_cons_zero, List.getElem?_cons_succ]; exact rfl)); (focus (kernel_rfl)); (focus (rfl)); (focus (intro w' hW; (try dsimp only at hW); go_simp; (try with_reducible rfl); done)); (focus (exact fun _ _ _ h => h)); (try simp only [Act.put, List.setIfInBounds_toArray, List.set_cons_zero, List.set_cons_succ])); (refine wpT_take (i := 6) (oi := ?_) (v := ?_) hS ?_ ?_ ?_ ?_ ?_ ?_; rotate_left 2; (focus (simp only [List.getElem?_toArray, List.getElem?_cons_zero, List.getElem?_cons_succ]; exact rfl)); (focus (kernel_rfl)); (focus (rfl)); (focus (intro w' hW; (try dsimp only at hW); go_simp; (try with_reducible rfl); done)); (focus (exact fun _ _ _ h => h)); (try simp only [Act.put, List.setIfInBounds_toArray, List.set_cons_zero, List.set_cons_succ])); (refine wpT_take (i := 7) (oi := ?_) (v := ?_) hS ?_ ?_ ?_ ?_ ?_ ?_; rotate_left 2; (focus (simp only [List.getElem?_toArray, List.getElem?_cons_zero, List.getElem?_cons_succ]; exact rfl)); (focus (kernel_rfl)); (focus (rfl)); (focus (intro w' hW; (try dsimp only at hW); go_simp; (try with_reducible rfl); done)); (focus (exact fun _ _ _ h => h)); (try simp only [Act.put, List.setIfInBounds_toArray, List.set_cons_zero, List.set_cons_succ]))
    refine wpT_done (by kernel_rfl) ?_ _
    go_wp2_with fail
    go_ret2
    exact ⟨by rw [HD.out, if_neg HG.out, ← HQ.out]; rfl, by (repeat' (first | (with_reducible exact hB) | (with_reducible exact Below.refl _ _) | (with_reducible refine Below.alloc ?_ ?_ _) | (with_reducible refine Below.setCell ?_ ?_ _) | (with_reducible refine Below.drew ?_) | (with_reducible refine below_drewN ?_ _) | (with_reducible exact Nat.le_refl _) | (with_reducible exact hB.size) | (simp [go_sem]; done) | (have := hB.size; simp [go_sem]; omega)))⟩
end Go.Proofs.Ytcnhjnmnflehhaa


/- The program's first pairs and moves of points, walked. No condition. -/
import Derived.Test.YthblmkpannfbaaaMoF
namespace Go.Proofs.Ythblmkpannfbaaa
open Go.RowKit

/-- what RestPoint tells -/
def mPt (n x y : Int) : (Int × Int) × Bool := if mdB n && ptB n x y then ((((fstP n.toNat x.toNat y.toNat).1 : Nat), ((fstP n.toNat x.toNat y.toNat).2 : Nat)), true) else ((0, 0), false)
theorem ptB_nat {n x y : Int} (h : ptB n x y = true) : ∃ x' y' : Nat, x = x' ∧ y = y' ∧ (x' : Int) < n ∧ (y' : Int) < n := by
  simp only [ptB, Bool.and_eq_true, rsB_iff] at h
  obtain ⟨⟨⟨h1, h2⟩, h3, h4⟩, _⟩ := h
  exact ⟨x.toNat, y.toNat, by omega, by omega, by omega, by omega⟩
theorem RestPoint_ (n x y : Int) (w : World) : Calls Try.prog 17 #[.int .i64 n, .int .i64 x, .int .i64 y] w (fun E' W' => E' = .returned (.tuple #[.int .i64 (mPt n x y).1.1, .int .i64 (mPt n x y).1.2, .bool (mPt n x y).2]) ∧ Below w.heap.size w W') := by
  cases h1 : mdB n
  · have HR := Lib.hid (show mPt n x y = ((0, 0), false) by simp [mPt, h1])
    have hM := mem_nil w; have hB := Below.refl w.heap.size w; have hC := True.intro
    go_enter Try.func17, Try.ntmps17
    go_wp2_with (go_at_call 26; refine (mIn_ _ _).mono ?_; rintro e w' ⟨rfl, rfl⟩)
    go_ret3
    exact ⟨by rw [HR.out]; rfl, by (repeat' (first | (with_reducible exact hB) | (with_reducible exact Below.refl _ _) | (with_reducible refine Below.alloc ?_ ?_ _) | (with_reducible refine Below.setCell ?_ ?_ _) | (with_reducible refine Below.drew ?_) | (with_reducible refine below_drewN ?_ _) | (with_reducible exact Nat.le_refl _) | (with_reducible exact hB.size) | (simp [go_sem]; done) | (have := hB.size; simp [go_sem]; omega)))⟩
  · obtain ⟨k, rfl, hk1, hk2⟩ := mdB_nat h1
    have cP := fun W => mPoint_ k x y ⟨hk1, hk2⟩ W
    cases h2 : ptB k x y
    · have HR := Lib.hid (show mPt k x y = ((0, 0), false) by simp [mPt, h2])
      rw [h2] at cP
      have hM := mem_nil w; have hB := Below.refl w.heap.size w; have hC := True.intro
      go_enter Try.func17, Try.ntmps17
      go_wp2_with (first | (go_at_call 26; refine (mIn_ _ _).mono ?_; rintro e w' ⟨rfl, rfl⟩) | (go_at_call 41; refine (cP _).mono ?_; rintro e w' ⟨rfl, hb⟩; apply after_call (w := w) hb; (focus ((repeat' (first | (with_reducible exact hM) | (with_reducible apply mem_alloc) | (with_reducible apply mem_set) | (with_reducible apply mem_drew) | (with_reducible apply mem_drewN))); done)); (focus ((repeat' (first | (with_reducible exact hB) | (with_reducible exact Below.refl _ _) | (with_reducible refine Below.alloc ?_ ?_ _) | (with_reducible refine Below.setCell ?_ ?_ _) | (with_reducible refine Below.drew ?_) | (with_reducible refine below_drewN ?_ _) | (with_reducible exact Nat.le_refl _) | (with_reducible exact hB.size) | (simp [go_sem]; done) | (have := hB.size; simp [go_sem]; omega))); done)); (focus ((repeat' (first | (with_reducible exact hB) | (with_reducible exact Below.refl _ _) | (with_reducible refine Below.alloc ?_ ?_ _) | (with_reducible refine Below.setCell ?_ ?_ _) | (with_reducible refine Below.drew ?_) | (with_reducible refine below_drewN ?_ _) | (with_reducible exact Nat.le_refl _) | (with_reducible exact hB.size) | (simp [go_sem]; done) | (have := hB.size; simp [go_sem]; omega))); done)); clear hM hB hb; intro hM hB; (try clear hC); have hC := mem_facts hM; simp at hC))
      go_ret3
      exact ⟨by rw [HR.out]; rfl, by (repeat' (first | (with_reducible exact hB) | (with_reducible exact Below.refl _ _) | (with_reducible refine Below.alloc ?_ ?_ _) | (with_reducible refine Below.setCell ?_ ?_ _) | (with_reducible refine Below.drew ?_) | (with_reducible refine below_drewN ?_ _) | (with_reducible exact Nat.le_refl _) | (with_reducible exact hB.size) | (simp [go_sem]; done) | (have := hB.size; simp [go_sem]; omega)))⟩
    · obtain ⟨x, y, rfl, rfl, hx, hy⟩ := ptB_nat h2
      have cF := fun W => first_ k x y ⟨hk1, hk2⟩ (by omega) (by omega) W
      have HR := Lib.hid (show mPt k x y = (((((fstP k x y).1 : Nat) : Int), (((fstP k x y).2 : Nat) : Int)), true) by simp [mPt, h1, h2])
      rw [h2] at cP
      generalize fstP k x y = q at *
      obtain ⟨u, v⟩ := q
      dsimp only at cF
      have hM := mem_nil w; have hB := Below.refl w.heap.size w; have hC := True.intro
      go_enter Try.func17, Try.ntmps17
      go_wp2_with (first | (go_at_call 26; refine (mIn_ _ _).mono ?_; rintro e w' ⟨rfl, rfl⟩) | (go_at_call 41; refine (cP _).mono ?_; rintro e w' ⟨rfl, hb⟩; apply after_call (w := w) hb; (focus ((repeat' (first | (with_reducible exact hM) | (with_reducible apply mem_alloc) | (with_reducible apply mem_set) | (with_reducible apply mem_drew) | (with_reducible apply mem_drewN))); done)); (focus ((repeat' (first | (with_reducible exact hB) | (with_reducible exact Below.refl _ _) | (with_reducible refine Below.alloc ?_ ?_ _) | (with_reducible refine Below.setCell ?_ ?_ _) | (with_reducible refine Below.drew ?_) | (with_reducible refine below_drewN ?_ _) | (with_reducible exact Nat.le_refl _) | (with_reducible exact hB.size) | (simp [go_sem]; done) | (have := hB.size; simp [go_sem]; omega))); done)); (focus ((repeat' (first | (with_reducible exact hB) | (with_reducible exact Below.refl _ _) | (with_reducible refine Below.alloc ?_ ?_ _) | (with_reducible refine Below.setCell ?_ ?_ _) | (with_reducible refine Below.drew ?_) | (with_reducible refine below_drewN ?_ _) | (with_reducible exact Nat.le_refl _) | (with_reducible exact hB.size) | (simp [go_sem]; done) | (have := hB.size; simp [go_sem]; omega))); done)); clear hM hB hb; intro hM hB; (try clear hC); have hC := mem_facts hM; simp at hC) | (go_at_call 42; refine (cF _).mono ?_; rintro e w' ⟨rfl, hb⟩; apply after_call (w := w) hb; (focus ((repeat' (first | (with_reducible exact hM) | (with_reducible apply mem_alloc) | (with_reducible apply mem_set) | (with_reducible apply mem_drew) | (with_reducible apply mem_drewN))); done)); (focus ((repeat' (first | (with_reducible exact hB) | (with_reducible exact Below.refl _ _) | (with_reducible refine Below.alloc ?_ ?_ _) | (with_reducible refine Below.setCell ?_ ?_ _) | (with_reducible refine Below.drew ?_) | (with_reducible refine below_drewN ?_ _) | (with_reducible exact Nat.le_refl _) | (with_reducible exact hB.size) | (simp [go_sem]; done) | (have := hB.size; simp [go_sem]; omega))); done)); (focus ((repeat' (first | (with_reducible exact hB) | (with_reducible exact Below.refl _ _) | (with_reducible refine Below.alloc ?_ ?_ _) | (with_reducible refine Below.setCell ?_ ?_ _) | (with_reducible refine Below.drew ?_) | (with_reducible refine below_drewN ?_ _) | (with_reducible exact Nat.le_refl _) | (with_reducible exact hB.size) | (simp [go_sem]; done) | (have := hB.size; simp [go_sem]; omega))); done)); clear hM hB hb; intro hM hB; (try clear hC); have hC := mem_facts hM; simp at hC))
      go_quiet (fail)
      go_wp2
      go_ret3
      exact ⟨by rw [HR.out]; rfl, by (repeat' (first | (with_reducible exact hB) | (with_reducible exact Below.refl _ _) | (with_reducible refine Below.alloc ?_ ?_ _) | (with_reducible refine Below.setCell ?_ ?_ _) | (with_reducible refine Below.drew ?_) | (with_reducible refine below_drewN ?_ _) | (with_reducible exact Nat.le_refl _) | (with_reducible exact hB.size) | (simp [go_sem]; done) | (have := hB.size; simp [go_sem]; omega)))⟩
/-- where a point is led -/
def ldX (m : M) (x y : Int) : Int := m.a * x + m.b * y
def ldY (m : M) (x y : Int) : Int := m.c * x + m.d * y
def ledP (k : Nat) (m : M) (x y : Nat) : Nat × Nat := fstP k (ldX m x y % k).toNat (ldY m x y % k).toNat
theorem mv_ld {k : Nat} {m : M} {x y : Nat} (hk : 2 ≤ k ∧ k ≤ 12) (h : rbM k m = true) (hx : x ≤ 12) (hy : y ≤ 12) : mv1 m x y = ldX m x y ∧ mv2 m x y = ldY m x y ∧
    -1000 ≤ ldX m x y ∧ ldX m x y ≤ 1000 ∧ -1000 ≤ ldY m x y ∧ ldY m x y ≤ 1000 := by
  obtain ⟨k1, k2, k3, k4⟩ := rbM_iff.1 h
  have e1 := mul_bd (x := m.a) (y := x) (a := 12) (b := 12) ⟨by omega, by omega⟩ ⟨by omega, by omega⟩
  have e2 := mul_bd (x := m.b) (y := y) (a := 12) (b := 12) ⟨by omega, by omega⟩ ⟨by omega, by omega⟩
  have e3 := mul_bd (x := m.c) (y := x) (a := 12) (b := 12) ⟨by omega, by omega⟩ ⟨by omega, by omega⟩
  have e4 := mul_bd (x := m.d) (y := y) (a := 12) (b := 12) ⟨by omega, by omega⟩ ⟨by omega, by omega⟩
  simp only [mv1, mv2, ldX, ldY]
  rw [wrap_mid (x := m.a * x) (by omega), wrap_mid (x := m.b * y) (by omega), wrap_mid (x := m.c * x) (by omega), wrap_mid (x := m.d * y) (by omega), wrap_mid (by omega), wrap_mid (by omega)]
  exact ⟨rfl, rfl, by omega, by omega, by omega, by omega⟩
set_option maxHeartbeats 1000000 in
theorem led_ (k : Nat) (a b c d : Int) (x y : Nat) (hk : 2 ≤ k ∧ k ≤ 12) (h : rbM k ⟨a, b, c, d⟩ = true) (hx : x ≤ 12) (hy : y ≤ 12) (w : World) :
    Calls Try.prog 46 #[.int .i64 k, .agg #[.int .i64 a, .int .i64 b, .int .i64 c, .int .i64 d], .agg #[.int .i64 x, .int .i64 y]] w (fun E' W' => E' = .returned (.agg #[.int .i64 (ledP k ⟨a, b, c, d⟩ x y).1, .int .i64 (ledP k ⟨a, b, c, d⟩ x y).2]) ∧ Below w.heap.size w W') := by
  have hk' : mdB k = true := mdB_iff.2 ⟨by omega, by omega⟩
  obtain ⟨e1, e2, _, _, _, _⟩ := mv_ld hk h hx hy
  have cM := fun W => move_ a b c d x y W
  rw [e1, e2] at cM
  have HR := Lib.hid (show ledP k ⟨a, b, c, d⟩ x y = fstP k (ldX ⟨a, b, c, d⟩ x y % k).toNat (ldY ⟨a, b, c, d⟩ x y % k).toNat from rfl)
  generalize ledP k ⟨a, b, c, d⟩ x y = R at *
  generalize ldX ⟨a, b, c, d⟩ x y = X at *
  generalize ldY ⟨a, b, c, d⟩ x y = Y at *
  have b1 := rs_bd (x := X) (mdB_iff.1 hk').1
  have b2 := rs_bd (x := Y) (mdB_iff.1 hk').1
  have c1 := fun W => mRest_ k X hk' W
  have c2 := fun W => mRest_ k Y hk' W
  obtain ⟨X', hX⟩ : ∃ X' : Nat, X % k = X' := ⟨(X % k).toNat, by omega⟩
  obtain ⟨Y', hY⟩ : ∃ Y' : Nat, Y % k = Y' := ⟨(Y % k).toNat, by omega⟩
  rw [hX, hY] at HR
  rw [hX] at b1 c1
  rw [hY] at b2 c2
  have cF := fun W => first_ k X' Y' hk (by omega) (by omega) W
  rw [show (((X' : Nat) : Int)).toNat = X' by omega, show (((Y' : Nat) : Int)).toNat = Y' by omega] at HR
  generalize fstP k X' Y' = q at *
  obtain ⟨u, v⟩ := q
  obtain ⟨r, s⟩ := R
  obtain ⟨rfl, rfl⟩ := Prod.mk.inj HR.out
  clear HR e1 e2 hX hY
  have hM := mem_nil w; have hB := Below.refl w.heap.size w; have hC := True.intro
  go_enter Try.func46, Try.ntmps46
  go_wp2_with (first | (go_at_call 58; refine (cM _).mono ?_; rintro e w' ⟨rfl, hb⟩; apply after_call (w := w) hb; (focus ((repeat' (first | (with_reducible exact hM) | (with_reducible apply mem_alloc) | (with_reducible apply mem_set) | (with_reducible apply mem_drew) | (with_reducible apply mem_drewN))); done)); (focus ((repeat' (first | (with_reducible exact hB) | (with_reducible exact Below.refl _ _) | (with_reducible refine Below.alloc ?_ ?_ _) | (with_reducible refine Below.setCell ?_ ?_ _) | (with_reducible refine Below.drew ?_) | (with_reducible refine below_drewN ?_ _) | (with_reducible exact Nat.le_refl _) | (with_reducible exact hB.size) | (simp [go_sem]; done) | (have := hB.size; simp [go_sem]; omega))); done)); (focus ((repeat' (first | (with_reducible exact hB) | (with_reducible exact Below.refl _ _) | (with_reducible refine Below.alloc ?_ ?_ _) | (with_reducible refine Below.setCell ?_ ?_ _) | (with_reducible refine Below.drew ?_) | (with_reducible refine below_drewN ?_ _) | (with_reducible exact Nat.le_refl _) | (with_reducible exact hB.size) | (simp [go_sem]; done) | (have := hB.size; simp [go_sem]; omega))); done)); clear hM hB hb; intro hM hB; (try clear hC); have hC := mem_facts hM; simp at hC) | ((go_at_call 50; refine (c1 _).mono ?_; rintro e w' ⟨rfl, rfl⟩); clear c1) | (go_at_call 50; refine (c2 _).mono ?_; rintro e w' ⟨rfl, rfl⟩) | (go_at_call 42; refine (cF _).mono ?_; rintro e w' ⟨rfl, hb⟩; apply after_call (w := w) hb; (focus ((repeat' (first | (with_reducible exact hM) | (with_reducible apply mem_alloc) | (with_reducible apply mem_set) | (with_reducible apply mem_drew) | (with_reducible apply mem_drewN))); done)); (focus ((repeat' (first | (with_reducible exact hB) | (with_reducible exact Below.refl _ _) | (with_reducible refine Below.alloc ?_ ?_ _) | (with_reducible refine Below.setCell ?_ ?_ _) | (with_reducible refine Below.drew ?_) | (with_reducible refine below_drewN ?_ _) | (with_reducible exact Nat.le_refl _) | (with_reducible exact hB.size) | (simp [go_sem]; done) | (have := hB.size; simp [go_sem]; omega))); done)); (focus ((repeat' (first | (with_reducible exact hB) | (with_reducible exact Below.refl _ _) | (with_reducible refine Below.alloc ?_ ?_ _) | (with_reducible refine Below.setCell ?_ ?_ _) | (with_reducible refine Below.drew ?_) | (with_reducible refine below_drewN ?_ _) | (with_reducible exact Nat.le_refl _) | (with_reducible exact hB.size) | (simp [go_sem]; done) | (have := hB.size; simp [go_sem]; omega))); done)); clear hM hB hb; intro hM hB; (try clear hC); have hC := mem_facts hM; simp at hC))
  refine bodyPost_ret (by (simp [results, Try.results46, go_sem, *]; try rfl)) rfl ?_
  exact ⟨rfl, by (repeat' (first | (with_reducible exact hB) | (with_reducible exact Below.refl _ _) | (with_reducible refine Below.alloc ?_ ?_ _) | (with_reducible refine Below.setCell ?_ ?_ _) | (with_reducible refine Below.drew ?_) | (with_reducible refine below_drewN ?_ _) | (with_reducible exact Nat.le_refl _) | (with_reducible exact hB.size) | (simp [go_sem]; done) | (have := hB.size; simp [go_sem]; omega)))⟩
/-- what RestMove tells -/
def mMv (m : M) (n x y : Int) : (Int × Int) × Bool := if mRestEven m n && ptB n x y then ((((ledP n.toNat m x.toNat y.toNat).1 : Nat), ((ledP n.toNat m x.toNat y.toNat).2 : Nat)), true) else ((0, 0), false)
theorem RestMove_ (a b c d n x y : Int) (w : World) : Calls Try.prog 20 #[.agg #[.int .i64 a, .int .i64 b, .int .i64 c, .int .i64 d], .int .i64 n, .int .i64 x, .int .i64 y] w (fun E' W' => E' = .returned (.tuple #[.int .i64 (mMv ⟨a, b, c, d⟩ n x y).1.1, .int .i64 (mMv ⟨a, b, c, d⟩ n x y).1.2, .bool (mMv ⟨a, b, c, d⟩ n x y).2]) ∧ Below w.heap.size w W') := by
  cases h1 : mRestEven ⟨a, b, c, d⟩ n
  · have HR := Lib.hid (show mMv ⟨a, b, c, d⟩ n x y = ((0, 0), false) by simp [mMv, h1])
    have hM := mem_nil w; have hB := Below.refl w.heap.size w; have hC := True.intro
    go_enter Try.func20, Try.ntmps20
    go_wp2_with (go_at_call 11; refine (RestEven_ _ _ _ _ _ _).mono ?_; rintro e w' ⟨rfl, hb⟩; apply after_call (w := w) hb; (focus ((repeat' (first | (with_reducible exact hM) | (with_reducible apply mem_alloc) | (with_reducible apply mem_set) | (with_reducible apply mem_drew) | (with_reducible apply mem_drewN))); done)); (focus ((repeat' (first | (with_reducible exact hB) | (with_reducible exact Below.refl _ _) | (with_reducible refine Below.alloc ?_ ?_ _) | (with_reducible refine Below.setCell ?_ ?_ _) | (with_reducible refine Below.drew ?_) | (with_reducible refine below_drewN ?_ _) | (with_reducible exact Nat.le_refl _) | (with_reducible exact hB.size) | (simp [go_sem]; done) | (have := hB.size; simp [go_sem]; omega))); done)); (focus ((repeat' (first | (with_reducible exact hB) | (with_reducible exact Below.refl _ _) | (with_reducible refine Below.alloc ?_ ?_ _) | (with_reducible refine Below.setCell ?_ ?_ _) | (with_reducible refine Below.drew ?_) | (with_reducible refine below_drewN ?_ _) | (with_reducible exact Nat.le_refl _) | (with_reducible exact hB.size) | (simp [go_sem]; done) | (have := hB.size; simp [go_sem]; omega))); done)); clear hM hB hb; intro hM hB; (try clear hC); have hC := mem_facts hM; simp at hC)
    go_ret3
    exact ⟨by rw [HR.out]; rfl, by (repeat' (first | (with_reducible exact hB) | (with_reducible exact Below.refl _ _) | (with_reducible refine Below.alloc ?_ ?_ _) | (with_reducible refine Below.setCell ?_ ?_ _) | (with_reducible refine Below.drew ?_) | (with_reducible refine below_drewN ?_ _) | (with_reducible exact Nat.le_refl _) | (with_reducible exact hB.size) | (simp [go_sem]; done) | (have := hB.size; simp [go_sem]; omega)))⟩
  · have h1' := h1
    simp only [mRestEven, reB, Bool.and_eq_true] at h1'
    obtain ⟨k, rfl, hk1, hk2⟩ := mdB_nat h1'.1
    have cP := fun W => mPoint_ k x y ⟨hk1, hk2⟩ W
    cases h2 : ptB k x y
    · have HR := Lib.hid (show mMv ⟨a, b, c, d⟩ k x y = ((0, 0), false) by simp [mMv, h2])
      rw [h2] at cP
      clear h1'
      have hM := mem_nil w; have hB := Below.refl w.heap.size w; have hC := True.intro
      go_enter Try.func20, Try.ntmps20
      go_wp2_with (first | (go_at_call 11; refine (RestEven_ _ _ _ _ _ _).mono ?_; rintro e w' ⟨rfl, hb⟩; apply after_call (w := w) hb; (focus ((repeat' (first | (with_reducible exact hM) | (with_reducible apply mem_alloc) | (with_reducible apply mem_set) | (with_reducible apply mem_drew) | (with_reducible apply mem_drewN))); done)); (focus ((repeat' (first | (with_reducible exact hB) | (with_reducible exact Below.refl _ _) | (with_reducible refine Below.alloc ?_ ?_ _) | (with_reducible refine Below.setCell ?_ ?_ _) | (with_reducible refine Below.drew ?_) | (with_reducible refine below_drewN ?_ _) | (with_reducible exact Nat.le_refl _) | (with_reducible exact hB.size) | (simp [go_sem]; done) | (have := hB.size; simp [go_sem]; omega))); done)); (focus ((repeat' (first | (with_reducible exact hB) | (with_reducible exact Below.refl _ _) | (with_reducible refine Below.alloc ?_ ?_ _) | (with_reducible refine Below.setCell ?_ ?_ _) | (with_reducible refine Below.drew ?_) | (with_reducible refine below_drewN ?_ _) | (with_reducible exact Nat.le_refl _) | (with_reducible exact hB.size) | (simp [go_sem]; done) | (have := hB.size; simp [go_sem]; omega))); done)); clear hM hB hb; intro hM hB; (try clear hC); have hC := mem_facts hM; simp at hC) | (go_at_call 41; refine (cP _).mono ?_; rintro e w' ⟨rfl, hb⟩; apply after_call (w := w) hb; (focus ((repeat' (first | (with_reducible exact hM) | (with_reducible apply mem_alloc) | (with_reducible apply mem_set) | (with_reducible apply mem_drew) | (with_reducible apply mem_drewN))); done)); (focus ((repeat' (first | (with_reducible exact hB) | (with_reducible exact Below.refl _ _) | (with_reducible refine Below.alloc ?_ ?_ _) | (with_reducible refine Below.setCell ?_ ?_ _) | (with_reducible refine Below.drew ?_) | (with_reducible refine below_drewN ?_ _) | (with_reducible exact Nat.le_refl _) | (with_reducible exact hB.size) | (simp [go_sem]; done) | (have := hB.size; simp [go_sem]; omega))); done)); (focus ((repeat' (first | (with_reducible exact hB) | (with_reducible exact Below.refl _ _) | (with_reducible refine Below.alloc ?_ ?_ _) | (with_reducible refine Below.setCell ?_ ?_ _) | (with_reducible refine Below.drew ?_) | (with_reducible refine below_drewN ?_ _) | (with_reducible exact Nat.le_refl _) | (with_reducible exact hB.size) | (simp [go_sem]; done) | (have := hB.size; simp [go_sem]; omega))); done)); clear hM hB hb; intro hM hB; (try clear hC); have hC := mem_facts hM; simp at hC))
      go_ret3
      exact ⟨by rw [HR.out]; rfl, by (repeat' (first | (with_reducible exact hB) | (with_reducible exact Below.refl _ _) | (with_reducible refine Below.alloc ?_ ?_ _) | (with_reducible refine Below.setCell ?_ ?_ _) | (with_reducible refine Below.drew ?_) | (with_reducible refine below_drewN ?_ _) | (with_reducible exact Nat.le_refl _) | (with_reducible exact hB.size) | (simp [go_sem]; done) | (have := hB.size; simp [go_sem]; omega)))⟩
    · obtain ⟨x, y, rfl, rfl, hx, hy⟩ := ptB_nat h2
      have cF := fun W => led_ k a b c d x y ⟨hk1, hk2⟩ h1'.2.1 (by omega) (by omega) W
      have HR := Lib.hid (show mMv ⟨a, b, c, d⟩ k x y = (((((ledP k ⟨a, b, c, d⟩ x y).1 : Nat) : Int), (((ledP k ⟨a, b, c, d⟩ x y).2 : Nat) : Int)), true) by simp [mMv, h1, h2])
      rw [h2] at cP
      clear h1'
      generalize ledP k ⟨a, b, c, d⟩ x y = q at *
      obtain ⟨u, v⟩ := q
      dsimp only at cF
      have hM := mem_nil w; have hB := Below.refl w.heap.size w; have hC := True.intro
      go_enter Try.func20, Try.ntmps20
      go_wp2_with (first | (go_at_call 11; refine (RestEven_ _ _ _ _ _ _).mono ?_; rintro e w' ⟨rfl, hb⟩; apply after_call (w := w) hb; (focus ((repeat' (first | (with_reducible exact hM) | (with_reducible apply mem_alloc) | (with_reducible apply mem_set) | (with_reducible apply mem_drew) | (with_reducible apply mem_drewN))); done)); (focus ((repeat' (first | (with_reducible exact hB) | (with_reducible exact Below.refl _ _) | (with_reducible refine Below.alloc ?_ ?_ _) | (with_reducible refine Below.setCell ?_ ?_ _) | (with_reducible refine Below.drew ?_) | (with_reducible refine below_drewN ?_ _) | (with_reducible exact Nat.le_refl _) | (with_reducible exact hB.size) | (simp [go_sem]; done) | (have := hB.size; simp [go_sem]; omega))); done)); (focus ((repeat' (first | (with_reducible exact hB) | (with_reducible exact Below.refl _ _) | (with_reducible refine Below.alloc ?_ ?_ _) | (with_reducible refine Below.setCell ?_ ?_ _) | (with_reducible refine Below.drew ?_) | (with_reducible refine below_drewN ?_ _) | (with_reducible exact Nat.le_refl _) | (with_reducible exact hB.size) | (simp [go_sem]; done) | (have := hB.size; simp [go_sem]; omega))); done)); clear hM hB hb; intro hM hB; (try clear hC); have hC := mem_facts hM; simp at hC) | (go_at_call 41; refine (cP _).mono ?_; rintro e w' ⟨rfl, hb⟩; apply after_call (w := w) hb; (focus ((repeat' (first | (with_reducible exact hM) | (with_reducible apply mem_alloc) | (with_reducible apply mem_set) | (with_reducible apply mem_drew) | (with_reducible apply mem_drewN))); done)); (focus ((repeat' (first | (with_reducible exact hB) | (with_reducible exact Below.refl _ _) | (with_reducible refine Below.alloc ?_ ?_ _) | (with_reducible refine Below.setCell ?_ ?_ _) | (with_reducible refine Below.drew ?_) | (with_reducible refine below_drewN ?_ _) | (with_reducible exact Nat.le_refl _) | (with_reducible exact hB.size) | (simp [go_sem]; done) | (have := hB.size; simp [go_sem]; omega))); done)); (focus ((repeat' (first | (with_reducible exact hB) | (with_reducible exact Below.refl _ _) | (with_reducible refine Below.alloc ?_ ?_ _) | (with_reducible refine Below.setCell ?_ ?_ _) | (with_reducible refine Below.drew ?_) | (with_reducible refine below_drewN ?_ _) | (with_reducible exact Nat.le_refl _) | (with_reducible exact hB.size) | (simp [go_sem]; done) | (have := hB.size; simp [go_sem]; omega))); done)); clear hM hB hb; intro hM hB; (try clear hC); have hC := mem_facts hM; simp at hC) | (go_at_call 46; refine (cF _).mono ?_; rintro e w' ⟨rfl, hb⟩; apply after_call (w := w) hb; (focus ((repeat' (first | (with_reducible exact hM) | (with_reducible apply mem_alloc) | (with_reducible apply mem_set) | (with_reducible apply mem_drew) | (with_reducible apply mem_drewN))); done)); (focus ((repeat' (first | (with_reducible exact hB) | (with_reducible exact Below.refl _ _) | (with_reducible refine Below.alloc ?_ ?_ _) | (with_reducible refine Below.setCell ?_ ?_ _) | (with_reducible refine Below.drew ?_) | (with_reducible refine below_drewN ?_ _) | (with_reducible exact Nat.le_refl _) | (with_reducible exact hB.size) | (simp [go_sem]; done) | (have := hB.size; simp [go_sem]; omega))); done)); (focus ((repeat' (first | (with_reducible exact hB) | (with_reducible exact Below.refl _ _) | (with_reducible refine Below.alloc ?_ ?_ _) | (with_reducible refine Below.setCell ?_ ?_ _) | (with_reducible refine Below.drew ?_) | (with_reducible refine below_drewN ?_ _) | (with_reducible exact Nat.le_refl _) | (with_reducible exact hB.size) | (simp [go_sem]; done) | (have := hB.size; simp [go_sem]; omega))); done)); clear hM hB hb; intro hM hB; (try clear hC); have hC := mem_facts hM; simp at hC))
      go_quiet (fail)
      go_wp2
      go_ret3
      exact ⟨by rw [HR.out]; rfl, by (repeat' (first | (with_reducible exact hB) | (with_reducible exact Below.refl _ _) | (with_reducible refine Below.alloc ?_ ?_ _) | (with_reducible refine Below.setCell ?_ ?_ _) | (with_reducible refine Below.drew ?_) | (with_reducible refine below_drewN ?_ _) | (with_reducible exact Nat.le_refl _) | (with_reducible exact hB.size) | (simp [go_sem]; done) | (have := hB.size; simp [go_sem]; omega)))⟩
end Go.Proofs.Ythblmkpannfbaaa

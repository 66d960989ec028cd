
/- Orders of even rest matrices, walked. No condition. -/
import Derived.Test.YtkallllpjkkhhaaMoT
import Derived.Test.YtkallllpjkkhhaaMoO
namespace Go.Proofs.Ytkallllpjkkhhaa
open Go.RowKit

theorem mem_sub {w : World} {L L' : List (Nat × Array Value × TypeId)} (h : Mem w L) (e : List.Sublist L' L) : Mem w L' :=
  ⟨fun p hp => h.1 p (e.subset hp), h.2.sublist e⟩
def ordM (k a b c d : Nat) : Nat := ordN k a b c d 40 a b c d 1
theorem reB_nat {k a b c d : Nat} (h : reB k (nM a b c d) = true) : a < k ∧ b < k ∧ c < k ∧ d < k ∧ (a * d + k * k - b * c) % k = 1 := by
  simp only [reB, Bool.and_eq_true, beq_iff_eq] at h
  obtain ⟨h1, h2⟩ := h
  obtain ⟨k1, k2, k3, k4⟩ := rbM_iff.1 h1
  simp only [nM] at k1 k2 k3 k4
  refine ⟨by omega, by omega, by omega, by omega, ?_⟩
  have hbc : b * c ≤ k * k := Nat.mul_le_mul (by omega) (by omega)
  have e : ((a * d + k * k - b * c : Nat) : Int) = xd (nM a b c d) + k * k := by
    rw [Int.ofNat_sub (by omega)]
    simp only [xd, nM]
    push_cast
    omega
  have : ((((a * d + k * k - b * c) % k : Nat)) : Int) = 1 := by
    rw [Int.natCast_emod, e, Int.add_mul_emod_self_left, h2]
  omega
theorem ordM_ok {k a b c d : Nat} (hk : 2 ≤ k ∧ k ≤ 12) (h : reB k (nM a b c d) = true) : 0 < ordM k a b c d ∧ cntT k % ordM k a b c d = 0 := by
  obtain ⟨h1, h2, h3, h4, h5⟩ := reB_nat h
  have := okO_all hk
  simp only [okO, List.all_eq_true, List.mem_range] at this
  have := this a h1 b h2 c h3 d h4
  simp only [h5, beq_self_eq_true, Bool.not_true, Bool.false_or, Bool.and_eq_true, beq_iff_eq, Nat.blt_eq] at this
  exact this
theorem ord_stop {k a b c d n o : Nat} (h : ordN k a b c d (41 - n) 1 0 0 1 n = o) (ho : 0 < o) : o = n := by
  cases e : 41 - n with
  | zero => rw [e] at h; simp only [ordN] at h; omega
  | succ f => rw [e] at h; simp [ordN] at h; omega
theorem ord_step {k a b c d x y z t n o : Nat} (h : ordN k a b c d (41 - n) x y z t n = o) (ho : 0 < o) (hne : ¬ ((x : Int) = 1 ∧ (y : Int) = 0 ∧ (z : Int) = 0 ∧ (t : Int) = 1)) :
    n < 41 ∧ ordN k a b c d (41 - (n + 1)) ((x * a + y * c) % k) ((x * b + y * d) % k) ((z * a + t * c) % k) ((z * b + t * d) % k) (n + 1) = o := by
  cases e : 41 - n with
  | zero => rw [e] at h; simp only [ordN] at h; omega
  | succ f =>
    have hb : (x == 1 && y == 0 && z == 0 && t == 1) = false := by
      cases hh : (x == 1 && y == 0 && z == 0 && t == 1)
      · rfl
      · simp only [Bool.and_eq_true, beq_iff_eq] at hh
        exact absurd ⟨by omega, by omega, by omega, by omega⟩ hne
    rw [e] at h
    simp only [ordN, hb, cond_false] at h
    rw [show 41 - (n + 1) = f by omega]
    exact ⟨by omega, h⟩
/-- a power goes on: what the program and the model make of it -/
theorem pow_facts {k a b c d x y z t : Nat} (hk : 2 ≤ k ∧ k ≤ 12) (ha : a < k ∧ b < k ∧ c < k ∧ d < k) (hx : x < k ∧ y < k ∧ z < k ∧ t < k) :
    ∃ X Y Z T : Nat, X = (x * a + y * c) % k ∧ Y = (x * b + y * d) % k ∧ Z = (z * a + t * c) % k ∧ T = (z * b + t * d) % k ∧ X < k ∧ Y < k ∧ Z < k ∧ T < k ∧
    ∃ p q r s : Int, tm ⟨x, y, z, t⟩ ⟨a, b, c, d⟩ = ⟨p, q, r, s⟩ ∧ p % (k : Int) = X ∧ q % (k : Int) = Y ∧ r % (k : Int) = Z ∧ s % (k : Int) = T := by
  have hi : ∀ {u v s t : Nat}, u < k ∧ v < k ∧ s < k ∧ t < k → inB ⟨u, v, s, t⟩ = true := fun h => inB_iff.2 ⟨by simp; omega, by simp; omega, by simp; omega, by simp; omega⟩
  refine ⟨_, _, _, _, rfl, rfl, rfl, rfl, Nat.mod_lt _ (by omega), Nat.mod_lt _ (by omega), Nat.mod_lt _ (by omega), Nat.mod_lt _ (by omega), _, _, _, _, tm_x (hi hx) (hi ha), ?_, ?_, ?_, ?_⟩ <;> simp
theorem mat_ne1 {a b c d : Int} (h : ¬ (a = 1 ∧ b = 0 ∧ c = 0 ∧ d = 1)) (W : World) : (binOp .neq 24 (.agg #[.int .i64 a, .int .i64 b, .int .i64 c, .int .i64 d]) (.agg #[.int .i64 1, .int .i64 0, .int .i64 0, .int .i64 1])).run Try.prog W = .ok (.bool true) W := by
  by_cases h1 : a = 1
  · by_cases h2 : b = 0
    · by_cases h3 : c = 0
      · have h4 : ¬ d = 1 := fun h4 => h ⟨h1, h2, h3, h4⟩
        subst h1 h2 h3
        have h5 : (d == 1) = false := by simp [h4]
        go_simp
      · subst h1 h2
        have h5 : (c == 0) = false := by simp [h3]
        go_simp
    · subst h1
      have h5 : (b == 0) = false := by simp [h2]
      go_simp
  · have h5 : (a == 1) = false := by simp [h1]
    go_simp
def OrR (k a b c d o A : Nat) (w : World) (v v6 : Value) (wr : World) : Prop := ∃ x y z t n B : Nat, v = .int .i64 n ∧ v6 = .pointer (some ⟨B, 0, none⟩) ∧
  Mem wr [(B, #[.int .i64 x, .int .i64 y, .int .i64 z, .int .i64 t], 24), (A, #[.int .i64 a, .int .i64 b, .int .i64 c, .int .i64 d], 24)] ∧
  Below w.heap.size w wr ∧ (x < k ∧ y < k ∧ z < k ∧ t < k) ∧ n ≤ 41 ∧ ordN k a b c d (41 - n) x y z t n = o
set_option maxHeartbeats 1000000 in
theorem order_ (k a b c d : Nat) (hk : 2 ≤ k ∧ k ≤ 12) (h : reB k (nM a b c d) = true) (w : World) : Calls Try.prog 27 #[.int .i64 k, .agg #[.int .i64 a, .int .i64 b, .int .i64 c, .int .i64 d]] w (fun E' W' => E' = .returned (.int .i64 (ordM k a b c d : Nat)) ∧ Below w.heap.size w W') := by
  have hk' : mdB k = true := mdB_iff.2 ⟨by omega, by omega⟩
  obtain ⟨ho, _⟩ := ordM_ok hk h
  obtain ⟨h1, h2, h3, h4, h5⟩ := reB_nat h
  clear h h5
  have H0 : ordN k a b c d (41 - 1) a b c d 1 = ordM k a b c d := rfl
  generalize ordM k a b c d = o at *
  have hM := mem_nil w; have hB := Below.refl w.heap.size w; have hC := True.intro
  go_enter Try.func27, Try.ntmps27
  go_wp2_with fail
  go_loopw [5, 6] (OrR k a b c d o w.heap.size w) (fun v5 _ _ => 41 - (intOf v5).toNat)
  case atStart =>
    refine ⟨a, b, c, d, 1, w.heap.size + 1, rfl, rfl, ?_, by (repeat' (first | (with_reducible exact hB) | (with_reducible exact Below.refl _ _) | (with_reducible refine Below.alloc ?_ ?_ _) | (with_reducible refine Below.setCell ?_ ?_ _) | (with_reducible refine Below.drew ?_) | (with_reducible refine below_drewN ?_ _) | (with_reducible exact Nat.le_refl _) | (with_reducible exact hB.size) | (simp [go_sem]; done) | (have := hB.size; simp [go_sem]; omega))), ⟨h1, h2, h3, h4⟩, by omega, H0⟩
    apply mem_drop 0
    · (repeat' (first | (with_reducible exact hM) | (with_reducible apply mem_alloc) | (with_reducible apply mem_set) | (with_reducible apply mem_drew) | (with_reducible apply mem_drewN)))
    · simp
  case round =>
    obtain ⟨x, y, z, t, n, B, rfl, rfl, hM', hB', hx, hn, hon⟩ := hrel
    (try clear hC); clear hM hB; have hM := hM'; have hB := hB'; clear hM' hB'; have hC := mem_facts hM; simp at hC
    have HO := Lib.hid hon
    clear hon H0
    by_cases hu : (x : Int) = 1 ∧ (y : Int) = 0 ∧ (z : Int) = 0 ∧ (t : Int) = 1
    · obtain ⟨u1, u2, u3, u4⟩ := hu
      rw [u1, u2, u3, u4] at hM
      clear hC
      have hC := mem_facts hM
      simp at hC
      have HE : o = n := by
        obtain rfl : x = 1 := by omega
        obtain rfl : y = 0 := by omega
        obtain rfl : z = 0 := by omega
        obtain rfl : t = 1 := by omega
        exact ord_stop HO.out ho
      subst HE
      go_wp2_with fail
      go_region_held3 (fun W' => (W'.cell? ⟨B, 0, none⟩ = some (.int .i64 1) ∧ W'.cell? ⟨B, 1, none⟩ = some (.int .i64 0) ∧ W'.cell? ⟨B, 2, none⟩ = some (.int .i64 0) ∧ W'.cell? ⟨B, 3, none⟩ = some (.int .i64 1))) ((simp [*, go_sem]; done)) (first | (go_at_call 46; refine (unit_ _).mono ?_; rintro e w' ⟨rfl, hb⟩; apply after_call (w := w) hb; (focus ((repeat' (first | (with_reducible exact hM) | (with_reducible apply mem_alloc) | (with_reducible apply mem_set) | (with_reducible apply mem_drew) | (with_reducible apply mem_drewN))); done)); (focus ((repeat' (first | (with_reducible exact hB) | (with_reducible exact Below.refl _ _) | (with_reducible refine Below.alloc ?_ ?_ _) | (with_reducible refine Below.setCell ?_ ?_ _) | (with_reducible refine Below.drew ?_) | (with_reducible refine below_drewN ?_ _) | (with_reducible exact Nat.le_refl _) | (with_reducible exact hB.size) | (simp [go_sem]; done) | (have := hB.size; simp [go_sem]; omega))); done)); (focus ((repeat' (first | (with_reducible exact hB) | (with_reducible exact Below.refl _ _) | (with_reducible refine Below.alloc ?_ ?_ _) | (with_reducible refine Below.setCell ?_ ?_ _) | (with_reducible refine Below.drew ?_) | (with_reducible refine below_drewN ?_ _) | (with_reducible exact Nat.le_refl _) | (with_reducible exact hB.size) | (simp [go_sem]; done) | (have := hB.size; simp [go_sem]; omega))); done)); clear hM hB hb; intro hM hB; (try clear hC); have hC := mem_facts hM; simp at hC))
      all_goals
        go_wp2
        go_ret
        exact ⟨rfl, by (repeat' (first | (with_reducible exact hB) | (with_reducible exact Below.refl _ _) | (with_reducible refine Below.alloc ?_ ?_ _) | (with_reducible refine Below.setCell ?_ ?_ _) | (with_reducible refine Below.drew ?_) | (with_reducible refine below_drewN ?_ _) | (with_reducible exact Nat.le_refl _) | (with_reducible exact hB.size) | (simp [go_sem]; done) | (have := hB.size; simp [go_sem]; omega)))⟩
    · have hneq := mat_ne1 hu
      obtain ⟨hn1, hon1⟩ := ord_step HO.out ho hu
      obtain ⟨X, Y, Z, T, e1, e2, e3, e4, l1, l2, l3, l4, p, q, r, s, et, m1, m2, m3, m4⟩ := pow_facts hk ⟨h1, h2, h3, h4⟩ hx
      rw [← e1, ← e2, ← e3, ← e4] at hon1
      have HN := Lib.hid hon1
      have cT := fun W => times_ x y z t a b c d W
      rw [et] at cT
      have cR := fun W => mRests_ k p q r s hk' W
      rw [m1, m2, m3, m4] at cR
      clear et m1 m2 m3 m4 e1 e2 e3 e4 hu HO hon1
      go_wp2_with fail
      go_region_held3 (fun W' => (W'.cell? ⟨B, 0, none⟩ = some (.int .i64 x) ∧ W'.cell? ⟨B, 1, none⟩ = some (.int .i64 y) ∧ W'.cell? ⟨B, 2, none⟩ = some (.int .i64 z) ∧ W'.cell? ⟨B, 3, none⟩ = some (.int .i64 t))) ((simp [*, go_sem]; done)) (first | (go_at_call 46; refine (unit_ _).mono ?_; rintro e w' ⟨rfl, hb⟩; apply after_call (w := w) hb; (focus ((repeat' (first | (with_reducible exact hM) | (with_reducible apply mem_alloc) | (with_reducible apply mem_set) | (with_reducible apply mem_drew) | (with_reducible apply mem_drewN))); done)); (focus ((repeat' (first | (with_reducible exact hB) | (with_reducible exact Below.refl _ _) | (with_reducible refine Below.alloc ?_ ?_ _) | (with_reducible refine Below.setCell ?_ ?_ _) | (with_reducible refine Below.drew ?_) | (with_reducible refine below_drewN ?_ _) | (with_reducible exact Nat.le_refl _) | (with_reducible exact hB.size) | (simp [go_sem]; done) | (have := hB.size; simp [go_sem]; omega))); done)); (focus ((repeat' (first | (with_reducible exact hB) | (with_reducible exact Below.refl _ _) | (with_reducible refine Below.alloc ?_ ?_ _) | (with_reducible refine Below.setCell ?_ ?_ _) | (with_reducible refine Below.drew ?_) | (with_reducible refine below_drewN ?_ _) | (with_reducible exact Nat.le_refl _) | (with_reducible exact hB.size) | (simp [go_sem]; done) | (have := hB.size; simp [go_sem]; omega))); done)); clear hM hB hb; intro hM hB; (try clear hC); have hC := mem_facts hM; simp at hC))
      all_goals
        go_wp2_with (first | (go_at_call 47; refine (cT _).mono ?_; rintro e w' ⟨rfl, hb⟩; apply after_call (w := w) hb; (focus ((repeat' (first | (with_reducible exact hM) | (with_reducible apply mem_alloc) | (with_reducible apply mem_set) | (with_reducible apply mem_drew) | (with_reducible apply mem_drewN))); done)); (focus ((repeat' (first | (with_reducible exact hB) | (with_reducible exact Below.refl _ _) | (with_reducible refine Below.alloc ?_ ?_ _) | (with_reducible refine Below.setCell ?_ ?_ _) | (with_reducible refine Below.drew ?_) | (with_reducible refine below_drewN ?_ _) | (with_reducible exact Nat.le_refl _) | (with_reducible exact hB.size) | (simp [go_sem]; done) | (have := hB.size; simp [go_sem]; omega))); done)); (focus ((repeat' (first | (with_reducible exact hB) | (with_reducible exact Below.refl _ _) | (with_reducible refine Below.alloc ?_ ?_ _) | (with_reducible refine Below.setCell ?_ ?_ _) | (with_reducible refine Below.drew ?_) | (with_reducible refine below_drewN ?_ _) | (with_reducible exact Nat.le_refl _) | (with_reducible exact hB.size) | (simp [go_sem]; done) | (have := hB.size; simp [go_sem]; omega))); done)); clear hM hB hb; intro hM hB; (try clear hC); have hC := mem_facts hM; simp at hC) | (go_at_call 24; refine (cR _).mono ?_; rintro e w' ⟨rfl, hb⟩; apply after_call (w := w) hb; (focus ((repeat' (first | (with_reducible exact hM) | (with_reducible apply mem_alloc) | (with_reducible apply mem_set) | (with_reducible apply mem_drew) | (with_reducible apply mem_drewN))); done)); (focus ((repeat' (first | (with_reducible exact hB) | (with_reducible exact Below.refl _ _) | (with_reducible refine Below.alloc ?_ ?_ _) | (with_reducible refine Below.setCell ?_ ?_ _) | (with_reducible refine Below.drew ?_) | (with_reducible refine below_drewN ?_ _) | (with_reducible exact Nat.le_refl _) | (with_reducible exact hB.size) | (simp [go_sem]; done) | (have := hB.size; simp [go_sem]; omega))); done)); (focus ((repeat' (first | (with_reducible exact hB) | (with_reducible exact Below.refl _ _) | (with_reducible refine Below.alloc ?_ ?_ _) | (with_reducible refine Below.setCell ?_ ?_ _) | (with_reducible refine Below.drew ?_) | (with_reducible refine below_drewN ?_ _) | (with_reducible exact Nat.le_refl _) | (with_reducible exact hB.size) | (simp [go_sem]; done) | (have := hB.size; simp [go_sem]; omega))); done)); clear hM hB hb; intro hM hB; (try clear hC); have hC := mem_facts hM; simp at hC))
        go_roundw
        case rel =>
          refine ⟨X, Y, Z, T, n + 1, _, by simp, rfl, ?_, by (repeat' (first | (with_reducible exact hB) | (with_reducible exact Below.refl _ _) | (with_reducible refine Below.alloc ?_ ?_ _) | (with_reducible refine Below.setCell ?_ ?_ _) | (with_reducible refine Below.drew ?_) | (with_reducible refine below_drewN ?_ _) | (with_reducible exact Nat.le_refl _) | (with_reducible exact hB.size) | (simp [go_sem]; done) | (have := hB.size; simp [go_sem]; omega))), ⟨l1, l2, l3, l4⟩, by omega, HN.out⟩
          apply mem_sub
          · (repeat' (first | (with_reducible exact hM) | (with_reducible apply mem_alloc) | (with_reducible apply mem_set) | (with_reducible apply mem_drew) | (with_reducible apply mem_drewN)))
          · simp [hC]
        case measure => simp [intOf]; omega
/-- what RestOrder tells -/
def mOrd (m : M) (n : Int) : Int × Bool := if mRestEven m n then (((ordM n.toNat m.a.toNat m.b.toNat m.c.toNat m.d.toNat : Nat) : Int), true) else (0, false)
theorem RestOrder_ (a b c d n : Int) (w : World) : Calls Try.prog 11 #[.agg #[.int .i64 a, .int .i64 b, .int .i64 c, .int .i64 d], .int .i64 n] w (fun E' W' => E' = .returned (.tuple #[.int .i64 (mOrd ⟨a, b, c, d⟩ n).1, .bool (mOrd ⟨a, b, c, d⟩ n).2]) ∧ Below w.heap.size w W') := by
  cases h1 : mRestEven ⟨a, b, c, d⟩ n
  · have HR := Lib.hid (show mOrd ⟨a, b, c, d⟩ n = (0, false) by simp [mOrd, h1])
    have hM := mem_nil w; have hB := Below.refl w.heap.size w; have hC := True.intro
    go_enter Try.func11, Try.ntmps11
    go_wp2_with (go_at_call 18; refine (RestEven_ _ _ _ _ _ _).mono ?_; rintro e w' ⟨rfl, hb⟩; apply after_call (w := w) hb; (focus ((repeat' (first | (with_reducible exact hM) | (with_reducible apply mem_alloc) | (with_reducible apply mem_set) | (with_reducible apply mem_drew) | (with_reducible apply mem_drewN))); done)); (focus ((repeat' (first | (with_reducible exact hB) | (with_reducible exact Below.refl _ _) | (with_reducible refine Below.alloc ?_ ?_ _) | (with_reducible refine Below.setCell ?_ ?_ _) | (with_reducible refine Below.drew ?_) | (with_reducible refine below_drewN ?_ _) | (with_reducible exact Nat.le_refl _) | (with_reducible exact hB.size) | (simp [go_sem]; done) | (have := hB.size; simp [go_sem]; omega))); done)); (focus ((repeat' (first | (with_reducible exact hB) | (with_reducible exact Below.refl _ _) | (with_reducible refine Below.alloc ?_ ?_ _) | (with_reducible refine Below.setCell ?_ ?_ _) | (with_reducible refine Below.drew ?_) | (with_reducible refine below_drewN ?_ _) | (with_reducible exact Nat.le_refl _) | (with_reducible exact hB.size) | (simp [go_sem]; done) | (have := hB.size; simp [go_sem]; omega))); done)); clear hM hB hb; intro hM hB; (try clear hC); have hC := mem_facts hM; simp at hC)
    go_ret2
    exact ⟨by rw [HR.out]; rfl, by (repeat' (first | (with_reducible exact hB) | (with_reducible exact Below.refl _ _) | (with_reducible refine Below.alloc ?_ ?_ _) | (with_reducible refine Below.setCell ?_ ?_ _) | (with_reducible refine Below.drew ?_) | (with_reducible refine below_drewN ?_ _) | (with_reducible exact Nat.le_refl _) | (with_reducible exact hB.size) | (simp [go_sem]; done) | (have := hB.size; simp [go_sem]; omega)))⟩
  · have h1' := h1
    simp only [mRestEven, Bool.and_eq_true] at h1'
    obtain ⟨k, rfl, hk1, hk2⟩ := mdB_nat h1'.1
    have h2 := h1'.2
    simp only [reB, Bool.and_eq_true] at h2
    obtain ⟨a', b', c', d', e, _, _, _, _⟩ := rbM_nat h2.1
    have e1 : a = a' := congrArg M.a e
    have e2 : b = b' := congrArg M.b e
    have e3 : c = c' := congrArg M.c e
    have e4 : d = d' := congrArg M.d e
    clear e h2
    subst e1 e2 e3 e4
    have cO := fun W => order_ k a' b' c' d' ⟨hk1, hk2⟩ h1'.2 W
    have HR := Lib.hid (show mOrd ⟨a', b', c', d'⟩ k = (((ordM k a' b' c' d' : Nat) : Int), true) by simp [mOrd, h1])
    clear h1'
    generalize ordM k a' b' c' d' = o at *
    have hM := mem_nil w; have hB := Below.refl w.heap.size w; have hC := True.intro
    go_enter Try.func11, Try.ntmps11
    go_wp2_with (first | (go_at_call 18; refine (RestEven_ _ _ _ _ _ _).mono ?_; rintro e w' ⟨rfl, hb⟩; apply after_call (w := w) hb; (focus ((repeat' (first | (with_reducible exact hM) | (with_reducible apply mem_alloc) | (with_reducible apply mem_set) | (with_reducible apply mem_drew) | (with_reducible apply mem_drewN))); done)); (focus ((repeat' (first | (with_reducible exact hB) | (with_reducible exact Below.refl _ _) | (with_reducible refine Below.alloc ?_ ?_ _) | (with_reducible refine Below.setCell ?_ ?_ _) | (with_reducible refine Below.drew ?_) | (with_reducible refine below_drewN ?_ _) | (with_reducible exact Nat.le_refl _) | (with_reducible exact hB.size) | (simp [go_sem]; done) | (have := hB.size; simp [go_sem]; omega))); done)); (focus ((repeat' (first | (with_reducible exact hB) | (with_reducible exact Below.refl _ _) | (with_reducible refine Below.alloc ?_ ?_ _) | (with_reducible refine Below.setCell ?_ ?_ _) | (with_reducible refine Below.drew ?_) | (with_reducible refine below_drewN ?_ _) | (with_reducible exact Nat.le_refl _) | (with_reducible exact hB.size) | (simp [go_sem]; done) | (have := hB.size; simp [go_sem]; omega))); done)); clear hM hB hb; intro hM hB; (try clear hC); have hC := mem_facts hM; simp at hC) | (go_at_call 27; refine (cO _).mono ?_; rintro e w' ⟨rfl, hb⟩; apply after_call (w := w) hb; (focus ((repeat' (first | (with_reducible exact hM) | (with_reducible apply mem_alloc) | (with_reducible apply mem_set) | (with_reducible apply mem_drew) | (with_reducible apply mem_drewN))); done)); (focus ((repeat' (first | (with_reducible exact hB) | (with_reducible exact Below.refl _ _) | (with_reducible refine Below.alloc ?_ ?_ _) | (with_reducible refine Below.setCell ?_ ?_ _) | (with_reducible refine Below.drew ?_) | (with_reducible refine below_drewN ?_ _) | (with_reducible exact Nat.le_refl _) | (with_reducible exact hB.size) | (simp [go_sem]; done) | (have := hB.size; simp [go_sem]; omega))); done)); (focus ((repeat' (first | (with_reducible exact hB) | (with_reducible exact Below.refl _ _) | (with_reducible refine Below.alloc ?_ ?_ _) | (with_reducible refine Below.setCell ?_ ?_ _) | (with_reducible refine Below.drew ?_) | (with_reducible refine below_drewN ?_ _) | (with_reducible exact Nat.le_refl _) | (with_reducible exact hB.size) | (simp [go_sem]; done) | (have := hB.size; simp [go_sem]; omega))); done)); clear hM hB hb; intro hM hB; (try clear hC); have hC := mem_facts hM; simp at hC))
    go_ret2
    exact ⟨by rw [HR.out]; rfl, by (repeat' (first | (with_reducible exact hB) | (with_reducible exact Below.refl _ _) | (with_reducible refine Below.alloc ?_ ?_ _) | (with_reducible refine Below.setCell ?_ ?_ _) | (with_reducible refine Below.drew ?_) | (with_reducible refine below_drewN ?_ _) | (with_reducible exact Nat.le_refl _) | (with_reducible exact hB.size) | (simp [go_sem]; done) | (have := hB.size; simp [go_sem]; omega)))⟩
set_option maxHeartbeats 1000000 in
theorem sRestOrder_ (a b c d n : Int) (w : World) : Calls Try.prog 12 #[.agg #[.int .i64 a, .int .i64 b, .int .i64 c, .int .i64 d], .int .i64 n] w (fun E' W' => E' = .returned (.tuple #[.int .i64 (mOrd ⟨a, b, c, d⟩ n).1, .bool (mOrd ⟨a, b, c, d⟩ n).2]) ∧ Below w.heap.size w W') := by
  cases h1 : mRestEven ⟨a, b, c, d⟩ n
  · have HR := Lib.hid (show mOrd ⟨a, b, c, d⟩ n = (0, false) by simp [mOrd, h1])
    have hM := mem_nil w; have hB := Below.refl w.heap.size w; have hC := True.intro
    go_enter Try.func12, Try.ntmps12
    go_wp2_with (go_at_call 20; refine (sRestEven_ _ _ _ _ _ _).mono ?_; rintro e w' ⟨rfl, hb⟩; apply after_call (w := w) hb; (focus ((repeat' (first | (with_reducible exact hM) | (with_reducible apply mem_alloc) | (with_reducible apply mem_set) | (with_reducible apply mem_drew) | (with_reducible apply mem_drewN))); done)); (focus ((repeat' (first | (with_reducible exact hB) | (with_reducible exact Below.refl _ _) | (with_reducible refine Below.alloc ?_ ?_ _) | (with_reducible refine Below.setCell ?_ ?_ _) | (with_reducible refine Below.drew ?_) | (with_reducible refine below_drewN ?_ _) | (with_reducible exact Nat.le_refl _) | (with_reducible exact hB.size) | (simp [go_sem]; done) | (have := hB.size; simp [go_sem]; omega))); done)); (focus ((repeat' (first | (with_reducible exact hB) | (with_reducible exact Below.refl _ _) | (with_reducible refine Below.alloc ?_ ?_ _) | (with_reducible refine Below.setCell ?_ ?_ _) | (with_reducible refine Below.drew ?_) | (with_reducible refine below_drewN ?_ _) | (with_reducible exact Nat.le_refl _) | (with_reducible exact hB.size) | (simp [go_sem]; done) | (have := hB.size; simp [go_sem]; omega))); done)); clear hM hB hb; intro hM hB; (try clear hC); have hC := mem_facts hM; simp at hC)
    go_ret2
    exact ⟨by rw [HR.out]; rfl, by (repeat' (first | (with_reducible exact hB) | (with_reducible exact Below.refl _ _) | (with_reducible refine Below.alloc ?_ ?_ _) | (with_reducible refine Below.setCell ?_ ?_ _) | (with_reducible refine Below.drew ?_) | (with_reducible refine below_drewN ?_ _) | (with_reducible exact Nat.le_refl _) | (with_reducible exact hB.size) | (simp [go_sem]; done) | (have := hB.size; simp [go_sem]; omega)))⟩
  · have h1' := h1
    simp only [mRestEven, Bool.and_eq_true] at h1'
    obtain ⟨k, rfl, hk1, hk2⟩ := mdB_nat h1'.1
    have hk : 2 ≤ k ∧ k ≤ 12 := ⟨hk1, hk2⟩
    have hk' := h1'.1
    have h2 := h1'.2
    simp only [reB, Bool.and_eq_true] at h2
    obtain ⟨a', b', c', d', e, g1, g2, g3, g4⟩ := rbM_nat h2.1
    have e1 : a = a' := congrArg M.a e
    have e2 : b = b' := congrArg M.b e
    have e3 : c = c' := congrArg M.c e
    have e4 : d = d' := congrArg M.d e
    clear e h2
    subst e1 e2 e3 e4
    obtain ⟨ho, _⟩ := ordM_ok (a := a') (b := b') (c := c') (d := d') hk h1'.2
    have H0 : ordN k a' b' c' d' (41 - 1) a' b' c' d' 1 = ordM k a' b' c' d' := rfl
    have HR := Lib.hid (show mOrd ⟨a', b', c', d'⟩ k = (((ordM k a' b' c' d' : Nat) : Int), true) by simp [mOrd, h1])
    clear h1'
    generalize ordM k a' b' c' d' = o at *
    have hM := mem_nil w; have hB := Below.refl w.heap.size w; have hC := True.intro
    go_enter Try.func12, Try.ntmps12
    go_wp2_with (go_at_call 20; refine (sRestEven_ _ _ _ _ _ _).mono ?_; rintro e w' ⟨rfl, hb⟩; apply after_call (w := w) hb; (focus ((repeat' (first | (with_reducible exact hM) | (with_reducible apply mem_alloc) | (with_reducible apply mem_set) | (with_reducible apply mem_drew) | (with_reducible apply mem_drewN))); done)); (focus ((repeat' (first | (with_reducible exact hB) | (with_reducible exact Below.refl _ _) | (with_reducible refine Below.alloc ?_ ?_ _) | (with_reducible refine Below.setCell ?_ ?_ _) | (with_reducible refine Below.drew ?_) | (with_reducible refine below_drewN ?_ _) | (with_reducible exact Nat.le_refl _) | (with_reducible exact hB.size) | (simp [go_sem]; done) | (have := hB.size; simp [go_sem]; omega))); done)); (focus ((repeat' (first | (with_reducible exact hB) | (with_reducible exact Below.refl _ _) | (with_reducible refine Below.alloc ?_ ?_ _) | (with_reducible refine Below.setCell ?_ ?_ _) | (with_reducible refine Below.drew ?_) | (with_reducible refine below_drewN ?_ _) | (with_reducible exact Nat.le_refl _) | (with_reducible exact hB.size) | (simp [go_sem]; done) | (have := hB.size; simp [go_sem]; omega))); done)); clear hM hB hb; intro hM hB; (try clear hC); have hC := mem_facts hM; simp at hC)
    obtain ⟨w1, hw1⟩ : ∃ w1 : World, w1 = w' := ⟨_, rfl⟩
    subst hw1
    have hs1 := hB.size
    go_loopw [7] (fun v wr => OrR k a' b' c' d' o w.heap.size w v (.pointer (some ⟨w1.heap.size, 0, none⟩)) wr) (fun v _ => 41 - (intOf v).toNat)
    case atStart =>
      refine ⟨a', b', c', d', 1, w1.heap.size, rfl, rfl, ?_, by (repeat' (first | (with_reducible exact hB) | (with_reducible exact Below.refl _ _) | (with_reducible refine Below.alloc ?_ ?_ _) | (with_reducible refine Below.setCell ?_ ?_ _) | (with_reducible refine Below.drew ?_) | (with_reducible refine below_drewN ?_ _) | (with_reducible exact Nat.le_refl _) | (with_reducible exact hB.size) | (simp [go_sem]; done) | (have := hB.size; simp [go_sem]; omega))), ⟨g1, g2, g3, g4⟩, by omega, H0⟩
      apply mem_drop 0
      · (repeat' (first | (with_reducible exact hM) | (with_reducible apply mem_alloc) | (with_reducible apply mem_set) | (with_reducible apply mem_drew) | (with_reducible apply mem_drewN)))
      · simp
    case round =>
      obtain ⟨x, y, z, t, n, B, rfl, hBe, hM', hB', hx, hn, hon⟩ := hrel
      simp at hBe
      subst hBe
      (try clear hC); clear hM hB; have hM := hM'; have hB := hB'; clear hM' hB'; have hC := mem_facts hM; simp at hC
      have HO := Lib.hid hon
      clear hon H0
      by_cases hu : (x : Int) = 1 ∧ (y : Int) = 0 ∧ (z : Int) = 0 ∧ (t : Int) = 1
      · obtain ⟨u1, u2, u3, u4⟩ := hu
        rw [u1, u2, u3, u4] at hM
        clear hC
        have hC := mem_facts hM
        simp at hC
        have HE : o = n := by
          obtain rfl : x = 1 := by omega
          obtain rfl : y = 0 := by omega
          obtain rfl : z = 0 := by omega
          obtain rfl : t = 1 := by omega
          exact ord_stop HO.out ho
        subst HE
        go_wp2_with fail
        go_region_held3 (fun W' => (W'.cell? ⟨w1.heap.size, 0, none⟩ = some (.int .i64 1) ∧ W'.cell? ⟨w1.heap.size, 1, none⟩ = some (.int .i64 0) ∧ W'.cell? ⟨w1.heap.size, 2, none⟩ = some (.int .i64 0) ∧ W'.cell? ⟨w1.heap.size, 3, none⟩ = some (.int .i64 1))) ((simp [*, go_sem]; done)) (first | (go_at_call 28; refine (l1Unit_ _).mono ?_; rintro e w' ⟨rfl, hb⟩; apply after_call (w := w) hb; (focus ((repeat' (first | (with_reducible exact hM) | (with_reducible apply mem_alloc) | (with_reducible apply mem_set) | (with_reducible apply mem_drew) | (with_reducible apply mem_drewN))); done)); (focus ((repeat' (first | (with_reducible exact hB) | (with_reducible exact Below.refl _ _) | (with_reducible refine Below.alloc ?_ ?_ _) | (with_reducible refine Below.setCell ?_ ?_ _) | (with_reducible refine Below.drew ?_) | (with_reducible refine below_drewN ?_ _) | (with_reducible exact Nat.le_refl _) | (with_reducible exact hB.size) | (simp [go_sem]; done) | (have := hB.size; simp [go_sem]; omega))); done)); (focus ((repeat' (first | (with_reducible exact hB) | (with_reducible exact Below.refl _ _) | (with_reducible refine Below.alloc ?_ ?_ _) | (with_reducible refine Below.setCell ?_ ?_ _) | (with_reducible refine Below.drew ?_) | (with_reducible refine below_drewN ?_ _) | (with_reducible exact Nat.le_refl _) | (with_reducible exact hB.size) | (simp [go_sem]; done) | (have := hB.size; simp [go_sem]; omega))); done)); clear hM hB hb; intro hM hB; (try clear hC); have hC := mem_facts hM; simp at hC))
        all_goals
          go_wp2
          go_ret2
          exact ⟨by rw [HR.out]; rfl, by (repeat' (first | (with_reducible exact hB) | (with_reducible exact Below.refl _ _) | (with_reducible refine Below.alloc ?_ ?_ _) | (with_reducible refine Below.setCell ?_ ?_ _) | (with_reducible refine Below.drew ?_) | (with_reducible refine below_drewN ?_ _) | (with_reducible exact Nat.le_refl _) | (with_reducible exact hB.size) | (simp [go_sem]; done) | (have := hB.size; simp [go_sem]; omega)))⟩
      · have hneq := mat_ne1 hu
        obtain ⟨hn1, hon1⟩ := ord_step HO.out ho hu
        obtain ⟨X, Y, Z, T, e1, e2, e3, e4, l1, l2, l3, l4, p, q, r, s, et, m1, m2, m3, m4⟩ := pow_facts hk ⟨g1, g2, g3, g4⟩ hx
        rw [← e1, ← e2, ← e3, ← e4] at hon1
        have HN := Lib.hid hon1
        have cT := fun W => l1Times_ x y z t a' b' c' d' W
        rw [et] at cT
        have cR := fun W => l5Mat_ k p q r s hk' W
        rw [m1, m2, m3, m4] at cR
        clear et m1 m2 m3 m4 e1 e2 e3 e4 hu HO hon1
        go_wp2_with fail
        go_region_held3 (fun W' => (W'.cell? ⟨w1.heap.size, 0, none⟩ = some (.int .i64 x) ∧ W'.cell? ⟨w1.heap.size, 1, none⟩ = some (.int .i64 y) ∧ W'.cell? ⟨w1.heap.size, 2, none⟩ = some (.int .i64 z) ∧ W'.cell? ⟨w1.heap.size, 3, none⟩ = some (.int .i64 t))) ((simp [*, go_sem]; done)) (first | (go_at_call 28; refine (l1Unit_ _).mono ?_; rintro e w' ⟨rfl, hb⟩; apply after_call (w := w) hb; (focus ((repeat' (first | (with_reducible exact hM) | (with_reducible apply mem_alloc) | (with_reducible apply mem_set) | (with_reducible apply mem_drew) | (with_reducible apply mem_drewN))); done)); (focus ((repeat' (first | (with_reducible exact hB) | (with_reducible exact Below.refl _ _) | (with_reducible refine Below.alloc ?_ ?_ _) | (with_reducible refine Below.setCell ?_ ?_ _) | (with_reducible refine Below.drew ?_) | (with_reducible refine below_drewN ?_ _) | (with_reducible exact Nat.le_refl _) | (with_reducible exact hB.size) | (simp [go_sem]; done) | (have := hB.size; simp [go_sem]; omega))); done)); (focus ((repeat' (first | (with_reducible exact hB) | (with_reducible exact Below.refl _ _) | (with_reducible refine Below.alloc ?_ ?_ _) | (with_reducible refine Below.setCell ?_ ?_ _) | (with_reducible refine Below.drew ?_) | (with_reducible refine below_drewN ?_ _) | (with_reducible exact Nat.le_refl _) | (with_reducible exact hB.size) | (simp [go_sem]; done) | (have := hB.size; simp [go_sem]; omega))); done)); clear hM hB hb; intro hM hB; (try clear hC); have hC := mem_facts hM; simp at hC))
        all_goals
          go_wp2_with (first | (go_at_call 29; refine (cT _).mono ?_; rintro e w' ⟨rfl, hb⟩; apply after_call (w := w) hb; (focus ((repeat' (first | (with_reducible exact hM) | (with_reducible apply mem_alloc) | (with_reducible apply mem_set) | (with_reducible apply mem_drew) | (with_reducible apply mem_drewN))); done)); (focus ((repeat' (first | (with_reducible exact hB) | (with_reducible exact Below.refl _ _) | (with_reducible refine Below.alloc ?_ ?_ _) | (with_reducible refine Below.setCell ?_ ?_ _) | (with_reducible refine Below.drew ?_) | (with_reducible refine below_drewN ?_ _) | (with_reducible exact Nat.le_refl _) | (with_reducible exact hB.size) | (simp [go_sem]; done) | (have := hB.size; simp [go_sem]; omega))); done)); (focus ((repeat' (first | (with_reducible exact hB) | (with_reducible exact Below.refl _ _) | (with_reducible refine Below.alloc ?_ ?_ _) | (with_reducible refine Below.setCell ?_ ?_ _) | (with_reducible refine Below.drew ?_) | (with_reducible refine below_drewN ?_ _) | (with_reducible exact Nat.le_refl _) | (with_reducible exact hB.size) | (simp [go_sem]; done) | (have := hB.size; simp [go_sem]; omega))); done)); clear hM hB hb; intro hM hB; (try clear hC); have hC := mem_facts hM; simp at hC) | (go_at_call 16; refine (cR _).mono ?_; rintro e w' ⟨rfl, hb⟩; apply after_call (w := w) hb; (focus ((repeat' (first | (with_reducible exact hM) | (with_reducible apply mem_alloc) | (with_reducible apply mem_set) | (with_reducible apply mem_drew) | (with_reducible apply mem_drewN))); done)); (focus ((repeat' (first | (with_reducible exact hB) | (with_reducible exact Below.refl _ _) | (with_reducible refine Below.alloc ?_ ?_ _) | (with_reducible refine Below.setCell ?_ ?_ _) | (with_reducible refine Below.drew ?_) | (with_reducible refine below_drewN ?_ _) | (with_reducible exact Nat.le_refl _) | (with_reducible exact hB.size) | (simp [go_sem]; done) | (have := hB.size; simp [go_sem]; omega))); done)); (focus ((repeat' (first | (with_reducible exact hB) | (with_reducible exact Below.refl _ _) | (with_reducible refine Below.alloc ?_ ?_ _) | (with_reducible refine Below.setCell ?_ ?_ _) | (with_reducible refine Below.drew ?_) | (with_reducible refine below_drewN ?_ _) | (with_reducible exact Nat.le_refl _) | (with_reducible exact hB.size) | (simp [go_sem]; done) | (have := hB.size; simp [go_sem]; omega))); done)); clear hM hB hb; intro hM hB; (try clear hC); have hC := mem_facts hM; simp at hC))
          go_roundw
          case rel =>
            refine ⟨X, Y, Z, T, n + 1, w1.heap.size, by simp, rfl, ?_, by (repeat' (first | (with_reducible exact hB) | (with_reducible exact Below.refl _ _) | (with_reducible refine Below.alloc ?_ ?_ _) | (with_reducible refine Below.setCell ?_ ?_ _) | (with_reducible refine Below.drew ?_) | (with_reducible refine below_drewN ?_ _) | (with_reducible exact Nat.le_refl _) | (with_reducible exact hB.size) | (simp [go_sem]; done) | (have := hB.size; simp [go_sem]; omega))), ⟨l1, l2, l3, l4⟩, by omega, HN.out⟩
            apply mem_sub
            · (repeat' (first | (with_reducible exact hM) | (with_reducible apply mem_alloc) | (with_reducible apply mem_set) | (with_reducible apply mem_drew) | (with_reducible apply mem_drewN)))
            · simp [hC]
          case measure => simp [intOf]; omega
end Go.Proofs.Ytkallllpjkkhhaa

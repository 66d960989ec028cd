
/- The program's rows filled to even matrices, walked: ShortFull. No condition on what is exported. -/
import Derived.Test.YtnbbgfcnbgjahaaShF
namespace Go.Proofs.Ytnbbgfcnbgjahaa
open Go.RowKit

theorem rest_eq7 {n x : Int} (hn : 1 ≤ n) : (x.tmod n + n).tmod n = x % n ∧ -n < x.tmod n ∧ x.tmod n < n := by
  have h3 : -n < x.tmod n := by
    have := Int.lt_tmod_of_pos x (b := n) (by omega); omega
  have h4 : x.tmod n < n := Int.tmod_lt_of_pos x (b := n) (by omega)
  refine ⟨?_, h3, h4⟩
  rw [Int.tmod_eq_emod_of_nonneg (by omega), Int.add_emod_right]
  have e := Int.mul_tdiv_add_tmod x n
  have e2 : x.tmod n = x + n * (-(x.tdiv n)) := by rw [Int.mul_neg]; omega
  rw [e2, Int.add_mul_emod_self_left]
theorem restBy7_ (n x : Int) (hn : 1 ≤ n ∧ n ≤ 4000000000000000000) (w : World) : Calls Try.prog 47 #[.int .i64 n, .int .i64 x] w (fun E' W' => E' = .returned (.int .i64 (x % n)) ∧ w = W') := by
  obtain ⟨h1, h2⟩ := hn
  obtain ⟨e1, e2, e3⟩ := rest_eq7 (x := x) h1
  have hz : (n == 0) = false := by simp; omega
  have hb : 0 ≤ x % n ∧ x % n < n := ⟨Int.emod_nonneg _ (by omega), Int.emod_lt_of_pos _ (by omega)⟩
  obtain ⟨r, hr⟩ : ∃ r, r = x.tmod n := ⟨_, rfl⟩
  rw [← hr] at e1 e2 e3
  have hr' := hr.symm
  clear hr
  generalize x % n = y at *
  go_enter Try.func47, Try.ntmps47
  go_wp2
  go_ret
  exact ⟨rfl, rfl⟩
set_option maxHeartbeats 4000000 in
theorem fullOf_ (a b u : Int) (ha : -10000 ≤ a ∧ a ≤ 10000) (hb : -10000 ≤ b ∧ b ≤ 10000) (w : World) : Calls Try.prog 36 #[.agg #[.int .i64 a, .int .i64 b], .int .i64 u] w (fun E' W' => E' = .returned (.agg #[.int .i64 ((fullU a b u)).a, .int .i64 ((fullU a b u)).b, .int .i64 ((fullU a b u)).c, .int .i64 ((fullU a b u)).d]) ∧ Below w.heap.size w W') := by
  by_cases h0 : b = 0
  · subst h0
    have HE := Lib.hid (show fullU a 0 u = ⟨a, 0, 0, a⟩ from if_pos rfl)
    have hM := mem_nil w; have hB := Below.refl w.heap.size w; have hC := True.intro
    go_enter Try.func36, Try.ntmps36
    go_wp2
    refine bodyPost_ret (by (simp [results, Try.results36, go_sem, *]; try rfl)) rfl ?_
    exact ⟨by rw [HE.out], by (repeat' (first | (with_reducible exact hB) | (with_reducible exact Below.refl _ _) | (with_reducible refine Below.alloc ?_ ?_ _) | (with_reducible refine Below.setCell ?_ ?_ _) | (with_reducible refine Below.drew ?_) | (with_reducible refine below_drewN ?_ _) | (with_reducible exact Nat.le_refl _) | (with_reducible exact hB.size) | (simp [go_sem]; done) | (have := hB.size; simp [go_sem]; omega)))⟩
  · obtain ⟨⟨k0, k1⟩, k2, k3⟩ := fullU_bd u ha h0 hb
    have HE := Lib.hid (show fullU a b u = ⟨a, b, (a * (u % absI b) - 1).tdiv b, u % absI b⟩ from if_neg h0)
    have hp := absI_pos h0
    have hA := absI_bd b
    have c1 := fun W => absV7_ b (by omega) W
    have c2 := fun W => restBy7_ (absI b) u (by omega) W
    have hb0 : (b = 0) = False := by simp [h0]
    have hb1 : (b == 0) = false := by simp [h0]
    clear hp hA k1
    generalize absI b = B at *
    generalize u % B = d at *
    have w1 : wrap64 (a * d) = a * d := wrap_mid (by omega)
    have w2 : wrap64 (a * d - 1) = a * d - 1 := wrap_mid (by omega)
    generalize hx : a * d = x at *
    generalize hc : (x - 1).tdiv b = c at *
    have hM := mem_nil w; have hB := Below.refl w.heap.size w; have hC := True.intro
    go_enter Try.func36, Try.ntmps36
    go_wp2_with (first | (go_at_call 41; refine (c1 _).mono ?_; rintro e w' ⟨rfl, rfl⟩) | (go_at_call 47; refine (c2 _).mono ?_; rintro e w' ⟨rfl, rfl⟩))
    go_region
    go_wp2_with fail
    refine bodyPost_ret (by (simp [results, Try.results36, go_sem, *]; try rfl)) rfl ?_
    exact ⟨by rw [HE.out], by (repeat' (first | (with_reducible exact hB) | (with_reducible exact Below.refl _ _) | (with_reducible refine Below.alloc ?_ ?_ _) | (with_reducible refine Below.setCell ?_ ?_ _) | (with_reducible refine Below.drew ?_) | (with_reducible refine below_drewN ?_ _) | (with_reducible exact Nat.le_refl _) | (with_reducible exact hB.size) | (simp [go_sem]; done) | (have := hB.size; simp [go_sem]; omega)))⟩
theorem ShortFull_ (a b : Int) (w : World) : Calls Try.prog 18 #[.agg #[.int .i64 a, .int .i64 b]] w (fun E' W' => E' = .returned (.tuple #[.agg #[.int .i64 ((mFull ⟨a, b⟩).1).a, .int .i64 ((mFull ⟨a, b⟩).1).b, .int .i64 ((mFull ⟨a, b⟩).1).c, .int .i64 ((mFull ⟨a, b⟩).1).d], .bool (mFull ⟨a, b⟩).2]) ∧ Below w.heap.size w W') := by
  have c1 := fun W => ShortGcd_ a b W
  cases h : pB ⟨a, b⟩
  · have HE := Lib.hid (show mFull ⟨a, b⟩ = (zm, false) by simp [mFull, h])
    rw [show mGcd7 ⟨a, b⟩ = ((0, 0, 0), false) by simp [mGcd7, h]] at c1
    have hM := mem_nil w; have hB := Below.refl w.heap.size w; have hC := True.intro
    go_enter Try.func18, Try.ntmps18
    go_wp2_with (go_at_call 12; refine (c1 _).mono ?_; rintro e w' ⟨rfl, hb⟩; apply after_call (w := w) hb; (focus ((repeat' (first | (with_reducible exact hM) | (with_reducible apply mem_alloc) | (with_reducible apply mem_set) | (with_reducible apply mem_drew) | (with_reducible apply mem_drewN))); done)); (focus ((repeat' (first | (with_reducible exact hB) | (with_reducible exact Below.refl _ _) | (with_reducible refine Below.alloc ?_ ?_ _) | (with_reducible refine Below.setCell ?_ ?_ _) | (with_reducible refine Below.drew ?_) | (with_reducible refine below_drewN ?_ _) | (with_reducible exact Nat.le_refl _) | (with_reducible exact hB.size) | (simp [go_sem]; done) | (have := hB.size; simp [go_sem]; omega))); done)); (focus ((repeat' (first | (with_reducible exact hB) | (with_reducible exact Below.refl _ _) | (with_reducible refine Below.alloc ?_ ?_ _) | (with_reducible refine Below.setCell ?_ ?_ _) | (with_reducible refine Below.drew ?_) | (with_reducible refine below_drewN ?_ _) | (with_reducible exact Nat.le_refl _) | (with_reducible exact hB.size) | (simp [go_sem]; done) | (have := hB.size; simp [go_sem]; omega))); done)); clear hM hB hb; intro hM hB; (try clear hC); have hC := mem_facts hM; simp at hC)
    refine bodyPost_ret (by (simp [results, Try.results18, go_sem, *]; try rfl)) rfl ?_
    exact ⟨by rw [HE.out]; rfl, by (repeat' (first | (with_reducible exact hB) | (with_reducible exact Below.refl _ _) | (with_reducible refine Below.alloc ?_ ?_ _) | (with_reducible refine Below.setCell ?_ ?_ _) | (with_reducible refine Below.drew ?_) | (with_reducible refine below_drewN ?_ _) | (with_reducible exact Nat.le_refl _) | (with_reducible exact hB.size) | (simp [go_sem]; done) | (have := hB.size; simp [go_sem]; omega)))⟩
  · obtain ⟨k1, k2⟩ := pB_iff.1 h
    dsimp only at k1 k2
    rw [show mGcd7 ⟨a, b⟩ = (egs a b, true) by simp [mGcd7, h]] at c1
    have hs := (egs_spec a b).1
    have c2 := fun W => fullOf_ a b (egs a b).2.1 k1 k2 W
    have HE := Lib.hid (show mFull ⟨a, b⟩ = if (Int.gcd a b : Nat) = 1 then (fullU a b (egs a b).2.1, true) else (zm, false) by simp [mFull, h])
    generalize fullU a b (egs a b).2.1 = f at *
    obtain ⟨x, y, z, t⟩ := f
    generalize egs a b = r at *
    obtain ⟨g, u, v⟩ := r
    dsimp only at *
    by_cases hg : g = 1
    · have HF := Lib.hid (HE.out.trans (if_pos (by omega)))
      subst hg
      clear hs HE
      have hM := mem_nil w; have hB := Below.refl w.heap.size w; have hC := True.intro
      go_enter Try.func18, Try.ntmps18
      go_wp2_with (first | (go_at_call 12; refine (c1 _).mono ?_; rintro e w' ⟨rfl, hb⟩; apply after_call (w := w) hb; (focus ((repeat' (first | (with_reducible exact hM) | (with_reducible apply mem_alloc) | (with_reducible apply mem_set) | (with_reducible apply mem_drew) | (with_reducible apply mem_drewN))); done)); (focus ((repeat' (first | (with_reducible exact hB) | (with_reducible exact Below.refl _ _) | (with_reducible refine Below.alloc ?_ ?_ _) | (with_reducible refine Below.setCell ?_ ?_ _) | (with_reducible refine Below.drew ?_) | (with_reducible refine below_drewN ?_ _) | (with_reducible exact Nat.le_refl _) | (with_reducible exact hB.size) | (simp [go_sem]; done) | (have := hB.size; simp [go_sem]; omega))); done)); (focus ((repeat' (first | (with_reducible exact hB) | (with_reducible exact Below.refl _ _) | (with_reducible refine Below.alloc ?_ ?_ _) | (with_reducible refine Below.setCell ?_ ?_ _) | (with_reducible refine Below.drew ?_) | (with_reducible refine below_drewN ?_ _) | (with_reducible exact Nat.le_refl _) | (with_reducible exact hB.size) | (simp [go_sem]; done) | (have := hB.size; simp [go_sem]; omega))); done)); clear hM hB hb; intro hM hB; (try clear hC); have hC := mem_facts hM; simp at hC) | (go_at_call 36; refine (c2 _).mono ?_; rintro e w' ⟨rfl, hb⟩; apply after_call (w := w) hb; (focus ((repeat' (first | (with_reducible exact hM) | (with_reducible apply mem_alloc) | (with_reducible apply mem_set) | (with_reducible apply mem_drew) | (with_reducible apply mem_drewN))); done)); (focus ((repeat' (first | (with_reducible exact hB) | (with_reducible exact Below.refl _ _) | (with_reducible refine Below.alloc ?_ ?_ _) | (with_reducible refine Below.setCell ?_ ?_ _) | (with_reducible refine Below.drew ?_) | (with_reducible refine below_drewN ?_ _) | (with_reducible exact Nat.le_refl _) | (with_reducible exact hB.size) | (simp [go_sem]; done) | (have := hB.size; simp [go_sem]; omega))); done)); (focus ((repeat' (first | (with_reducible exact hB) | (with_reducible exact Below.refl _ _) | (with_reducible refine Below.alloc ?_ ?_ _) | (with_reducible refine Below.setCell ?_ ?_ _) | (with_reducible refine Below.drew ?_) | (with_reducible refine below_drewN ?_ _) | (with_reducible exact Nat.le_refl _) | (with_reducible exact hB.size) | (simp [go_sem]; done) | (have := hB.size; simp [go_sem]; omega))); done)); clear hM hB hb; intro hM hB; (try clear hC); have hC := mem_facts hM; simp at hC))
      refine bodyPost_ret (by (simp [results, Try.results18, go_sem, *]; try rfl)) rfl ?_
      exact ⟨by rw [HF.out], by (repeat' (first | (with_reducible exact hB) | (with_reducible exact Below.refl _ _) | (with_reducible refine Below.alloc ?_ ?_ _) | (with_reducible refine Below.setCell ?_ ?_ _) | (with_reducible refine Below.drew ?_) | (with_reducible refine below_drewN ?_ _) | (with_reducible exact Nat.le_refl _) | (with_reducible exact hB.size) | (simp [go_sem]; done) | (have := hB.size; simp [go_sem]; omega)))⟩
    · have HF := Lib.hid (HE.out.trans (if_neg (by omega)))
      have hg1 : (g == 1) = false := by simp [hg]
      have hg2 : (g = 1) = False := by simp [hg]
      have hg3 : (g != 1) = true := by simp [hg]
      clear hs HE hg
      have hM := mem_nil w; have hB := Below.refl w.heap.size w; have hC := True.intro
      go_enter Try.func18, Try.ntmps18
      go_wp2_with (first | (go_at_call 12; refine (c1 _).mono ?_; rintro e w' ⟨rfl, hb⟩; apply after_call (w := w) hb; (focus ((repeat' (first | (with_reducible exact hM) | (with_reducible apply mem_alloc) | (with_reducible apply mem_set) | (with_reducible apply mem_drew) | (with_reducible apply mem_drewN))); done)); (focus ((repeat' (first | (with_reducible exact hB) | (with_reducible exact Below.refl _ _) | (with_reducible refine Below.alloc ?_ ?_ _) | (with_reducible refine Below.setCell ?_ ?_ _) | (with_reducible refine Below.drew ?_) | (with_reducible refine below_drewN ?_ _) | (with_reducible exact Nat.le_refl _) | (with_reducible exact hB.size) | (simp [go_sem]; done) | (have := hB.size; simp [go_sem]; omega))); done)); (focus ((repeat' (first | (with_reducible exact hB) | (with_reducible exact Below.refl _ _) | (with_reducible refine Below.alloc ?_ ?_ _) | (with_reducible refine Below.setCell ?_ ?_ _) | (with_reducible refine Below.drew ?_) | (with_reducible refine below_drewN ?_ _) | (with_reducible exact Nat.le_refl _) | (with_reducible exact hB.size) | (simp [go_sem]; done) | (have := hB.size; simp [go_sem]; omega))); done)); clear hM hB hb; intro hM hB; (try clear hC); have hC := mem_facts hM; simp at hC) | (go_at_call 36; refine (c2 _).mono ?_; rintro e w' ⟨rfl, hb⟩; apply after_call (w := w) hb; (focus ((repeat' (first | (with_reducible exact hM) | (with_reducible apply mem_alloc) | (with_reducible apply mem_set) | (with_reducible apply mem_drew) | (with_reducible apply mem_drewN))); done)); (focus ((repeat' (first | (with_reducible exact hB) | (with_reducible exact Below.refl _ _) | (with_reducible refine Below.alloc ?_ ?_ _) | (with_reducible refine Below.setCell ?_ ?_ _) | (with_reducible refine Below.drew ?_) | (with_reducible refine below_drewN ?_ _) | (with_reducible exact Nat.le_refl _) | (with_reducible exact hB.size) | (simp [go_sem]; done) | (have := hB.size; simp [go_sem]; omega))); done)); (focus ((repeat' (first | (with_reducible exact hB) | (with_reducible exact Below.refl _ _) | (with_reducible refine Below.alloc ?_ ?_ _) | (with_reducible refine Below.setCell ?_ ?_ _) | (with_reducible refine Below.drew ?_) | (with_reducible refine below_drewN ?_ _) | (with_reducible exact Nat.le_refl _) | (with_reducible exact hB.size) | (simp [go_sem]; done) | (have := hB.size; simp [go_sem]; omega))); done)); clear hM hB hb; intro hM hB; (try clear hC); have hC := mem_facts hM; simp at hC))
      refine bodyPost_ret (by (simp [results, Try.results18, go_sem, *]; try rfl)) rfl ?_
      exact ⟨by rw [HF.out]; rfl, by (repeat' (first | (with_reducible exact hB) | (with_reducible exact Below.refl _ _) | (with_reducible refine Below.alloc ?_ ?_ _) | (with_reducible refine Below.setCell ?_ ?_ _) | (with_reducible refine Below.drew ?_) | (with_reducible refine below_drewN ?_ _) | (with_reducible exact Nat.le_refl _) | (with_reducible exact hB.size) | (simp [go_sem]; done) | (have := hB.size; simp [go_sem]; omega)))⟩
end Go.Proofs.Ytnbbgfcnbgjahaa

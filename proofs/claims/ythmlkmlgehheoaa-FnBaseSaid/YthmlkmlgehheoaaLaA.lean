
/- The program's small functions on lattices, walked: the way to C as 0, the row form. Under bounds on the numbers alone. -/
import Derived.Test.YthmlkmlgehheoaaLaP
import Derived.Test.YthmlkmlgehheoaaPosi
namespace Go.Proofs.Ythmlkmlgehheoaa
open Go.RowKit

theorem absV_ (x : Int) (hx : -4000000000000000000 ≤ x ∧ x ≤ 4000000000000000000) (w : World) : Calls Try.prog 41 #[.int .i64 x] w (fun E' W' => E' = .returned (.int .i64 (absI x)) ∧ w = W') := by
  have h1 : wrap64 (-x) = -x := wrap_mid (by omega)
  by_cases h : x < 0
  · have e : absI x = -x := by unfold absI; rw [if_pos h]
    have h2 : (-x > x) = True := by simp; omega
    go_enter Try.func41, Try.ntmps41
    go_wp2
    go_ret
    exact ⟨by first | rfl | (rw [e]; rfl), rfl⟩
  · have e : absI x = x := by unfold absI; rw [if_neg h]
    have h2 : (-x > x) = False := by simp; omega
    go_enter Try.func41, Try.ntmps41
    go_wp2
    go_ret
    exact ⟨by first | rfl | (rw [e]; rfl), rfl⟩
theorem rest_eq1 {n x : Int} (hn : 1 ≤ n) : (x.tmod n + n).tmod n = x % n ∧ -n < x.tmod n ∧ x.tmod n < n := by
  have h3 : -n < x.tmod n := by
    have := Int.lt_tmod_of_pos x (b := n) (by omega); omega
  have h4 : x.tmod n < n := Int.tmod_lt_of_pos x (b := n) (by omega)
  refine ⟨?_, h3, h4⟩
  rw [Int.tmod_eq_emod_of_nonneg (by omega), Int.add_emod_right]
  have e := Int.mul_tdiv_add_tmod x n
  have e2 : x.tmod n = x + n * (-(x.tdiv n)) := by rw [Int.mul_neg]; omega
  rw [e2, Int.add_mul_emod_self_left]
theorem restBy_ (n x : Int) (hn : 1 ≤ n ∧ n ≤ 4000000000000000000) (w : World) : Calls Try.prog 48 #[.int .i64 n, .int .i64 x] w (fun E' W' => E' = .returned (.int .i64 (x % n)) ∧ w = W') := by
  obtain ⟨h1, h2⟩ := hn
  obtain ⟨e1, e2, e3⟩ := rest_eq1 (x := x) h1
  have hz : (n == 0) = false := by simp; omega
  have hb : 0 ≤ x % n ∧ x % n < n := ⟨Int.emod_nonneg _ (by omega), Int.emod_lt_of_pos _ (by omega)⟩
  obtain ⟨r, hr⟩ : ∃ r, r = x.tmod n := ⟨_, rfl⟩
  rw [← hr] at e1 e2 e3
  have hr' := hr.symm
  clear hr
  generalize x % n = y at *
  go_enter Try.func48, Try.ntmps48
  go_wp2
  go_ret
  exact ⟨rfl, rfl⟩
/-- at the head of a round of 'cleared' -/
def ClRel (m0 : M) (w : World) (g : Nat) (wr : World) : Prop := ∃ m : M, m.c.natAbs = g ∧ clG m0 m ∧
  Mem wr [(w.heap.size + 1, #[.int .i64 0, .int .i64 0, .int .i64 0, .int .i64 0], 33), (w.heap.size, #[.int .i64 m.a, .int .i64 m.b, .int .i64 m.c, .int .i64 m.d], 33)] ∧ Below w.heap.size w wr
/-- what 'cleared' returns -/
def ClPost (m0 : M) (w : World) (e : Ending) (W' : World) : Prop := ∃ a b d : Int, clG m0 ⟨a, b, 0, d⟩ ∧ e = .returned (.agg #[.int .i64 a, .int .i64 b, .int .i64 0, .int .i64 d]) ∧ Below w.heap.size w W'
theorem cl_turn {a b c d q : Int} (hc : absI c ≤ 1000000) (hd : absI d ≤ 2000000000000) (ha : absI a ≤ 1000000) (hb : absI b ≤ 2000000000000) (hq : absI q ≤ 1000000) :
    tm ⟨(tm ⟨0, -1, 1, 0⟩ ⟨1, q, 0, 1⟩).a, (tm ⟨0, -1, 1, 0⟩ ⟨1, q, 0, 1⟩).b, (tm ⟨0, -1, 1, 0⟩ ⟨1, q, 0, 1⟩).c, (tm ⟨0, -1, 1, 0⟩ ⟨1, q, 0, 1⟩).d⟩ ⟨a, b, c, d⟩ = ⟨-c, -d, a + q * c, b + q * d⟩ := by
  have k1 := absI_bd c
  have k2 := absI_bd d
  have k3 := absI_bd q
  have k4 := absI_bd a
  have k5 := absI_bd b
  have e : tm ⟨0, -1, 1, 0⟩ ⟨1, q, 0, 1⟩ = ⟨0, -1, 1, q⟩ := by
    rw [tm_x (by decide) (inB_iff.2 ⟨by simp, by dsimp only; omega, by simp, by simp⟩)]
    simp [xm]
  rw [e]
  simp only [tm]
  have p1 := mul_bd (x := q) (y := c) (a := 1000000) (b := 1000000) ⟨by omega, by omega⟩ ⟨by omega, by omega⟩
  have p2 := mul_bd (x := q) (y := d) (a := 1000000) (b := 2000000000000) ⟨by omega, by omega⟩ ⟨by omega, by omega⟩
  simp only [Int.zero_mul, Int.one_mul, Int.neg_mul]
  rw [wrap_mid (x := 0) (by omega), wrap_mid (x := -c) (by omega), wrap_mid (x := -d) (by omega), wrap_mid (x := a) (by omega), wrap_mid (x := b) (by omega), wrap_mid (x := q * c) (by omega), wrap_mid (x := q * d) (by omega)]
  simp only [Int.zero_add]
  rw [wrap_mid (x := -c) (by omega), wrap_mid (x := -d) (by omega), wrap_mid (x := a + q * c) (by omega), wrap_mid (x := b + q * d) (by omega)]
set_option maxHeartbeats 4000000 in
theorem cleared_ (a b c d : Int) (m0 : M) (h : clG m0 ⟨a, b, c, d⟩) (w : World) : Calls Try.prog 47 #[.agg #[.int .i64 a, .int .i64 b, .int .i64 c, .int .i64 d]] w (ClPost m0 w) := by
  have hM := mem_nil w; have hB := Below.refl w.heap.size w; have hC := True.intro
  go_enter Try.func47, Try.ntmps47
  go_wp2
  go_loopg [] c.natAbs (fun gk wr => ClRel m0 w gk wr)
  case atStart =>
    refine ⟨⟨a, b, c, d⟩, rfl, h, ?_, by (repeat' (first | (with_reducible exact hB) | (with_reducible exact Below.refl _ _) | (with_reducible refine Below.alloc ?_ ?_ _) | (with_reducible refine Below.setCell ?_ ?_ _) | (with_reducible refine Below.drew ?_) | (with_reducible refine below_drewN ?_ _) | (with_reducible exact Nat.le_refl _) | (with_reducible exact hB.size) | (simp [go_sem]; done) | (have := hB.size; simp [go_sem]; omega)))⟩
    apply mem_drop 0
    · (repeat' (first | (with_reducible exact hM) | (with_reducible apply mem_alloc) | (with_reducible apply mem_set) | (with_reducible apply mem_drew) | (with_reducible apply mem_drewN)))
    · simp
  case round =>
    obtain ⟨⟨p, q, r, t⟩, rfl, hcl, hM', hB'⟩ := hrel
    (try clear hC); clear hM hB; have hM := hM'; have hB := hB'; clear hM' hB'; have hC := mem_facts hM; simp at hC
    have HG := Lib.hid hcl
    clear h hcl
    by_cases hr : r = 0
    · subst hr
      go_wp2
      refine bodyPost_ret (by (simp [results, Try.results47, go_sem, *]; try rfl)) rfl ?_
      exact ⟨p, q, t, HG.out, rfl, by (repeat' (first | (with_reducible exact hB) | (with_reducible exact Below.refl _ _) | (with_reducible refine Below.alloc ?_ ?_ _) | (with_reducible refine Below.setCell ?_ ?_ _) | (with_reducible refine Below.drew ?_) | (with_reducible refine below_drewN ?_ _) | (with_reducible exact Nat.le_refl _) | (with_reducible exact hB.size) | (simp [go_sem]; done) | (have := hB.size; simp [go_sem]; omega)))⟩
    · have hr1 : (r == 0) = false := by simp [hr]
      have hr2 : (r = 0) = False := by simp [hr]
      have hne : decide (r = 0) = false := by simp [hr]
      obtain ⟨g1, g2⟩ := clG_next HG.out hr
      have g3 := clG_neg g1
      have hq' : (-p).tdiv r = -(p.tdiv r) := Int.neg_tdiv ..
      have hb := HG.out.2.2
      have HQ := Lib.hid (cl_turn (a := p) (b := q) (c := r) (d := t) (q := -(p.tdiv r)) hb.2.1 hb.2.2.2.2 hb.1 hb.2.2.2.1 (by rw [absI_neg]; exact g2))
      have HT := Lib.hid (tmod_lt' (a := p) hr)
      have e1 : p + -(p.tdiv r) * r = p - p.tdiv r * r := by grind
      have e2 : q + -(p.tdiv r) * t = q - p.tdiv r * t := by grind
      have HE1 := Lib.hid e1
      have HE2 := Lib.hid e2
      have HC := Lib.hid g3
      have hp1 := absI_bd p
      have hp2 := hb.1
      have hq1 := absI_bd (p.tdiv r)
      have hw1 : IntKind.i64.wrap (-p) = -p := by rw [iw]; exact wrap_mid (by dsimp only at hp2; omega)
      have hw2 : IntKind.i64.wrap (-(p.tdiv r)) = -(p.tdiv r) := by rw [iw]; exact wrap_mid (by omega)
      clear hb e1 e2 g1 g2 g3 hp1 hp2 hq1 hr
      generalize p.tdiv r = k at *
      go_wp2_with fail
      (refine wp_region_T2 (fun W' => (W'.cell? ⟨w.heap.size, 0, none⟩ = some (.int .i64 p) ∧ W'.cell? ⟨w.heap.size, 1, none⟩ = some (.int .i64 q) ∧ W'.cell? ⟨w.heap.size, 2, none⟩ = some (.int .i64 r) ∧ W'.cell? ⟨w.heap.size, 3, none⟩ = some (.int .i64 t))) 11 (by kernel_rfl) ?_ ?_; (focus (simp [*, go_sem]; done)); intro hS)
      (refine wpT_take (i := 1) (oi := ?_) (v := ?_) hS ?_ ?_ ?_ ?_ ?_ ?_; rotate_left 2; (focus (simp only [List.getElem?_toArray, List.getElem?_cons_zero, List.getElem?_cons_succ]; exact rfl)); (focus (kernel_rfl)); (focus (rfl)); (focus (intro w' hW; (try dsimp only at hW); go_simp; (try with_reducible rfl); done)); (focus (exact fun _ _ _ h => h)); (try simp only [Act.put, List.setIfInBounds_toArray, List.set_cons_zero, List.set_cons_succ])); (refine wpT_take (i := 2) (oi := ?_) (v := ?_) hS ?_ ?_ ?_ ?_ ?_ ?_; rotate_left 2; (focus (simp only [List.getElem?_toArray, List.getElem?_cons_zero, List.getElem?_cons_succ]; exact rfl)); (focus (kernel_rfl)); (focus (rfl)); (focus (intro w' hW; (try dsimp only at hW); go_simp; (try with_reducible rfl); done)); (focus (exact fun _ _ _ h => h)); (try simp only [Act.put, List.setIfInBounds_toArray, List.set_cons_zero, List.set_cons_succ])); (refine wpT_take (i := 3) (oi := ?_) (v := ?_) hS ?_ ?_ ?_ ?_ ?_ ?_; rotate_left 2; (focus (simp only [List.getElem?_toArray, List.getElem?_cons_zero, List.getElem?_cons_succ]; exact rfl)); (focus (kernel_rfl)); (focus (rfl)); (focus (intro w' hW; (try dsimp only at hW); go_simp; (try with_reducible rfl); done)); (focus (exact fun _ _ _ h => h)); (try simp only [Act.put, List.setIfInBounds_toArray, List.set_cons_zero, List.set_cons_succ])); (refine wpT_take (i := 4) (oi := ?_) (v := ?_) hS ?_ ?_ ?_ ?_ ?_ ?_; rotate_left 2; (focus (simp only [List.getElem?_toArray, List.getElem?_cons_zero, List.getElem?_cons_succ]; exact rfl)); (focus (kernel_rfl)); (focus (rfl)); (focus (intro w' hW; (try dsimp only at hW); go_simp; (try with_reducible rfl); done)); (focus (exact fun _ _ _ h => h)); (try simp only [Act.put, List.setIfInBounds_toArray, List.set_cons_zero, List.set_cons_succ])); (refine wpT_take (i := 5) (oi := ?_) (v := ?_) hS ?_ ?_ ?_ ?_ ?_ ?_; rotate_left 2; (focus (simp only [List.getElem?_toArray, List.getElem?_cons_zero, List.getElem?_cons_succ]; exact rfl)); (focus (kernel_rfl)); (focus (rfl)); (focus (intro w' hW; (try dsimp only at hW); go_simp; (try with_reducible rfl); done)); (focus (exact fun _ _ _ h => h)); (try simp only [Act.put, List.setIfInBounds_toArray, List.set_cons_zero, List.set_cons_succ])); (refine wpT_take (i := 6) (oi := ?_) (v := ?_) hS ?_ ?_ ?_ ?_ ?_ ?_; rotate_left 2; (focus (simp only [List.getElem?_toArray, List.getElem?_cons_zero, List.getElem?_cons_succ]; exact rfl)); (focus (kernel_rfl)); (focus (rfl)); (focus (intro w' hW; (try dsimp only at hW); go_simp; (try with_reducible rfl); done)); (focus (exact fun _ _ _ h => h)); (try simp only [Act.put, List.setIfInBounds_toArray, List.set_cons_zero, List.set_cons_succ])); (refine wpT_take (i := 9) (oi := ?_) (v := ?_) hS ?_ ?_ ?_ ?_ ?_ ?_; rotate_left 2; (focus (simp only [List.getElem?_toArray, List.getElem?_cons_zero, List.getElem?_cons_succ]; exact rfl)); (focus (kernel_rfl)); (focus (rfl)); (focus (intro w' hW; (try dsimp only at hW); go_simp; (try with_reducible rfl); done)); (focus (exact fun _ _ _ h => h)); (try simp only [Act.put, List.setIfInBounds_toArray, List.set_cons_zero, List.set_cons_succ]))
      (refine wpT_one (i := 0) (oi := ?_) ?_ ?_ ?_ ?_; rotate_left 1; (focus (kernel_rfl)); (focus (simp only [List.getElem?_toArray, List.getElem?_cons_zero]; exact rfl)); (focus (rfl)); go_simp)
      (go_at_call 49; refine (turn4_ _).mono ?_; rintro e w' ⟨rfl, hb⟩; apply after_call (w := w) hb; (focus ((repeat' (first | (with_reducible exact hM) | (with_reducible apply mem_alloc) | (with_reducible apply mem_set) | (with_reducible apply mem_drew) | (with_reducible apply mem_drewN))); done)); (focus ((repeat' (first | (with_reducible exact hB) | (with_reducible exact Below.refl _ _) | (with_reducible refine Below.alloc ?_ ?_ _) | (with_reducible refine Below.setCell ?_ ?_ _) | (with_reducible refine Below.drew ?_) | (with_reducible refine below_drewN ?_ _) | (with_reducible exact Nat.le_refl _) | (with_reducible exact hB.size) | (simp [go_sem]; done) | (have := hB.size; simp [go_sem]; omega))); done)); (focus ((repeat' (first | (with_reducible exact hB) | (with_reducible exact Below.refl _ _) | (with_reducible refine Below.alloc ?_ ?_ _) | (with_reducible refine Below.setCell ?_ ?_ _) | (with_reducible refine Below.drew ?_) | (with_reducible refine below_drewN ?_ _) | (with_reducible exact Nat.le_refl _) | (with_reducible exact hB.size) | (simp [go_sem]; done) | (have := hB.size; simp [go_sem]; omega))); done)); clear hM hB hb; intro hM hB; (try clear hC); have hC := mem_facts hM; simp at hC)
      (first | (with_reducible refine wpT_hold ?_ ?_; (focus (simp [*, go_sem]; done)); clear hS; intro hS; (try dsimp only at hS)) | (refine held_intro ?_ ?_; (focus (simp [*, go_sem]; done)); clear hS; intro hS))
      (refine wpT_one (i := 7) (oi := ?_) ?_ ?_ ?_ ?_; rotate_left 1; (focus (kernel_rfl)); (focus (simp only [List.getElem?_toArray, List.getElem?_cons_zero, List.getElem?_cons_succ]; exact rfl)); (focus (rfl)); go_simp)
      (go_at_call 51; refine (shift4_ _ _).mono ?_; rintro e w' ⟨rfl, hb⟩; apply after_call (w := w) hb; (focus ((repeat' (first | (with_reducible exact hM) | (with_reducible apply mem_alloc) | (with_reducible apply mem_set) | (with_reducible apply mem_drew) | (with_reducible apply mem_drewN))); done)); (focus ((repeat' (first | (with_reducible exact hB) | (with_reducible exact Below.refl _ _) | (with_reducible refine Below.alloc ?_ ?_ _) | (with_reducible refine Below.setCell ?_ ?_ _) | (with_reducible refine Below.drew ?_) | (with_reducible refine below_drewN ?_ _) | (with_reducible exact Nat.le_refl _) | (with_reducible exact hB.size) | (simp [go_sem]; done) | (have := hB.size; simp [go_sem]; omega))); done)); (focus ((repeat' (first | (with_reducible exact hB) | (with_reducible exact Below.refl _ _) | (with_reducible refine Below.alloc ?_ ?_ _) | (with_reducible refine Below.setCell ?_ ?_ _) | (with_reducible refine Below.drew ?_) | (with_reducible refine below_drewN ?_ _) | (with_reducible exact Nat.le_refl _) | (with_reducible exact hB.size) | (simp [go_sem]; done) | (have := hB.size; simp [go_sem]; omega))); done)); clear hM hB hb; intro hM hB; (try clear hC); have hC := mem_facts hM; simp at hC)
      (first | (with_reducible refine wpT_hold ?_ ?_; (focus (simp [*, go_sem]; done)); clear hS; intro hS; (try dsimp only at hS)) | (refine held_intro ?_ ?_; (focus (simp [*, go_sem]; done)); clear hS; intro hS))
      (refine wpT_one (i := 8) (oi := ?_) ?_ ?_ ?_ ?_; rotate_left 1; (focus (kernel_rfl)); (focus (simp only [List.getElem?_toArray, List.getElem?_cons_zero, List.getElem?_cons_succ]; exact rfl)); (focus (rfl)); go_simp)
      (go_at_call 50; refine (times_ _ _ _ _ _ _ _ _ _).mono ?_; rintro e w' ⟨rfl, hb⟩; apply after_call (w := w) hb; (focus ((repeat' (first | (with_reducible exact hM) | (with_reducible apply mem_alloc) | (with_reducible apply mem_set) | (with_reducible apply mem_drew) | (with_reducible apply mem_drewN))); done)); (focus ((repeat' (first | (with_reducible exact hB) | (with_reducible exact Below.refl _ _) | (with_reducible refine Below.alloc ?_ ?_ _) | (with_reducible refine Below.setCell ?_ ?_ _) | (with_reducible refine Below.drew ?_) | (with_reducible refine below_drewN ?_ _) | (with_reducible exact Nat.le_refl _) | (with_reducible exact hB.size) | (simp [go_sem]; done) | (have := hB.size; simp [go_sem]; omega))); done)); (focus ((repeat' (first | (with_reducible exact hB) | (with_reducible exact Below.refl _ _) | (with_reducible refine Below.alloc ?_ ?_ _) | (with_reducible refine Below.setCell ?_ ?_ _) | (with_reducible refine Below.drew ?_) | (with_reducible refine below_drewN ?_ _) | (with_reducible exact Nat.le_refl _) | (with_reducible exact hB.size) | (simp [go_sem]; done) | (have := hB.size; simp [go_sem]; omega))); done)); clear hM hB hb; intro hM hB; (try clear hC); have hC := mem_facts hM; simp at hC)
      (first | (with_reducible refine wpT_hold ?_ ?_; (focus (simp [*, go_sem]; done)); clear hS; intro hS; (try dsimp only at hS)) | (refine held_intro ?_ ?_; (focus (simp [*, go_sem]; done)); clear hS; intro hS))
      (refine wpT_one (i := 10) (oi := ?_) ?_ ?_ ?_ ?_; rotate_left 1; (focus (kernel_rfl)); (focus (simp only [List.getElem?_toArray, List.getElem?_cons_zero, List.getElem?_cons_succ]; exact rfl)); (focus (rfl)); go_simp)
      (go_at_call 50; refine (times_ _ _ _ _ _ _ _ _ _).mono ?_; rintro e w' ⟨rfl, hb⟩; apply after_call (w := w) hb; (focus ((repeat' (first | (with_reducible exact hM) | (with_reducible apply mem_alloc) | (with_reducible apply mem_set) | (with_reducible apply mem_drew) | (with_reducible apply mem_drewN))); done)); (focus ((repeat' (first | (with_reducible exact hB) | (with_reducible exact Below.refl _ _) | (with_reducible refine Below.alloc ?_ ?_ _) | (with_reducible refine Below.setCell ?_ ?_ _) | (with_reducible refine Below.drew ?_) | (with_reducible refine below_drewN ?_ _) | (with_reducible exact Nat.le_refl _) | (with_reducible exact hB.size) | (simp [go_sem]; done) | (have := hB.size; simp [go_sem]; omega))); done)); (focus ((repeat' (first | (with_reducible exact hB) | (with_reducible exact Below.refl _ _) | (with_reducible refine Below.alloc ?_ ?_ _) | (with_reducible refine Below.setCell ?_ ?_ _) | (with_reducible refine Below.drew ?_) | (with_reducible refine below_drewN ?_ _) | (with_reducible exact Nat.le_refl _) | (with_reducible exact hB.size) | (simp [go_sem]; done) | (have := hB.size; simp [go_sem]; omega))); done)); clear hM hB hb; intro hM hB; (try clear hC); have hC := mem_facts hM; simp at hC)
      (first | (with_reducible refine wpT_hold ?_ ?_; (focus (simp [*, go_sem]; done)); clear hS; intro hS; (try dsimp only at hS)) | (refine held_intro ?_ ?_; (focus (simp [*, go_sem]; done)); clear hS; intro hS))
      (refine wpT_one (i := 11) (oi := ?_) ?_ ?_ ?_ ?_; rotate_left 1; (focus (kernel_rfl)); (focus (simp only [List.getElem?_toArray, List.getElem?_cons_zero, List.getElem?_cons_succ]; exact rfl)); (focus (rfl)); go_simp)
      refine wpT_done (by kernel_rfl) ?_ _
      go_wp2_with fail
      go_roundg (p - k * r).natAbs
      case measure => exact HT.out
      case rel =>
        refine ⟨⟨-r, -t, p - k * r, q - k * t⟩, rfl, HC.out, ?_, by (repeat' (first | (with_reducible exact hB) | (with_reducible exact Below.refl _ _) | (with_reducible refine Below.alloc ?_ ?_ _) | (with_reducible refine Below.setCell ?_ ?_ _) | (with_reducible refine Below.drew ?_) | (with_reducible refine below_drewN ?_ _) | (with_reducible exact Nat.le_refl _) | (with_reducible exact hB.size) | (simp [go_sem]; done) | (have := hB.size; simp [go_sem]; omega)))⟩
        apply mem_drop 0
        · (repeat' (first | (with_reducible exact hM) | (with_reducible apply mem_alloc) | (with_reducible apply mem_set) | (with_reducible apply mem_drew) | (with_reducible apply mem_drewN)))
        · simp [HQ.out, HE1.out, HE2.out]
end Go.Proofs.Ythmlkmlgehheoaa

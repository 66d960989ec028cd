
/- The program's double forms and joins, walked. No condition on what is exported. -/
import Derived.Test.YtcnhjnmnflehhaaLaE
import Derived.Test.YtcnhjnmnflehhaaLaQ
namespace Go.Proofs.Ytcnhjnmnflehhaa
open Go.RowKit

/-- the greatest common divisor of two numbers -/
theorem cGcd_ (a b : Nat) (ha : a ≤ 4000000000000) (hb : b ≤ 4000000000000) (w : World) : Calls Try.prog 70 #[.int .i64 a, .int .i64 b] w (fun E' W' => E' = .returned (.int .i64 (Nat.gcd a b : Nat)) ∧ Below w.heap.size w W') := by
  have hM := mem_nil w; have hB := Below.refl w.heap.size w; have hC := True.intro
  go_enter Try.func70, Try.ntmps70
  go_wp2
  go_loopw [0, 1] (fun v0 v1 wr => ∃ x y : Nat, v0 = .int .i64 x ∧ v1 = .int .i64 y ∧ x ≤ 4000000000000 ∧ y ≤ 4000000000000 ∧ Nat.gcd x y = Nat.gcd a b ∧ Below w.heap.size w wr) (fun _ v1 _ => (intOf v1).toNat)
  case atStart => exact ⟨a, b, rfl, rfl, ha, hb, rfl, by (repeat' (first | (with_reducible exact hB) | (with_reducible exact Below.refl _ _) | (with_reducible refine Below.alloc ?_ ?_ _) | (with_reducible refine Below.setCell ?_ ?_ _) | (with_reducible refine Below.drew ?_) | (with_reducible refine below_drewN ?_ _) | (with_reducible exact Nat.le_refl _) | (with_reducible exact hB.size) | (simp [go_sem]; done) | (have := hB.size; simp [go_sem]; omega)))⟩
  case round =>
    obtain ⟨x, y, rfl, rfl, hx, hy, hg, hB'⟩ := hrel
    clear hB hC hM
    have hB := hB'
    clear hB'
    have HG := Lib.hid hg
    clear hg
    by_cases h0 : y = 0
    · subst h0
      go_wp2
      go_ret
      have := HG.out
      rw [Nat.gcd_zero_right] at this
      exact ⟨by rw [this]; rfl, by (repeat' (first | (with_reducible exact hB) | (with_reducible exact Below.refl _ _) | (with_reducible refine Below.alloc ?_ ?_ _) | (with_reducible refine Below.setCell ?_ ?_ _) | (with_reducible refine Below.drew ?_) | (with_reducible refine below_drewN ?_ _) | (with_reducible exact Nat.le_refl _) | (with_reducible exact hB.size) | (simp [go_sem]; done) | (have := hB.size; simp [go_sem]; omega)))⟩
    · have hy0 : ((y : Int) == 0) = false := by simp; omega
      have hy1 : ((y : Int) != 0) = true := by simp; omega
      have ht : (x : Int).tmod (y : Int) = ((x % y : Nat) : Int) := by rw [Int.tmod_eq_emod_of_nonneg (by omega)]; omega
      have hlt : x % y < y := Nat.mod_lt _ (by omega)
      have HE := Lib.hid (show Nat.gcd y (x % y) = Nat.gcd x y from by rw [Nat.gcd_comm, ← Nat.gcd_rec, Nat.gcd_comm])
      go_wp2_with fail
      go_quiet (fail)
      go_wp2
      go_roundw
      case rel => exact ⟨y, x % y, rfl, by simp, by omega, by omega, by rw [HE.out, HG.out], by (repeat' (first | (with_reducible exact hB) | (with_reducible exact Below.refl _ _) | (with_reducible refine Below.alloc ?_ ?_ _) | (with_reducible refine Below.setCell ?_ ?_ _) | (with_reducible refine Below.drew ?_) | (with_reducible refine below_drewN ?_ _) | (with_reducible exact Nat.le_refl _) | (with_reducible exact hB.size) | (simp [go_sem]; done) | (have := hB.size; simp [go_sem]; omega)))⟩
      case measure => simp [intOf]; omega
def mDouble (m : M) : (Int × Int) × Bool := if inB m && numB (dbl m).2 then (dbl m, true) else ((0, 0), false)
theorem LatticeDouble_ (a b c d : Int) (w : World) : Calls Try.prog 23 #[.agg #[.int .i64 a, .int .i64 b, .int .i64 c, .int .i64 d]] w (fun E' W' => E' = .returned (.tuple #[.int .i64 (mDouble ⟨a, b, c, d⟩).1.1, .int .i64 (mDouble ⟨a, b, c, d⟩).1.2, .bool (mDouble ⟨a, b, c, d⟩).2]) ∧ Below w.heap.size w W') := by
  cases h1 : inB ⟨a, b, c, d⟩
  · have hM := mem_nil w; have hB := Below.refl w.heap.size w; have hC := True.intro
    go_enter Try.func23, Try.ntmps23
    go_wp2_with (go_at_call 37; refine (in_ _ _ _ _ _).mono ?_; rintro e w' ⟨rfl, hb⟩; apply after_call (w := w) hb; (focus ((repeat' (first | (with_reducible exact hM) | (with_reducible apply mem_alloc) | (with_reducible apply mem_set) | (with_reducible apply mem_drew) | (with_reducible apply mem_drewN))); done)); (focus ((repeat' (first | (with_reducible exact hB) | (with_reducible exact Below.refl _ _) | (with_reducible refine Below.alloc ?_ ?_ _) | (with_reducible refine Below.setCell ?_ ?_ _) | (with_reducible refine Below.drew ?_) | (with_reducible refine below_drewN ?_ _) | (with_reducible exact Nat.le_refl _) | (with_reducible exact hB.size) | (simp [go_sem]; done) | (have := hB.size; simp [go_sem]; omega))); done)); (focus ((repeat' (first | (with_reducible exact hB) | (with_reducible exact Below.refl _ _) | (with_reducible refine Below.alloc ?_ ?_ _) | (with_reducible refine Below.setCell ?_ ?_ _) | (with_reducible refine Below.drew ?_) | (with_reducible refine below_drewN ?_ _) | (with_reducible exact Nat.le_refl _) | (with_reducible exact hB.size) | (simp [go_sem]; done) | (have := hB.size; simp [go_sem]; omega))); done)); clear hM hB hb; intro hM hB; (try clear hC); have hC := mem_facts hM; simp at hC)
    go_ret3
    exact ⟨by simp [mDouble, h1], by (repeat' (first | (with_reducible exact hB) | (with_reducible exact Below.refl _ _) | (with_reducible refine Below.alloc ?_ ?_ _) | (with_reducible refine Below.setCell ?_ ?_ _) | (with_reducible refine Below.drew ?_) | (with_reducible refine below_drewN ?_ _) | (with_reducible exact Nat.le_refl _) | (with_reducible exact hB.size) | (simp [go_sem]; done) | (have := hB.size; simp [go_sem]; omega)))⟩
  · have c1 := fun W => double_ a b c d h1 W
    have HD := Lib.hid (show mDouble ⟨a, b, c, d⟩ = if numB (dbl ⟨a, b, c, d⟩).2 then (dbl ⟨a, b, c, d⟩, true) else ((0, 0), false) by simp [mDouble, h1])
    generalize dbl ⟨a, b, c, d⟩ = p at *
    obtain ⟨s, t⟩ := p
    dsimp only at c1 HD
    cases h2 : numB t
    · rw [h2] at HD
      have hM := mem_nil w; have hB := Below.refl w.heap.size w; have hC := True.intro
      go_enter Try.func23, Try.ntmps23
      go_wp2_with (first | (go_at_call 37; refine (in_ _ _ _ _ _).mono ?_; rintro e w' ⟨rfl, hb⟩; apply after_call (w := w) hb; (focus ((repeat' (first | (with_reducible exact hM) | (with_reducible apply mem_alloc) | (with_reducible apply mem_set) | (with_reducible apply mem_drew) | (with_reducible apply mem_drewN))); done)); (focus ((repeat' (first | (with_reducible exact hB) | (with_reducible exact Below.refl _ _) | (with_reducible refine Below.alloc ?_ ?_ _) | (with_reducible refine Below.setCell ?_ ?_ _) | (with_reducible refine Below.drew ?_) | (with_reducible refine below_drewN ?_ _) | (with_reducible exact Nat.le_refl _) | (with_reducible exact hB.size) | (simp [go_sem]; done) | (have := hB.size; simp [go_sem]; omega))); done)); (focus ((repeat' (first | (with_reducible exact hB) | (with_reducible exact Below.refl _ _) | (with_reducible refine Below.alloc ?_ ?_ _) | (with_reducible refine Below.setCell ?_ ?_ _) | (with_reducible refine Below.drew ?_) | (with_reducible refine below_drewN ?_ _) | (with_reducible exact Nat.le_refl _) | (with_reducible exact hB.size) | (simp [go_sem]; done) | (have := hB.size; simp [go_sem]; omega))); done)); clear hM hB hb; intro hM hB; (try clear hC); have hC := mem_facts hM; simp at hC) | (go_at_call 51; refine (c1 _).mono ?_; rintro e w' ⟨rfl, hb⟩; apply after_call (w := w) hb; (focus ((repeat' (first | (with_reducible exact hM) | (with_reducible apply mem_alloc) | (with_reducible apply mem_set) | (with_reducible apply mem_drew) | (with_reducible apply mem_drewN))); done)); (focus ((repeat' (first | (with_reducible exact hB) | (with_reducible exact Below.refl _ _) | (with_reducible refine Below.alloc ?_ ?_ _) | (with_reducible refine Below.setCell ?_ ?_ _) | (with_reducible refine Below.drew ?_) | (with_reducible refine below_drewN ?_ _) | (with_reducible exact Nat.le_refl _) | (with_reducible exact hB.size) | (simp [go_sem]; done) | (have := hB.size; simp [go_sem]; omega))); done)); (focus ((repeat' (first | (with_reducible exact hB) | (with_reducible exact Below.refl _ _) | (with_reducible refine Below.alloc ?_ ?_ _) | (with_reducible refine Below.setCell ?_ ?_ _) | (with_reducible refine Below.drew ?_) | (with_reducible refine below_drewN ?_ _) | (with_reducible exact Nat.le_refl _) | (with_reducible exact hB.size) | (simp [go_sem]; done) | (have := hB.size; simp [go_sem]; omega))); done)); clear hM hB hb; intro hM hB; (try clear hC); have hC := mem_facts hM; simp at hC) | (go_at_call 39; refine (numberIn_ _ _).mono ?_; rintro e w' ⟨rfl, rfl⟩))
      go_ret3
      exact ⟨by rw [HD.out]; rfl, by (repeat' (first | (with_reducible exact hB) | (with_reducible exact Below.refl _ _) | (with_reducible refine Below.alloc ?_ ?_ _) | (with_reducible refine Below.setCell ?_ ?_ _) | (with_reducible refine Below.drew ?_) | (with_reducible refine below_drewN ?_ _) | (with_reducible exact Nat.le_refl _) | (with_reducible exact hB.size) | (simp [go_sem]; done) | (have := hB.size; simp [go_sem]; omega)))⟩
    · rw [h2] at HD
      have hM := mem_nil w; have hB := Below.refl w.heap.size w; have hC := True.intro
      go_enter Try.func23, Try.ntmps23
      go_wp2_with (first | (go_at_call 37; refine (in_ _ _ _ _ _).mono ?_; rintro e w' ⟨rfl, hb⟩; apply after_call (w := w) hb; (focus ((repeat' (first | (with_reducible exact hM) | (with_reducible apply mem_alloc) | (with_reducible apply mem_set) | (with_reducible apply mem_drew) | (with_reducible apply mem_drewN))); done)); (focus ((repeat' (first | (with_reducible exact hB) | (with_reducible exact Below.refl _ _) | (with_reducible refine Below.alloc ?_ ?_ _) | (with_reducible refine Below.setCell ?_ ?_ _) | (with_reducible refine Below.drew ?_) | (with_reducible refine below_drewN ?_ _) | (with_reducible exact Nat.le_refl _) | (with_reducible exact hB.size) | (simp [go_sem]; done) | (have := hB.size; simp [go_sem]; omega))); done)); (focus ((repeat' (first | (with_reducible exact hB) | (with_reducible exact Below.refl _ _) | (with_reducible refine Below.alloc ?_ ?_ _) | (with_reducible refine Below.setCell ?_ ?_ _) | (with_reducible refine Below.drew ?_) | (with_reducible refine below_drewN ?_ _) | (with_reducible exact Nat.le_refl _) | (with_reducible exact hB.size) | (simp [go_sem]; done) | (have := hB.size; simp [go_sem]; omega))); done)); clear hM hB hb; intro hM hB; (try clear hC); have hC := mem_facts hM; simp at hC) | (go_at_call 51; refine (c1 _).mono ?_; rintro e w' ⟨rfl, hb⟩; apply after_call (w := w) hb; (focus ((repeat' (first | (with_reducible exact hM) | (with_reducible apply mem_alloc) | (with_reducible apply mem_set) | (with_reducible apply mem_drew) | (with_reducible apply mem_drewN))); done)); (focus ((repeat' (first | (with_reducible exact hB) | (with_reducible exact Below.refl _ _) | (with_reducible refine Below.alloc ?_ ?_ _) | (with_reducible refine Below.setCell ?_ ?_ _) | (with_reducible refine Below.drew ?_) | (with_reducible refine below_drewN ?_ _) | (with_reducible exact Nat.le_refl _) | (with_reducible exact hB.size) | (simp [go_sem]; done) | (have := hB.size; simp [go_sem]; omega))); done)); (focus ((repeat' (first | (with_reducible exact hB) | (with_reducible exact Below.refl _ _) | (with_reducible refine Below.alloc ?_ ?_ _) | (with_reducible refine Below.setCell ?_ ?_ _) | (with_reducible refine Below.drew ?_) | (with_reducible refine below_drewN ?_ _) | (with_reducible exact Nat.le_refl _) | (with_reducible exact hB.size) | (simp [go_sem]; done) | (have := hB.size; simp [go_sem]; omega))); done)); clear hM hB hb; intro hM hB; (try clear hC); have hC := mem_facts hM; simp at hC) | (go_at_call 39; refine (numberIn_ _ _).mono ?_; rintro e w' ⟨rfl, rfl⟩))
      go_ret3
      exact ⟨by rw [HD.out]; rfl, by (repeat' (first | (with_reducible exact hB) | (with_reducible exact Below.refl _ _) | (with_reducible refine Below.alloc ?_ ?_ _) | (with_reducible refine Below.setCell ?_ ?_ _) | (with_reducible refine Below.drew ?_) | (with_reducible refine below_drewN ?_ _) | (with_reducible exact Nat.le_refl _) | (with_reducible exact hB.size) | (simp [go_sem]; done) | (have := hB.size; simp [go_sem]; omega)))⟩
set_option maxHeartbeats 4000000 in
theorem join_ (a b d e f h : Int) (h1 : RF ⟨a, b, 0, d⟩) (h2 : RF ⟨e, f, 0, h⟩) (ha : a ≤ 100) (hd : d ≤ 100) (he : e ≤ 100) (hh : h ≤ 100) (w : World) :
    Calls Try.prog 60 #[.agg #[.int .i64 a, .int .i64 b, .int .i64 0, .int .i64 d], .agg #[.int .i64 e, .int .i64 f, .int .i64 0, .int .i64 h]] w (fun E' W' => E' = .returned (.agg #[.int .i64 ((jnM ⟨a, b, 0, d⟩ ⟨e, f, 0, h⟩)).a, .int .i64 ((jnM ⟨a, b, 0, d⟩ ⟨e, f, 0, h⟩)).b, .int .i64 ((jnM ⟨a, b, 0, d⟩ ⟨e, f, 0, h⟩)).c, .int .i64 ((jnM ⟨a, b, 0, d⟩ ⟨e, f, 0, h⟩)).d]) ∧ Below w.heap.size w W') := by
  have b1 := h1.2
  have b2 := h2.2
  dsimp only at b1 b2
  have hin : inB ⟨a, b, e, f⟩ = true := inB_iff.2 ⟨by dsimp only; omega, by dsimp only; omega, by dsimp only; omega, by dsimp only; omega⟩
  have c1 := fun W => cleared_ a b e f _ (clG_start hin) W
  have HB := Lib.hid (And.intro b1 b2)
  have HF := Lib.hid (And.intro h1 h2)
  have HD := Lib.hid (And.intro hd hh)
  clear h1 h2 b1 b2 ha hd he hh hin
  have hM := mem_nil w; have hB := Below.refl w.heap.size w; have hC := True.intro
  go_enter Try.func60, Try.ntmps60
  go_wp2_with fail
  go_at_call 72
  refine (c1 _).mono ?_
  rintro e1 w' ⟨p, q, r, hcl, rfl, hb⟩
  apply after_call (w := w) hb; (focus ((repeat' (first | (with_reducible exact hM) | (with_reducible apply mem_alloc) | (with_reducible apply mem_set) | (with_reducible apply mem_drew) | (with_reducible apply mem_drewN))); done)); (focus ((repeat' (first | (with_reducible exact hB) | (with_reducible exact Below.refl _ _) | (with_reducible refine Below.alloc ?_ ?_ _) | (with_reducible refine Below.setCell ?_ ?_ _) | (with_reducible refine Below.drew ?_) | (with_reducible refine below_drewN ?_ _) | (with_reducible exact Nat.le_refl _) | (with_reducible exact hB.size) | (simp [go_sem]; done) | (have := hB.size; simp [go_sem]; omega))); done)); (focus ((repeat' (first | (with_reducible exact hB) | (with_reducible exact Below.refl _ _) | (with_reducible refine Below.alloc ?_ ?_ _) | (with_reducible refine Below.setCell ?_ ?_ _) | (with_reducible refine Below.drew ?_) | (with_reducible refine below_drewN ?_ _) | (with_reducible exact Nat.le_refl _) | (with_reducible exact hB.size) | (simp [go_sem]; done) | (have := hB.size; simp [go_sem]; omega))); done)); clear hM hB hb; intro hM hB; (try clear hC); have hC := mem_facts hM; simp at hC
  clear c1
  have hbd := hcl.2.2
  dsimp only at hbd
  have hJ := hcl.1
  have hr := hbd.2.2.2.2
  rw [absI_nat] at hr
  have hrb := absI_bd r
  have hr9 := hbd.2.2.2.2
  have cA := fun W => absV_ r (by omega) W
  rw [absI_nat] at cA
  have o1 := HB.out
  have o2 := HD.out
  obtain ⟨d', rfl⟩ : ∃ d' : Nat, d = d' := ⟨d.toNat, by omega⟩
  obtain ⟨h', rfl⟩ : ∃ h' : Nat, h = h' := ⟨h.toNat, by omega⟩
  obtain ⟨E, hE⟩ : ∃ E, E = Nat.gcd (Nat.gcd r.natAbs d') h' := ⟨_, rfl⟩
  have hjp := join_p HF.out.1 HF.out.2 hJ (e := E) (by rw [hE]; rfl)
  have g1 := gcd_le' (x := r.natAbs) (y := d') (k := 4000000000000) (by omega) (by omega)
  have k1 := cGcd_ r.natAbs d' (by omega) (by omega)
  have k2 := cGcd_ (Nat.gcd r.natAbs d') h' (by omega) (by omega)
  rw [← hE] at k2
  generalize Nat.gcd r.natAbs d' = G at *
  generalize r.natAbs = R at *
  obtain ⟨j1, j2, j3, j4⟩ := hjp
  have hE2 : (E : Int) ≤ 100 := by
    dsimp only at j2
    omega
  have hclE : clG ⟨p, q, 0, (E : Int)⟩ ⟨p, q, 0, (E : Int)⟩ := by
    have q1 := hbd.1
    have q2 := absI_nonneg p
    have q3 := absI_nat (E : Int)
    have q4 : absI (E : Int) ≤ 100 := by rw [q3]; omega
    have q5 := absI_nonneg (E : Int)
    have q6 := mul_bd (x := absI p) (y := absI (E : Int)) (a := 1000000) (b := 100) ⟨by omega, by omega⟩ ⟨by omega, by omega⟩
    have e0 : absI 0 = 0 := rfl
    exact ⟨LatE.refl _, rfl, q1, by rw [e0]; omega, by dsimp only; rw [e0, Int.zero_mul]; omega, hbd.2.2.2.1, by dsimp only; omega⟩
  have cL := fun W => latticeOf_ p q 0 E hclE j3 W
  rw [j4] at cL
  have hs1 : w.heap.size ≤ w'.heap.size := hB.size
  obtain ⟨w1, rfl⟩ : ∃ w1 : World, w1 = w' := ⟨_, rfl⟩
  clear hcl hJ hbd hr hrb hr9 o1 o2 hE j1 j2 j3 j4 hE2 hclE g1 HB HF HD
  generalize hJ : jnM ⟨a, b, 0, (d' : Int)⟩ ⟨e, f, 0, (h' : Int)⟩ = J at *
  have HJ := Lib.hid hJ
  clear hJ
  go_wp2_with fail
  (refine wp_region_T2 (fun W' => (W'.cell? ⟨w1.heap.size, 3, none⟩ = some (.int .i64 r) ∧ W'.cell? ⟨w.heap.size, 3, none⟩ = some (.int .i64 d') ∧ W'.cell? ⟨w.heap.size + 1, 3, none⟩ = some (.int .i64 h'))) 12 (by kernel_rfl) ?_ ?_; (focus (simp [*, go_sem]; done)); intro hS)
  (refine wpT_take (i := 0) (oi := ?_) (v := ?_) hS ?_ ?_ ?_ ?_ ?_ ?_; rotate_left 2; (focus (simp only [List.getElem?_toArray, List.getElem?_cons_zero]; exact rfl)); (focus (kernel_rfl)); (focus (rfl)); (focus (intro w' hW; (try dsimp only at hW); go_simp; (try with_reducible rfl); done)); (focus (exact fun _ _ _ h => h)); (try simp only [Act.put, List.setIfInBounds_toArray, List.set_cons_zero, List.set_cons_succ])); (refine wpT_take (i := 1) (oi := ?_) (v := ?_) hS ?_ ?_ ?_ ?_ ?_ ?_; rotate_left 2; (focus (simp only [List.getElem?_toArray, List.getElem?_cons_zero, List.getElem?_cons_succ]; exact rfl)); (focus (kernel_rfl)); (focus (rfl)); (focus (intro w' hW; (try dsimp only at hW); go_simp; (try with_reducible rfl); done)); (focus (exact fun _ _ _ h => h)); (try simp only [Act.put, List.setIfInBounds_toArray, List.set_cons_zero, List.set_cons_succ])); (refine wpT_take (i := 3) (oi := ?_) (v := ?_) hS ?_ ?_ ?_ ?_ ?_ ?_; rotate_left 2; (focus (simp only [List.getElem?_toArray, List.getElem?_cons_zero, List.getElem?_cons_succ]; exact rfl)); (focus (kernel_rfl)); (focus (rfl)); (focus (intro w' hW; (try dsimp only at hW); go_simp; (try with_reducible rfl); done)); (focus (exact fun _ _ _ h => h)); (try simp only [Act.put, List.setIfInBounds_toArray, List.set_cons_zero, List.set_cons_succ])); (refine wpT_take (i := 4) (oi := ?_) (v := ?_) hS ?_ ?_ ?_ ?_ ?_ ?_; rotate_left 2; (focus (simp only [List.getElem?_toArray, List.getElem?_cons_zero, List.getElem?_cons_succ]; exact rfl)); (focus (kernel_rfl)); (focus (rfl)); (focus (intro w' hW; (try dsimp only at hW); go_simp; (try with_reducible rfl); done)); (focus (exact fun _ _ _ h => h)); (try simp only [Act.put, List.setIfInBounds_toArray, List.set_cons_zero, List.set_cons_succ])); (refine wpT_take (i := 5) (oi := ?_) (v := ?_) hS ?_ ?_ ?_ ?_ ?_ ?_; rotate_left 2; (focus (simp only [List.getElem?_toArray, List.getElem?_cons_zero, List.getElem?_cons_succ]; exact rfl)); (focus (kernel_rfl)); (focus (rfl)); (focus (intro w' hW; (try dsimp only at hW); go_simp; (try with_reducible rfl); done)); (focus (exact fun _ _ _ h => h)); (try simp only [Act.put, List.setIfInBounds_toArray, List.set_cons_zero, List.set_cons_succ])); (refine wpT_take (i := 7) (oi := ?_) (v := ?_) hS ?_ ?_ ?_ ?_ ?_ ?_; rotate_left 2; (focus (simp only [List.getElem?_toArray, List.getElem?_cons_zero, List.getElem?_cons_succ]; exact rfl)); (focus (kernel_rfl)); (focus (rfl)); (focus (intro w' hW; (try dsimp only at hW); go_simp; (try with_reducible rfl); done)); (focus (exact fun _ _ _ h => h)); (try simp only [Act.put, List.setIfInBounds_toArray, List.set_cons_zero, List.set_cons_succ])); (refine wpT_take (i := 8) (oi := ?_) (v := ?_) hS ?_ ?_ ?_ ?_ ?_ ?_; rotate_left 2; (focus (simp only [List.getElem?_toArray, List.getElem?_cons_zero, List.getElem?_cons_succ]; exact rfl)); (focus (kernel_rfl)); (focus (rfl)); (focus (intro w' hW; (try dsimp only at hW); go_simp; (try with_reducible rfl); done)); (focus (exact fun _ _ _ h => h)); (try simp only [Act.put, List.setIfInBounds_toArray, List.set_cons_zero, List.set_cons_succ])); (refine wpT_take (i := 9) (oi := ?_) (v := ?_) hS ?_ ?_ ?_ ?_ ?_ ?_; rotate_left 2; (focus (simp only [List.getElem?_toArray, List.getElem?_cons_zero, List.getElem?_cons_succ]; exact rfl)); (focus (kernel_rfl)); (focus (rfl)); (focus (intro w' hW; (try dsimp only at hW); go_simp; (try with_reducible rfl); done)); (focus (exact fun _ _ _ h => h)); (try simp only [Act.put, List.setIfInBounds_toArray, List.set_cons_zero, List.set_cons_succ]))
  (refine wpT_one (i := 2) (oi := ?_) ?_ ?_ ?_ ?_; rotate_left 1; (focus (kernel_rfl)); (focus (simp only [List.getElem?_toArray, List.getElem?_cons_zero, List.getElem?_cons_succ]; exact rfl)); (focus (rfl)); go_simp)
  (go_at_call 71; refine (cA _).mono ?_; rintro e w' ⟨rfl, rfl⟩)
  (first | (with_reducible refine wpT_hold ?_ ?_; (focus (simp [*, go_sem]; done)); clear hS; intro hS; (try dsimp only at hS)) | (refine held_intro ?_ ?_; (focus (simp [*, go_sem]; done)); clear hS; intro hS))
  (refine wpT_one (i := 6) (oi := ?_) ?_ ?_ ?_ ?_; rotate_left 1; (focus (kernel_rfl)); (focus (simp only [List.getElem?_toArray, List.getElem?_cons_zero, List.getElem?_cons_succ]; exact rfl)); (focus (rfl)); go_simp)
  (go_at_call 70; refine (k1 _).mono ?_; rintro e w' ⟨rfl, hb⟩; apply after_call (w := w) hb; (focus ((repeat' (first | (with_reducible exact hM) | (with_reducible apply mem_alloc) | (with_reducible apply mem_set) | (with_reducible apply mem_drew) | (with_reducible apply mem_drewN))); done)); (focus ((repeat' (first | (with_reducible exact hB) | (with_reducible exact Below.refl _ _) | (with_reducible refine Below.alloc ?_ ?_ _) | (with_reducible refine Below.setCell ?_ ?_ _) | (with_reducible refine Below.drew ?_) | (with_reducible refine below_drewN ?_ _) | (with_reducible exact Nat.le_refl _) | (with_reducible exact hB.size) | (simp [go_sem]; done) | (have := hB.size; simp [go_sem]; omega))); done)); (focus ((repeat' (first | (with_reducible exact hB) | (with_reducible exact Below.refl _ _) | (with_reducible refine Below.alloc ?_ ?_ _) | (with_reducible refine Below.setCell ?_ ?_ _) | (with_reducible refine Below.drew ?_) | (with_reducible refine below_drewN ?_ _) | (with_reducible exact Nat.le_refl _) | (with_reducible exact hB.size) | (simp [go_sem]; done) | (have := hB.size; simp [go_sem]; omega))); done)); clear hM hB hb; intro hM hB; (try clear hC); have hC := mem_facts hM; simp at hC)
  (first | (with_reducible refine wpT_hold ?_ ?_; (focus (simp [*, go_sem]; done)); clear hS; intro hS; (try dsimp only at hS)) | (refine held_intro ?_ ?_; (focus (simp [*, go_sem]; done)); clear hS; intro hS))
  (refine wpT_one (i := 10) (oi := ?_) ?_ ?_ ?_ ?_; rotate_left 1; (focus (kernel_rfl)); (focus (simp only [List.getElem?_toArray, List.getElem?_cons_zero, List.getElem?_cons_succ]; exact rfl)); (focus (rfl)); go_simp)
  (go_at_call 70; refine (k2 _).mono ?_; rintro e w' ⟨rfl, hb⟩; apply after_call (w := w) hb; (focus ((repeat' (first | (with_reducible exact hM) | (with_reducible apply mem_alloc) | (with_reducible apply mem_set) | (with_reducible apply mem_drew) | (with_reducible apply mem_drewN))); done)); (focus ((repeat' (first | (with_reducible exact hB) | (with_reducible exact Below.refl _ _) | (with_reducible refine Below.alloc ?_ ?_ _) | (with_reducible refine Below.setCell ?_ ?_ _) | (with_reducible refine Below.drew ?_) | (with_reducible refine below_drewN ?_ _) | (with_reducible exact Nat.le_refl _) | (with_reducible exact hB.size) | (simp [go_sem]; done) | (have := hB.size; simp [go_sem]; omega))); done)); (focus ((repeat' (first | (with_reducible exact hB) | (with_reducible exact Below.refl _ _) | (with_reducible refine Below.alloc ?_ ?_ _) | (with_reducible refine Below.setCell ?_ ?_ _) | (with_reducible refine Below.drew ?_) | (with_reducible refine below_drewN ?_ _) | (with_reducible exact Nat.le_refl _) | (with_reducible exact hB.size) | (simp [go_sem]; done) | (have := hB.size; simp [go_sem]; omega))); done)); clear hM hB hb; intro hM hB; (try clear hC); have hC := mem_facts hM; simp at hC)
  (first | (with_reducible refine wpT_hold ?_ ?_; (focus (simp [*, go_sem]; done)); clear hS; intro hS; (try dsimp only at hS)) | (refine held_intro ?_ ?_; (focus (simp [*, go_sem]; done)); clear hS; intro hS))
  (refine wpT_take (i := 11) (oi := ?_) (v := ?_) hS ?_ ?_ ?_ ?_ ?_ ?_; rotate_left 2; (focus (simp only [List.getElem?_toArray, List.getElem?_cons_zero, List.getElem?_cons_succ]; exact rfl)); (focus (kernel_rfl)); (focus (rfl)); (focus (intro w' hW; (try dsimp only at hW); go_simp; (try with_reducible rfl); done)); (focus (exact fun _ _ _ h => h)); (try simp only [Act.put, List.setIfInBounds_toArray, List.set_cons_zero, List.set_cons_succ]))
  (refine wpT_one (i := 12) (oi := ?_) ?_ ?_ ?_ ?_; rotate_left 1; (focus (kernel_rfl)); (focus (simp only [List.getElem?_toArray, List.getElem?_cons_zero, List.getElem?_cons_succ]; exact rfl)); (focus (rfl)); go_simp)
  refine wpT_done (by kernel_rfl) ?_ _
  go_wp2_with fail
  (go_at_call 61; refine (cL _).mono ?_; rintro e w' ⟨rfl, hb⟩; apply after_call (w := w) hb; (focus ((repeat' (first | (with_reducible exact hM) | (with_reducible apply mem_alloc) | (with_reducible apply mem_set) | (with_reducible apply mem_drew) | (with_reducible apply mem_drewN))); done)); (focus ((repeat' (first | (with_reducible exact hB) | (with_reducible exact Below.refl _ _) | (with_reducible refine Below.alloc ?_ ?_ _) | (with_reducible refine Below.setCell ?_ ?_ _) | (with_reducible refine Below.drew ?_) | (with_reducible refine below_drewN ?_ _) | (with_reducible exact Nat.le_refl _) | (with_reducible exact hB.size) | (simp [go_sem]; done) | (have := hB.size; simp [go_sem]; omega))); done)); (focus ((repeat' (first | (with_reducible exact hB) | (with_reducible exact Below.refl _ _) | (with_reducible refine Below.alloc ?_ ?_ _) | (with_reducible refine Below.setCell ?_ ?_ _) | (with_reducible refine Below.drew ?_) | (with_reducible refine below_drewN ?_ _) | (with_reducible exact Nat.le_refl _) | (with_reducible exact hB.size) | (simp [go_sem]; done) | (have := hB.size; simp [go_sem]; omega))); done)); clear hM hB hb; intro hM hB; (try simp [hC] at hM); (try clear hC); have hC := mem_facts hM; simp at hC)
  go_wp2_with fail
  refine bodyPost_ret (by (simp [results, Try.results60, go_sem, *]; try rfl)) rfl ?_
  exact ⟨by rw [HJ.out], by (repeat' (first | (with_reducible exact hB) | (with_reducible exact Below.refl _ _) | (with_reducible refine Below.alloc ?_ ?_ _) | (with_reducible refine Below.setCell ?_ ?_ _) | (with_reducible refine Below.drew ?_) | (with_reducible refine below_drewN ?_ _) | (with_reducible exact Nat.le_refl _) | (with_reducible exact hB.size) | (simp [go_sem]; done) | (have := hB.size; simp [go_sem]; omega)))⟩
theorem run_fieldL (a b c d : Int) (W : World) : (Instr.field 42 (.agg #[.int .i64 a, .int .i64 b, .int .i64 c, .int .i64 d]) 0).run Try.prog W = .ok (.agg #[.int .i64 a, .int .i64 b, .int .i64 c, .int .i64 d]) W := by
  first | rfl | (go_simp; done) | (simp [Instr.field, go_sem]; done) | go_show
noncomputable def mJoin (m n : M) : M × Bool := if ltB 100 m && ltB 100 n then (jnM (nf m) (nf n), true) else (zm, false)
set_option maxHeartbeats 4000000 in
theorem LatticeJoin_ (a b c d e f g h : Int) (w : World) : Calls Try.prog 29 #[.agg #[.int .i64 a, .int .i64 b, .int .i64 c, .int .i64 d], .agg #[.int .i64 e, .int .i64 f, .int .i64 g, .int .i64 h]] w (fun E' W' => E' = .returned (.tuple #[.agg #[.int .i64 ((mJoin ⟨a, b, c, d⟩ ⟨e, f, g, h⟩).1).a, .int .i64 ((mJoin ⟨a, b, c, d⟩ ⟨e, f, g, h⟩).1).b, .int .i64 ((mJoin ⟨a, b, c, d⟩ ⟨e, f, g, h⟩).1).c, .int .i64 ((mJoin ⟨a, b, c, d⟩ ⟨e, f, g, h⟩).1).d], .bool (mJoin ⟨a, b, c, d⟩ ⟨e, f, g, h⟩).2]) ∧ Below w.heap.size w W') := by
  have c1 := fun W => latticesUpTo_ 100 a b c d e f g h W
  have HE := Lib.hid (show mJoin ⟨a, b, c, d⟩ ⟨e, f, g, h⟩ = if ltB 100 ⟨a, b, c, d⟩ && ltB 100 ⟨e, f, g, h⟩ then (jnM (nf ⟨a, b, c, d⟩) (nf ⟨e, f, g, h⟩), true) else (zm, false) from rfl)
  cases ho : (ltB 100 ⟨a, b, c, d⟩ && ltB 100 ⟨e, f, g, h⟩)
  · rw [ho] at HE
    rw [ho] at c1
    clear ho
    generalize ltM 100 ⟨a, b, c, d⟩ = l at *
    generalize ltM 100 ⟨e, f, g, h⟩ = n at *
    obtain ⟨p, q, r, t⟩ := l
    obtain ⟨p', q', r', t'⟩ := n
    dsimp only at c1
    have hM := mem_nil w; have hB := Below.refl w.heap.size w; have hC := True.intro
    go_enter Try.func29, Try.ntmps29
    go_wp2_with (first | (go_at_call 43; refine (c1 _).mono ?_; rintro e w' ⟨rfl, hb⟩; apply after_call (w := w) hb; (focus ((repeat' (first | (with_reducible exact hM) | (with_reducible apply mem_alloc) | (with_reducible apply mem_set) | (with_reducible apply mem_drew) | (with_reducible apply mem_drewN))); done)); (focus ((repeat' (first | (with_reducible exact hB) | (with_reducible exact Below.refl _ _) | (with_reducible refine Below.alloc ?_ ?_ _) | (with_reducible refine Below.setCell ?_ ?_ _) | (with_reducible refine Below.drew ?_) | (with_reducible refine below_drewN ?_ _) | (with_reducible exact Nat.le_refl _) | (with_reducible exact hB.size) | (simp [go_sem]; done) | (have := hB.size; simp [go_sem]; omega))); done)); (focus ((repeat' (first | (with_reducible exact hB) | (with_reducible exact Below.refl _ _) | (with_reducible refine Below.alloc ?_ ?_ _) | (with_reducible refine Below.setCell ?_ ?_ _) | (with_reducible refine Below.drew ?_) | (with_reducible refine below_drewN ?_ _) | (with_reducible exact Nat.le_refl _) | (with_reducible exact hB.size) | (simp [go_sem]; done) | (have := hB.size; simp [go_sem]; omega))); done)); clear hM hB hb; intro hM hB; (try clear hC); have hC := mem_facts hM; simp at hC))
    refine bodyPost_ret (by (simp [results, Try.results29, go_sem, *]; try rfl)) rfl ?_
    exact ⟨by rw [HE.out]; rfl, by (repeat' (first | (with_reducible exact hB) | (with_reducible exact Below.refl _ _) | (with_reducible refine Below.alloc ?_ ?_ _) | (with_reducible refine Below.setCell ?_ ?_ _) | (with_reducible refine Below.drew ?_) | (with_reducible refine below_drewN ?_ _) | (with_reducible exact Nat.le_refl _) | (with_reducible exact hB.size) | (simp [go_sem]; done) | (have := hB.size; simp [go_sem]; omega)))⟩
  · rw [ho] at HE
    rw [ho] at c1
    obtain ⟨ho1, ho2⟩ := Bool.and_eq_true_iff.1 ho
    clear ho
    obtain ⟨e1, s1, _, _, _, _, _, r1, r2, r3, r4⟩ := ltM_rf ho1
    obtain ⟨e2, s2, _, _, _, _, _, q1, q2, q3, q4⟩ := ltM_rf ho2
    rw [e1, e2] at c1
    clear ho1 ho2 e1 e2
    generalize nf ⟨a, b, c, d⟩ = l at *
    generalize nf ⟨e, f, g, h⟩ = n at *
    obtain ⟨p, q, r, t⟩ := l
    obtain ⟨p', q', r', t'⟩ := n
    dsimp only at c1 r1 r2 r3 r4 q1 q2 q3 q4
    subst r3 q3
    have c2 := fun W => join_ p q t p' q' t' s1 s2 r1.2 r4.2 q1.2 q4.2 W
    clear r1 r2 r4 q1 q2 q4 s1 s2
    generalize hJ : jnM ⟨p, q, 0, t⟩ ⟨p', q', 0, t'⟩ = J at *
    clear hJ
    have hF := run_fieldL J.a J.b J.c J.d
    have hM := mem_nil w; have hB := Below.refl w.heap.size w; have hC := True.intro
    go_enter Try.func29, Try.ntmps29
    go_wp2_with (first | (go_at_call 43; refine (c1 _).mono ?_; rintro e w' ⟨rfl, hb⟩; apply after_call (w := w) hb; (focus ((repeat' (first | (with_reducible exact hM) | (with_reducible apply mem_alloc) | (with_reducible apply mem_set) | (with_reducible apply mem_drew) | (with_reducible apply mem_drewN))); done)); (focus ((repeat' (first | (with_reducible exact hB) | (with_reducible exact Below.refl _ _) | (with_reducible refine Below.alloc ?_ ?_ _) | (with_reducible refine Below.setCell ?_ ?_ _) | (with_reducible refine Below.drew ?_) | (with_reducible refine below_drewN ?_ _) | (with_reducible exact Nat.le_refl _) | (with_reducible exact hB.size) | (simp [go_sem]; done) | (have := hB.size; simp [go_sem]; omega))); done)); (focus ((repeat' (first | (with_reducible exact hB) | (with_reducible exact Below.refl _ _) | (with_reducible refine Below.alloc ?_ ?_ _) | (with_reducible refine Below.setCell ?_ ?_ _) | (with_reducible refine Below.drew ?_) | (with_reducible refine below_drewN ?_ _) | (with_reducible exact Nat.le_refl _) | (with_reducible exact hB.size) | (simp [go_sem]; done) | (have := hB.size; simp [go_sem]; omega))); done)); clear hM hB hb; intro hM hB; (try clear hC); have hC := mem_facts hM; simp at hC) | (go_at_call 60; refine (c2 _).mono ?_; rintro e w' ⟨rfl, hb⟩; apply after_call (w := w) hb; (focus ((repeat' (first | (with_reducible exact hM) | (with_reducible apply mem_alloc) | (with_reducible apply mem_set) | (with_reducible apply mem_drew) | (with_reducible apply mem_drewN))); done)); (focus ((repeat' (first | (with_reducible exact hB) | (with_reducible exact Below.refl _ _) | (with_reducible refine Below.alloc ?_ ?_ _) | (with_reducible refine Below.setCell ?_ ?_ _) | (with_reducible refine Below.drew ?_) | (with_reducible refine below_drewN ?_ _) | (with_reducible exact Nat.le_refl _) | (with_reducible exact hB.size) | (simp [go_sem]; done) | (have := hB.size; simp [go_sem]; omega))); done)); (focus ((repeat' (first | (with_reducible exact hB) | (with_reducible exact Below.refl _ _) | (with_reducible refine Below.alloc ?_ ?_ _) | (with_reducible refine Below.setCell ?_ ?_ _) | (with_reducible refine Below.drew ?_) | (with_reducible refine below_drewN ?_ _) | (with_reducible exact Nat.le_refl _) | (with_reducible exact hB.size) | (simp [go_sem]; done) | (have := hB.size; simp [go_sem]; omega))); done)); clear hM hB hb; intro hM hB; (try clear hC); have hC := mem_facts hM; simp at hC))
    refine bodyPost_ret (by (simp [results, Try.results29, go_sem, *]; try rfl)) rfl ?_
    exact ⟨by rw [HE.out]; rfl, by (repeat' (first | (with_reducible exact hB) | (with_reducible exact Below.refl _ _) | (with_reducible refine Below.alloc ?_ ?_ _) | (with_reducible refine Below.setCell ?_ ?_ _) | (with_reducible refine Below.drew ?_) | (with_reducible refine below_drewN ?_ _) | (with_reducible exact Nat.le_refl _) | (with_reducible exact hB.size) | (simp [go_sem]; done) | (have := hB.size; simp [go_sem]; omega)))⟩
end Go.Proofs.Ytcnhjnmnflehhaa

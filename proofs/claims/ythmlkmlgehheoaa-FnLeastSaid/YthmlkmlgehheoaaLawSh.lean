
/- Short bases stay so, and least lengths: the laws walked over every slice of bytes. -/
import Derived.Test.YthmlkmlgehheoaaDrawQ2
namespace Go.Proofs.Ythmlkmlgehheoaa
open Go.RowKit

theorem is_facts {p q : Pr2} (h : mIs p q = true) : baP p q = true ∧ mLeast p q = (dotP p p, true) ∧ mLen p = (dotP p p, true) ∧ 3 * (dotP p p * dotP p p) ≤ 4 * (crsP p q * crsP p q) := by
  simp only [mIs, Bool.and_eq_true] at h
  obtain ⟨hb, hs⟩ := h
  have hg := ba_g hb
  have hp : pB p = true := by
    simp only [baP, Bool.and_eq_true] at hb
    exact hb.1.1
  refine ⟨hb, ?_, ?_, si_area hs⟩
  · simp only [mLeast, hb, if_true]
    rw [sh_self hg hs]
  · simp [mLen, hp]
theorem nz_of {p : Pr2} (h : ¬ (p.x = 0 ∧ p.y = 0)) : p.x ≠ 0 ∨ p.y ≠ 0 := by
  rcases Decidable.em (p.x = 0) with hx | hx
  · exact .inr fun hy => h ⟨hx, hy⟩
  · exact .inl hx
theorem least_facts {p q : Pr2} (hb : baP p q = true) : mLeast p q = (dotP (shP p q).1 (shP p q).1, true) ∧ mLen p = (dotP p p, true) ∧ mLen q = (dotP q q, true) ∧ 1 ≤ dotP (shP p q).1 (shP p q).1 ∧
    dotP (shP p q).1 (shP p q).1 ≤ dotP p p ∧ dotP (shP p q).1 (shP p q).1 ≤ dotP q q ∧
    dotP (shP p q).1 (shP p q).1 ≤ dotP ⟨p.x + q.x, p.y + q.y⟩ ⟨p.x + q.x, p.y + q.y⟩ ∧ dotP (shP p q).1 (shP p q).1 ≤ dotP ⟨p.x - q.x, p.y - q.y⟩ ⟨p.x - q.x, p.y - q.y⟩ := by
  have hg := ba_g hb
  have hc := hg.2.2
  have hp : pB p = true ∧ pB q = true := by
    simp only [baP, Bool.and_eq_true] at hb
    exact hb.1
  obtain ⟨k1, k2, k3, k4⟩ := shP_ok hg
  refine ⟨by simp [mLeast, hb], by simp [mLen, hp.1], by simp [mLen, hp.2], len_pos k4.2.2, ?_, ?_, ?_, ?_⟩
  · exact sh_least hg (lat_r1 (rowsP p q)) (nz_of fun ⟨h1, h2⟩ => hc (by simp [crsP, h1, h2]))
  · exact sh_least hg (lat_r2 (rowsP p q)) (nz_of fun ⟨h1, h2⟩ => hc (by simp [crsP, h1, h2]))
  · refine sh_least (v := ⟨p.x + q.x, p.y + q.y⟩) hg ⟨1, 1, by simp [rowsP], by simp [rowsP]⟩ (nz_of fun ⟨h1, h2⟩ => hc ?_)
    dsimp only at h1 h2
    have e1 : q.x = -p.x := by omega
    have e2 : q.y = -p.y := by omega
    simp only [crsP, e1, e2]; grind
  · refine sh_least (v := ⟨p.x - q.x, p.y - q.y⟩) hg ⟨1, -1, by simp only [rowsP]; omega, by simp only [rowsP]; omega⟩ (nz_of fun ⟨h1, h2⟩ => hc ?_)
    dsimp only at h1 h2
    have e1 : q.x = p.x := by omega
    have e2 : q.y = p.y := by omega
    simp only [crsP, e1, e2]; grind
theorem sq_pos_bd {x k : Int} (h : -k ≤ x ∧ x ≤ k) : 0 ≤ x * x ∧ x * x ≤ k * k := ⟨sq_nn x, (mul_bd h h).2⟩
set_option maxRecDepth 100000 in
set_option maxHeartbeats 8000000 in
theorem lawShortIsD (A : Option Addr) (len cap : Nat) (zs : List Int) (w : World) (hRow : RowB .u8 w w.heap.size A len cap zs) : Calls Try.prog 4 #[.slice A len cap] w (fun E' W' => E' = .returned (.bool true) ∧ Below w.heap.size w W') := by
  by_cases hl : 1048576 < len
  · have hM := mem_nil w; have hB := Below.refl w.heap.size w; have hC := True.intro
    go_enter Try.func4, Try.ntmps4
    go_wp2
    go_ret
    exact ⟨rfl, by (repeat' (first | (with_reducible exact hB) | (with_reducible exact Below.refl _ _) | (with_reducible refine Below.alloc ?_ ?_ _) | (with_reducible refine Below.setCell ?_ ?_ _) | (with_reducible refine Below.drew ?_) | (with_reducible refine below_drewN ?_ _) | (with_reducible exact Nat.le_refl _) | (with_reducible exact hB.size) | (simp [go_sem]; done) | (have := hB.size; simp [go_sem]; omega)))⟩
  · have hM := mem_nil w; have hB := Below.refl w.heap.size w; have hC := True.intro
    go_enter Try.func4, Try.ntmps4
    go_upto_region 4 with (go_at_call 12; apply use_pprow (w := w) hRow (DrawShortIs_ _ _ _ _); (focus ((repeat' (first | (with_reducible exact hB) | (with_reducible exact Below.refl _ _) | (with_reducible refine Below.alloc ?_ ?_ _) | (with_reducible refine Below.setCell ?_ ?_ _) | (with_reducible refine Below.drew ?_) | (with_reducible refine below_drewN ?_ _) | (with_reducible exact Nat.le_refl _) | (with_reducible exact hB.size) | (simp [go_sem]; done) | (have := hB.size; simp [go_sem]; omega))); done)); (focus ((repeat' (first | (with_reducible exact hB) | (with_reducible exact Below.refl _ _) | (with_reducible refine Below.alloc ?_ ?_ _) | (with_reducible refine Below.setCell ?_ ?_ _) | (with_reducible refine Below.drew ?_) | (with_reducible refine below_drewN ?_ _) | (with_reducible exact Nat.le_refl _) | (with_reducible exact hB.size) | (simp [go_sem]; done) | (have := hB.size; simp [go_sem]; omega))); done)); rintro x y z t w' hb; apply after_call (w := w) hb; (focus ((repeat' (first | (with_reducible exact hM) | (with_reducible apply mem_alloc) | (with_reducible apply mem_set) | (with_reducible apply mem_drew) | (with_reducible apply mem_drewN))); done)); (focus ((repeat' (first | (with_reducible exact hB) | (with_reducible exact Below.refl _ _) | (with_reducible refine Below.alloc ?_ ?_ _) | (with_reducible refine Below.setCell ?_ ?_ _) | (with_reducible refine Below.drew ?_) | (with_reducible refine below_drewN ?_ _) | (with_reducible exact Nat.le_refl _) | (with_reducible exact hB.size) | (simp [go_sem]; done) | (have := hB.size; simp [go_sem]; omega))); done)); (focus ((repeat' (first | (with_reducible exact hB) | (with_reducible exact Below.refl _ _) | (with_reducible refine Below.alloc ?_ ?_ _) | (with_reducible refine Below.setCell ?_ ?_ _) | (with_reducible refine Below.drew ?_) | (with_reducible refine below_drewN ?_ _) | (with_reducible exact Nat.le_refl _) | (with_reducible exact hB.size) | (simp [go_sem]; done) | (have := hB.size; simp [go_sem]; omega))); done)); clear hM hB hb; intro hM hB; (try clear hC); have hC := mem_facts hM; simp at hC)
    have c1 := fun W => ShortIs_ x y z t W
    have c2 := fun W => sShortIs_ x y z t W
    have hf := @is_facts ⟨x, y⟩ ⟨z, t⟩
    generalize mIs ⟨x, y⟩ ⟨z, t⟩ = o at *
    cases o
    · clear hf
      go_wp2_with (first | (go_at_call 9; refine (c1 _).mono ?_; rintro e w' ⟨rfl, hb⟩; apply after_call (w := w) hb; (focus ((repeat' (first | (with_reducible exact hM) | (with_reducible apply mem_alloc) | (with_reducible apply mem_set) | (with_reducible apply mem_drew) | (with_reducible apply mem_drewN))); done)); (focus ((repeat' (first | (with_reducible exact hB) | (with_reducible exact Below.refl _ _) | (with_reducible refine Below.alloc ?_ ?_ _) | (with_reducible refine Below.setCell ?_ ?_ _) | (with_reducible refine Below.drew ?_) | (with_reducible refine below_drewN ?_ _) | (with_reducible exact Nat.le_refl _) | (with_reducible exact hB.size) | (simp [go_sem]; done) | (have := hB.size; simp [go_sem]; omega))); done)); (focus ((repeat' (first | (with_reducible exact hB) | (with_reducible exact Below.refl _ _) | (with_reducible refine Below.alloc ?_ ?_ _) | (with_reducible refine Below.setCell ?_ ?_ _) | (with_reducible refine Below.drew ?_) | (with_reducible refine below_drewN ?_ _) | (with_reducible exact Nat.le_refl _) | (with_reducible exact hB.size) | (simp [go_sem]; done) | (have := hB.size; simp [go_sem]; omega))); done)); clear hM hB hb; intro hM hB; (try clear hC); have hC := mem_facts hM; simp at hC) | (go_at_call 13; refine (c2 _).mono ?_; rintro e w' ⟨rfl, hb⟩; apply after_call (w := w) hb; (focus ((repeat' (first | (with_reducible exact hM) | (with_reducible apply mem_alloc) | (with_reducible apply mem_set) | (with_reducible apply mem_drew) | (with_reducible apply mem_drewN))); done)); (focus ((repeat' (first | (with_reducible exact hB) | (with_reducible exact Below.refl _ _) | (with_reducible refine Below.alloc ?_ ?_ _) | (with_reducible refine Below.setCell ?_ ?_ _) | (with_reducible refine Below.drew ?_) | (with_reducible refine below_drewN ?_ _) | (with_reducible exact Nat.le_refl _) | (with_reducible exact hB.size) | (simp [go_sem]; done) | (have := hB.size; simp [go_sem]; omega))); done)); (focus ((repeat' (first | (with_reducible exact hB) | (with_reducible exact Below.refl _ _) | (with_reducible refine Below.alloc ?_ ?_ _) | (with_reducible refine Below.setCell ?_ ?_ _) | (with_reducible refine Below.drew ?_) | (with_reducible refine below_drewN ?_ _) | (with_reducible exact Nat.le_refl _) | (with_reducible exact hB.size) | (simp [go_sem]; done) | (have := hB.size; simp [go_sem]; omega))); done)); clear hM hB hb; intro hM hB; (try clear hC); have hC := mem_facts hM; simp at hC))
      go_ret
      exact ⟨rfl, by (repeat' (first | (with_reducible exact hB) | (with_reducible exact Below.refl _ _) | (with_reducible refine Below.alloc ?_ ?_ _) | (with_reducible refine Below.setCell ?_ ?_ _) | (with_reducible refine Below.drew ?_) | (with_reducible refine below_drewN ?_ _) | (with_reducible exact Nat.le_refl _) | (with_reducible exact hB.size) | (simp [go_sem]; done) | (have := hB.size; simp [go_sem]; omega)))⟩
    · obtain ⟨hb, e1, e2, e3⟩ := hf rfl
      clear hf
      have c3 := fun W => ShortLeast_ x y z t W
      rw [e1] at c3
      have c4 := fun W => ShortLength_ x y W
      rw [e2] at c4
      dsimp only at c3 c4
      have hg := ba_g hb
      have k1 := len_bd hg.1
      have k2 := len_bd hg.2.1
      have k3 := crs_bd hg.1 hg.2.1
      have k4 := hg.1
      have k5 := len_nn ⟨x, y⟩
      dsimp only at k1 k2
      have hC : x * t - y * z = crsP ⟨x, y⟩ ⟨z, t⟩ := rfl
      have m1 := mul_bd (x := x) (y := t) (a := 14142) (b := 14142) (by omega) (by omega)
      have m2 := mul_bd (x := y) (y := z) (a := 14142) (b := 14142) (by omega) (by omega)
      have w1 : wrap64 (x * t) = x * t := wrap_mid (by omega)
      have w2 : wrap64 (y * z) = y * z := wrap_mid (by omega)
      generalize dotP ⟨x, y⟩ ⟨x, y⟩ = N at *
      have w3 : wrap64 (x * t - y * z) = crsP ⟨x, y⟩ ⟨z, t⟩ := by rw [hC]; exact wrap_mid (by omega)
      clear hC hb hg k1 k2 m1 m2 e1 e2
      generalize crsP ⟨x, y⟩ ⟨z, t⟩ = C at *
      have n1 := mul_bd (x := 3 * N) (y := N) (a := 600000000) (b := 200000000) (by omega) (by omega)
      have n2 := mul_bd (x := 4 * C) (y := C) (a := 1600000000) (b := 400000000) (by omega) (by omega)
      have w4 : wrap64 (3 * N) = 3 * N := wrap_mid (by omega)
      have w5 : wrap64 (3 * N * N) = 3 * N * N := wrap_mid (by omega)
      have w6 : wrap64 (4 * C) = 4 * C := wrap_mid (by omega)
      have w7 : wrap64 (4 * C * C) = 4 * C * C := wrap_mid (by omega)
      have hd : decide (3 * N * N ≤ 4 * C * C) = true := decide_eq_true (by rw [Int.mul_assoc, Int.mul_assoc]; exact e3)
      clear e3 n1 n2
      go_wp2_with (first | (go_at_call 9; refine (c1 _).mono ?_; rintro e w' ⟨rfl, hb⟩; apply after_call (w := w) hb; (focus ((repeat' (first | (with_reducible exact hM) | (with_reducible apply mem_alloc) | (with_reducible apply mem_set) | (with_reducible apply mem_drew) | (with_reducible apply mem_drewN))); done)); (focus ((repeat' (first | (with_reducible exact hB) | (with_reducible exact Below.refl _ _) | (with_reducible refine Below.alloc ?_ ?_ _) | (with_reducible refine Below.setCell ?_ ?_ _) | (with_reducible refine Below.drew ?_) | (with_reducible refine below_drewN ?_ _) | (with_reducible exact Nat.le_refl _) | (with_reducible exact hB.size) | (simp [go_sem]; done) | (have := hB.size; simp [go_sem]; omega))); done)); (focus ((repeat' (first | (with_reducible exact hB) | (with_reducible exact Below.refl _ _) | (with_reducible refine Below.alloc ?_ ?_ _) | (with_reducible refine Below.setCell ?_ ?_ _) | (with_reducible refine Below.drew ?_) | (with_reducible refine below_drewN ?_ _) | (with_reducible exact Nat.le_refl _) | (with_reducible exact hB.size) | (simp [go_sem]; done) | (have := hB.size; simp [go_sem]; omega))); done)); clear hM hB hb; intro hM hB; (try clear hC); have hC := mem_facts hM; simp at hC) | (go_at_call 13; refine (c2 _).mono ?_; rintro e w' ⟨rfl, hb⟩; apply after_call (w := w) hb; (focus ((repeat' (first | (with_reducible exact hM) | (with_reducible apply mem_alloc) | (with_reducible apply mem_set) | (with_reducible apply mem_drew) | (with_reducible apply mem_drewN))); done)); (focus ((repeat' (first | (with_reducible exact hB) | (with_reducible exact Below.refl _ _) | (with_reducible refine Below.alloc ?_ ?_ _) | (with_reducible refine Below.setCell ?_ ?_ _) | (with_reducible refine Below.drew ?_) | (with_reducible refine below_drewN ?_ _) | (with_reducible exact Nat.le_refl _) | (with_reducible exact hB.size) | (simp [go_sem]; done) | (have := hB.size; simp [go_sem]; omega))); done)); (focus ((repeat' (first | (with_reducible exact hB) | (with_reducible exact Below.refl _ _) | (with_reducible refine Below.alloc ?_ ?_ _) | (with_reducible refine Below.setCell ?_ ?_ _) | (with_reducible refine Below.drew ?_) | (with_reducible refine below_drewN ?_ _) | (with_reducible exact Nat.le_refl _) | (with_reducible exact hB.size) | (simp [go_sem]; done) | (have := hB.size; simp [go_sem]; omega))); done)); clear hM hB hb; intro hM hB; (try clear hC); have hC := mem_facts hM; simp at hC) | (go_at_call 14; refine (c3 _).mono ?_; rintro e w' ⟨rfl, hb⟩; apply after_call (w := w) hb; (focus ((repeat' (first | (with_reducible exact hM) | (with_reducible apply mem_alloc) | (with_reducible apply mem_set) | (with_reducible apply mem_drew) | (with_reducible apply mem_drewN))); done)); (focus ((repeat' (first | (with_reducible exact hB) | (with_reducible exact Below.refl _ _) | (with_reducible refine Below.alloc ?_ ?_ _) | (with_reducible refine Below.setCell ?_ ?_ _) | (with_reducible refine Below.drew ?_) | (with_reducible refine below_drewN ?_ _) | (with_reducible exact Nat.le_refl _) | (with_reducible exact hB.size) | (simp [go_sem]; done) | (have := hB.size; simp [go_sem]; omega))); done)); (focus ((repeat' (first | (with_reducible exact hB) | (with_reducible exact Below.refl _ _) | (with_reducible refine Below.alloc ?_ ?_ _) | (with_reducible refine Below.setCell ?_ ?_ _) | (with_reducible refine Below.drew ?_) | (with_reducible refine below_drewN ?_ _) | (with_reducible exact Nat.le_refl _) | (with_reducible exact hB.size) | (simp [go_sem]; done) | (have := hB.size; simp [go_sem]; omega))); done)); clear hM hB hb; intro hM hB; (try clear hC); have hC := mem_facts hM; simp at hC) | (go_at_call 15; refine (c4 _).mono ?_; rintro e w' ⟨rfl, hb⟩; apply after_call (w := w) hb; (focus ((repeat' (first | (with_reducible exact hM) | (with_reducible apply mem_alloc) | (with_reducible apply mem_set) | (with_reducible apply mem_drew) | (with_reducible apply mem_drewN))); done)); (focus ((repeat' (first | (with_reducible exact hB) | (with_reducible exact Below.refl _ _) | (with_reducible refine Below.alloc ?_ ?_ _) | (with_reducible refine Below.setCell ?_ ?_ _) | (with_reducible refine Below.drew ?_) | (with_reducible refine below_drewN ?_ _) | (with_reducible exact Nat.le_refl _) | (with_reducible exact hB.size) | (simp [go_sem]; done) | (have := hB.size; simp [go_sem]; omega))); done)); (focus ((repeat' (first | (with_reducible exact hB) | (with_reducible exact Below.refl _ _) | (with_reducible refine Below.alloc ?_ ?_ _) | (with_reducible refine Below.setCell ?_ ?_ _) | (with_reducible refine Below.drew ?_) | (with_reducible refine below_drewN ?_ _) | (with_reducible exact Nat.le_refl _) | (with_reducible exact hB.size) | (simp [go_sem]; done) | (have := hB.size; simp [go_sem]; omega))); done)); clear hM hB hb; intro hM hB; (try clear hC); have hC := mem_facts hM; simp at hC))
      go_ret
      exact ⟨by first | rfl | simp [hd], by (repeat' (first | (with_reducible exact hB) | (with_reducible exact Below.refl _ _) | (with_reducible refine Below.alloc ?_ ?_ _) | (with_reducible refine Below.setCell ?_ ?_ _) | (with_reducible refine Below.drew ?_) | (with_reducible refine below_drewN ?_ _) | (with_reducible exact Nat.le_refl _) | (with_reducible exact hB.size) | (simp [go_sem]; done) | (have := hB.size; simp [go_sem]; omega)))⟩
set_option maxRecDepth 100000 in
set_option maxHeartbeats 8000000 in
theorem lawLeast (A : Option Addr) (len cap : Nat) (zs : List Int) (w : World) (hRow : RowB .u8 w w.heap.size A len cap zs) : Calls Try.prog 5 #[.slice A len cap] w (fun E' W' => E' = .returned (.bool true) ∧ Below w.heap.size w W') := by
  by_cases hl : 1048576 < len
  · have hM := mem_nil w; have hB := Below.refl w.heap.size w; have hC := True.intro
    go_enter Try.func5, Try.ntmps5
    go_wp2
    go_ret
    exact ⟨rfl, by (repeat' (first | (with_reducible exact hB) | (with_reducible exact Below.refl _ _) | (with_reducible refine Below.alloc ?_ ?_ _) | (with_reducible refine Below.setCell ?_ ?_ _) | (with_reducible refine Below.drew ?_) | (with_reducible refine below_drewN ?_ _) | (with_reducible exact Nat.le_refl _) | (with_reducible exact hB.size) | (simp [go_sem]; done) | (have := hB.size; simp [go_sem]; omega)))⟩
  · have hM := mem_nil w; have hB := Below.refl w.heap.size w; have hC := True.intro
    go_enter Try.func5, Try.ntmps5
    go_upto_region 4 with (go_at_call 16; apply use_pprow (w := w) hRow (DrawShortLeast_ _ _ _ _); (focus ((repeat' (first | (with_reducible exact hB) | (with_reducible exact Below.refl _ _) | (with_reducible refine Below.alloc ?_ ?_ _) | (with_reducible refine Below.setCell ?_ ?_ _) | (with_reducible refine Below.drew ?_) | (with_reducible refine below_drewN ?_ _) | (with_reducible exact Nat.le_refl _) | (with_reducible exact hB.size) | (simp [go_sem]; done) | (have := hB.size; simp [go_sem]; omega))); done)); (focus ((repeat' (first | (with_reducible exact hB) | (with_reducible exact Below.refl _ _) | (with_reducible refine Below.alloc ?_ ?_ _) | (with_reducible refine Below.setCell ?_ ?_ _) | (with_reducible refine Below.drew ?_) | (with_reducible refine below_drewN ?_ _) | (with_reducible exact Nat.le_refl _) | (with_reducible exact hB.size) | (simp [go_sem]; done) | (have := hB.size; simp [go_sem]; omega))); done)); rintro x y z t w' hb; apply after_call (w := w) hb; (focus ((repeat' (first | (with_reducible exact hM) | (with_reducible apply mem_alloc) | (with_reducible apply mem_set) | (with_reducible apply mem_drew) | (with_reducible apply mem_drewN))); done)); (focus ((repeat' (first | (with_reducible exact hB) | (with_reducible exact Below.refl _ _) | (with_reducible refine Below.alloc ?_ ?_ _) | (with_reducible refine Below.setCell ?_ ?_ _) | (with_reducible refine Below.drew ?_) | (with_reducible refine below_drewN ?_ _) | (with_reducible exact Nat.le_refl _) | (with_reducible exact hB.size) | (simp [go_sem]; done) | (have := hB.size; simp [go_sem]; omega))); done)); (focus ((repeat' (first | (with_reducible exact hB) | (with_reducible exact Below.refl _ _) | (with_reducible refine Below.alloc ?_ ?_ _) | (with_reducible refine Below.setCell ?_ ?_ _) | (with_reducible refine Below.drew ?_) | (with_reducible refine below_drewN ?_ _) | (with_reducible exact Nat.le_refl _) | (with_reducible exact hB.size) | (simp [go_sem]; done) | (have := hB.size; simp [go_sem]; omega))); done)); clear hM hB hb; intro hM hB; (try clear hC); have hC := mem_facts hM; simp at hC)
    have c1 := fun W => ShortLeast_ x y z t W
    have c2 := fun W => sShortLeast_ x y z t W
    cases hb : baP ⟨x, y⟩ ⟨z, t⟩
    · have e : mLeast ⟨x, y⟩ ⟨z, t⟩ = (0, false) := by simp [mLeast, hb]
      rw [e] at c1 c2
      dsimp only at c1 c2
      clear hb e
      go_wp2_with (first | (go_at_call 14; refine (c1 _).mono ?_; rintro e w' ⟨rfl, hb⟩; apply after_call (w := w) hb; (focus ((repeat' (first | (with_reducible exact hM) | (with_reducible apply mem_alloc) | (with_reducible apply mem_set) | (with_reducible apply mem_drew) | (with_reducible apply mem_drewN))); done)); (focus ((repeat' (first | (with_reducible exact hB) | (with_reducible exact Below.refl _ _) | (with_reducible refine Below.alloc ?_ ?_ _) | (with_reducible refine Below.setCell ?_ ?_ _) | (with_reducible refine Below.drew ?_) | (with_reducible refine below_drewN ?_ _) | (with_reducible exact Nat.le_refl _) | (with_reducible exact hB.size) | (simp [go_sem]; done) | (have := hB.size; simp [go_sem]; omega))); done)); (focus ((repeat' (first | (with_reducible exact hB) | (with_reducible exact Below.refl _ _) | (with_reducible refine Below.alloc ?_ ?_ _) | (with_reducible refine Below.setCell ?_ ?_ _) | (with_reducible refine Below.drew ?_) | (with_reducible refine below_drewN ?_ _) | (with_reducible exact Nat.le_refl _) | (with_reducible exact hB.size) | (simp [go_sem]; done) | (have := hB.size; simp [go_sem]; omega))); done)); clear hM hB hb; intro hM hB; (try clear hC); have hC := mem_facts hM; simp at hC) | (go_at_call 17; refine (c2 _).mono ?_; rintro e w' ⟨rfl, hb⟩; apply after_call (w := w) hb; (focus ((repeat' (first | (with_reducible exact hM) | (with_reducible apply mem_alloc) | (with_reducible apply mem_set) | (with_reducible apply mem_drew) | (with_reducible apply mem_drewN))); done)); (focus ((repeat' (first | (with_reducible exact hB) | (with_reducible exact Below.refl _ _) | (with_reducible refine Below.alloc ?_ ?_ _) | (with_reducible refine Below.setCell ?_ ?_ _) | (with_reducible refine Below.drew ?_) | (with_reducible refine below_drewN ?_ _) | (with_reducible exact Nat.le_refl _) | (with_reducible exact hB.size) | (simp [go_sem]; done) | (have := hB.size; simp [go_sem]; omega))); done)); (focus ((repeat' (first | (with_reducible exact hB) | (with_reducible exact Below.refl _ _) | (with_reducible refine Below.alloc ?_ ?_ _) | (with_reducible refine Below.setCell ?_ ?_ _) | (with_reducible refine Below.drew ?_) | (with_reducible refine below_drewN ?_ _) | (with_reducible exact Nat.le_refl _) | (with_reducible exact hB.size) | (simp [go_sem]; done) | (have := hB.size; simp [go_sem]; omega))); done)); clear hM hB hb; intro hM hB; (try clear hC); have hC := mem_facts hM; simp at hC))
      go_ret
      exact ⟨rfl, by (repeat' (first | (with_reducible exact hB) | (with_reducible exact Below.refl _ _) | (with_reducible refine Below.alloc ?_ ?_ _) | (with_reducible refine Below.setCell ?_ ?_ _) | (with_reducible refine Below.drew ?_) | (with_reducible refine below_drewN ?_ _) | (with_reducible exact Nat.le_refl _) | (with_reducible exact hB.size) | (simp [go_sem]; done) | (have := hB.size; simp [go_sem]; omega)))⟩
    · obtain ⟨e1, e2, e3, f0, f1, f2, f3, f4⟩ := least_facts hb
      have hg := ba_g hb
      rw [e1] at c1 c2
      have c3 := fun W => ShortLength_ x y W
      rw [e2] at c3
      have c4 := fun W => ShortLength_ z t W
      rw [e3] at c4
      dsimp only at c1 c2 c3 c4
      have k1 := len_bd hg.1
      have k2 := len_bd hg.2.1
      dsimp only at k1 k2
      generalize dotP (shP ⟨x, y⟩ ⟨z, t⟩).1 (shP ⟨x, y⟩ ⟨z, t⟩).1 = L at *
      generalize dotP ⟨x, y⟩ ⟨x, y⟩ = N at *
      generalize dotP ⟨z, t⟩ ⟨z, t⟩ = K at *
      simp only [dotP] at f3 f4
      have w1 : wrap64 (x + z) = x + z := wrap_mid (by omega)
      have w2 : wrap64 (y + t) = y + t := wrap_mid (by omega)
      have w3 : wrap64 (x - z) = x - z := wrap_mid (by omega)
      have w4 : wrap64 (y - t) = y - t := wrap_mid (by omega)
      have b1 := sq_pos_bd (x := x + z) (k := 28284) (by omega)
      have b2 := sq_pos_bd (x := y + t) (k := 28284) (by omega)
      have b3 := sq_pos_bd (x := x - z) (k := 28284) (by omega)
      have b4 := sq_pos_bd (x := y - t) (k := 28284) (by omega)
      clear k1 k2 hg hb e1 e2 e3
      generalize hp : x + z = p at *
      generalize hq : y + t = q at *
      generalize hr : x - z = r at *
      generalize hs : y - t = s at *
      have w5 : wrap64 (p * p) = p * p := wrap_mid (by omega)
      have w6 : wrap64 (q * q) = q * q := wrap_mid (by omega)
      have w7 : wrap64 (p * p + q * q) = p * p + q * q := wrap_mid (by omega)
      have w8 : wrap64 (r * r) = r * r := wrap_mid (by omega)
      have w9 : wrap64 (s * s) = s * s := wrap_mid (by omega)
      have w10 : wrap64 (r * r + s * s) = r * r + s * s := wrap_mid (by omega)
      have d0 : decide (0 < L) = true := decide_eq_true (by omega)
      have d1 : decide (L ≤ N) = true := decide_eq_true f1
      have d2 : decide (L ≤ K) = true := decide_eq_true f2
      have d3 : decide (L ≤ p * p + q * q) = true := decide_eq_true f3
      have d4 : decide (L ≤ r * r + s * s) = true := decide_eq_true f4
      clear f0 f1 f2 f3 f4 b1 b2 b3 b4
      go_wp2_with (first | (go_at_call 14; refine (c1 _).mono ?_; rintro e w' ⟨rfl, hb⟩; apply after_call (w := w) hb; (focus ((repeat' (first | (with_reducible exact hM) | (with_reducible apply mem_alloc) | (with_reducible apply mem_set) | (with_reducible apply mem_drew) | (with_reducible apply mem_drewN))); done)); (focus ((repeat' (first | (with_reducible exact hB) | (with_reducible exact Below.refl _ _) | (with_reducible refine Below.alloc ?_ ?_ _) | (with_reducible refine Below.setCell ?_ ?_ _) | (with_reducible refine Below.drew ?_) | (with_reducible refine below_drewN ?_ _) | (with_reducible exact Nat.le_refl _) | (with_reducible exact hB.size) | (simp [go_sem]; done) | (have := hB.size; simp [go_sem]; omega))); done)); (focus ((repeat' (first | (with_reducible exact hB) | (with_reducible exact Below.refl _ _) | (with_reducible refine Below.alloc ?_ ?_ _) | (with_reducible refine Below.setCell ?_ ?_ _) | (with_reducible refine Below.drew ?_) | (with_reducible refine below_drewN ?_ _) | (with_reducible exact Nat.le_refl _) | (with_reducible exact hB.size) | (simp [go_sem]; done) | (have := hB.size; simp [go_sem]; omega))); done)); clear hM hB hb; intro hM hB; (try clear hC); have hC := mem_facts hM; simp at hC) | (go_at_call 17; refine (c2 _).mono ?_; rintro e w' ⟨rfl, hb⟩; apply after_call (w := w) hb; (focus ((repeat' (first | (with_reducible exact hM) | (with_reducible apply mem_alloc) | (with_reducible apply mem_set) | (with_reducible apply mem_drew) | (with_reducible apply mem_drewN))); done)); (focus ((repeat' (first | (with_reducible exact hB) | (with_reducible exact Below.refl _ _) | (with_reducible refine Below.alloc ?_ ?_ _) | (with_reducible refine Below.setCell ?_ ?_ _) | (with_reducible refine Below.drew ?_) | (with_reducible refine below_drewN ?_ _) | (with_reducible exact Nat.le_refl _) | (with_reducible exact hB.size) | (simp [go_sem]; done) | (have := hB.size; simp [go_sem]; omega))); done)); (focus ((repeat' (first | (with_reducible exact hB) | (with_reducible exact Below.refl _ _) | (with_reducible refine Below.alloc ?_ ?_ _) | (with_reducible refine Below.setCell ?_ ?_ _) | (with_reducible refine Below.drew ?_) | (with_reducible refine below_drewN ?_ _) | (with_reducible exact Nat.le_refl _) | (with_reducible exact hB.size) | (simp [go_sem]; done) | (have := hB.size; simp [go_sem]; omega))); done)); clear hM hB hb; intro hM hB; (try clear hC); have hC := mem_facts hM; simp at hC) | ((go_at_call 15; refine (c3 _).mono ?_; rintro e w' ⟨rfl, hb⟩; apply after_call (w := w) hb; (focus ((repeat' (first | (with_reducible exact hM) | (with_reducible apply mem_alloc) | (with_reducible apply mem_set) | (with_reducible apply mem_drew) | (with_reducible apply mem_drewN))); done)); (focus ((repeat' (first | (with_reducible exact hB) | (with_reducible exact Below.refl _ _) | (with_reducible refine Below.alloc ?_ ?_ _) | (with_reducible refine Below.setCell ?_ ?_ _) | (with_reducible refine Below.drew ?_) | (with_reducible refine below_drewN ?_ _) | (with_reducible exact Nat.le_refl _) | (with_reducible exact hB.size) | (simp [go_sem]; done) | (have := hB.size; simp [go_sem]; omega))); done)); (focus ((repeat' (first | (with_reducible exact hB) | (with_reducible exact Below.refl _ _) | (with_reducible refine Below.alloc ?_ ?_ _) | (with_reducible refine Below.setCell ?_ ?_ _) | (with_reducible refine Below.drew ?_) | (with_reducible refine below_drewN ?_ _) | (with_reducible exact Nat.le_refl _) | (with_reducible exact hB.size) | (simp [go_sem]; done) | (have := hB.size; simp [go_sem]; omega))); done)); clear hM hB hb; intro hM hB; (try clear hC); have hC := mem_facts hM; simp at hC); clear c3) | (go_at_call 15; refine (c4 _).mono ?_; rintro e w' ⟨rfl, hb⟩; apply after_call (w := w) hb; (focus ((repeat' (first | (with_reducible exact hM) | (with_reducible apply mem_alloc) | (with_reducible apply mem_set) | (with_reducible apply mem_drew) | (with_reducible apply mem_drewN))); done)); (focus ((repeat' (first | (with_reducible exact hB) | (with_reducible exact Below.refl _ _) | (with_reducible refine Below.alloc ?_ ?_ _) | (with_reducible refine Below.setCell ?_ ?_ _) | (with_reducible refine Below.drew ?_) | (with_reducible refine below_drewN ?_ _) | (with_reducible exact Nat.le_refl _) | (with_reducible exact hB.size) | (simp [go_sem]; done) | (have := hB.size; simp [go_sem]; omega))); done)); (focus ((repeat' (first | (with_reducible exact hB) | (with_reducible exact Below.refl _ _) | (with_reducible refine Below.alloc ?_ ?_ _) | (with_reducible refine Below.setCell ?_ ?_ _) | (with_reducible refine Below.drew ?_) | (with_reducible refine below_drewN ?_ _) | (with_reducible exact Nat.le_refl _) | (with_reducible exact hB.size) | (simp [go_sem]; done) | (have := hB.size; simp [go_sem]; omega))); done)); clear hM hB hb; intro hM hB; (try clear hC); have hC := mem_facts hM; simp at hC))
      go_ret
      exact ⟨by first | rfl | simp [d4], by (repeat' (first | (with_reducible exact hB) | (with_reducible exact Below.refl _ _) | (with_reducible refine Below.alloc ?_ ?_ _) | (with_reducible refine Below.setCell ?_ ?_ _) | (with_reducible refine Below.drew ?_) | (with_reducible refine below_drewN ?_ _) | (with_reducible exact Nat.le_refl _) | (with_reducible exact hB.size) | (simp [go_sem]; done) | (have := hB.size; simp [go_sem]; omega)))⟩
theorem goShortIs (A : Option Addr) (len cap : Nat) (zs : List Int) (w : World) (h : IsRow .u8 w A len cap zs) : Calls Try.prog 4 #[.slice A len cap] w (fun E' W' => E' = .returned (.bool true) ∧ Below w.heap.size w W') := lawShortIsD A len cap zs w (rowB h)
theorem goLeast (A : Option Addr) (len cap : Nat) (zs : List Int) (w : World) (h : IsRow .u8 w A len cap zs) : Calls Try.prog 5 #[.slice A len cap] w (fun E' W' => E' = .returned (.bool true) ∧ Below w.heap.size w W') := lawLeast A len cap zs w (rowB h)
end Go.Proofs.Ythmlkmlgehheoaa

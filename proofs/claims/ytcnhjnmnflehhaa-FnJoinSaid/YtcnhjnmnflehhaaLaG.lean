
/- The program's meets, walked. No condition on what is exported. -/
import Derived.Test.YtcnhjnmnflehhaaLaF
namespace Go.Proofs.Ytcnhjnmnflehhaa
open Go.RowKit

/-- no pair with a lesser first number is in both; none with this first number and a lesser second one -/
def noP (f g : M) (d x : Int) : Prop := ∀ u v : Int, 1 ≤ u → u < x → 0 ≤ v → v < d → ¬ (Lat f u v ∧ Lat g u v)
def noR (f g : M) (x y : Int) : Prop := ∀ v : Int, 0 ≤ v → v < y → ¬ (Lat f x v ∧ Lat g x v)
theorem lat_dvd {f : M} (hf : RF f) {u v : Int} (h : Lat f u v) : f.a ∣ u := by
  obtain ⟨s, t, h1, _⟩ := h
  rw [hf.1, Int.mul_zero, Int.add_zero] at h1
  exact ⟨s, by rw [h1, Int.mul_comm]⟩
theorem noP_start {f : M} (g : M) (hf : RF f) (d : Int) : noP f g d f.a := by
  intro u v h1 h2 _ _ h
  have := Int.le_of_dvd (by omega) (lat_dvd hf h.1)
  omega
theorem noP_next {f g : M} {d x : Int} (hf : RF f) (hx : f.a ∣ x) (h : noP f g d x) (h2 : noR f g x d) : noP f g d (x + f.a) := by
  intro u v k1 k2 k3 k4 k
  rcases Int.lt_or_le u x with hl | hl
  · exact h u v k1 hl k3 k4 k
  · have h4 := lat_dvd hf k.1
    have e : u = x := by
      obtain ⟨s, hs⟩ := hx
      obtain ⟨t, ht⟩ := h4
      have ha := hf.2.1
      have e1 : f.a * (t - s) < f.a * 1 := by rw [Int.mul_sub]; omega
      have e2 : f.a * 0 ≤ f.a * (t - s) := by rw [Int.mul_sub]; omega
      have e3 := Int.lt_of_mul_lt_mul_left e1 (by omega)
      have e4 := Int.le_of_mul_le_mul_left e2 (by omega)
      have : t = s := by omega
      rw [hs, ht, this]
    subst e
    exact h2 v k3 k4 k
theorem noP_le {f g : M} {d x : Int} (hf : RF f) (hg : RF g) (hd : 1 ≤ d) (h : noP f g d x) : x ≤ f.a * (f.d * g.a * g.d) := by
  apply Int.not_lt.1
  intro hl
  have k := meet_ex hf hg
  have h1 : 1 ≤ f.a * (f.d * g.a * g.d) := Int.mul_pos (by have := hf.2; omega) (Int.mul_pos (Int.mul_pos (by have := hf.2; omega) (by have := hg.2; omega)) (by have := hg.2; omega))
  exact h _ 0 h1 hl (Int.le_refl _) (by omega) k
theorem noR_next {f g : M} {x : Int} {y : Nat} (h : noR f g x y) (k : ¬ (Lat f x y ∧ Lat g x y)) : noR f g x ((y + 1 : Nat) : Int) := by
  intro v h1 h2 h3
  rcases Int.lt_or_le v y with hl | hl
  · exact h v h1 hl h3
  · have : v = y := by omega
    subst this
    exact k h3
theorem noP_found {f g : M} (hf : RF f) (hg : RF g) {x : Int} {y : Nat} (hx : 1 ≤ x) (hy : y < lcd f g) (h : noP f g (lcd f g) x) (h1 : Lat f x y) (h2 : Lat g x y) : mtM f g = ⟨x, y, 0, lcd f g⟩ :=
  (meet_of (lcd_iff hf hg) h1 h2 hx ⟨by omega, by omega⟩ h).2
/-- at the heads of the rounds of 'meet' -/
def MtR (f g : M) (w : World) (v : Value) (wr : World) : Prop := ∃ x : Int, v = .int .i64 x ∧ 1 ≤ x ∧ f.a ∣ x ∧ noP f g (lcd f g) x ∧
  Mem wr [(w.heap.size + 1 + 1, #[.int .i64 0, .int .i64 0, .int .i64 0, .int .i64 0], 42), (w.heap.size + 1, #[.int .i64 g.a, .int .i64 g.b, .int .i64 g.c, .int .i64 g.d], 42), (w.heap.size, #[.int .i64 f.a, .int .i64 f.b, .int .i64 f.c, .int .i64 f.d], 42)] ∧ Below w.heap.size w wr
def MtQ (f g : M) (x : Int) (w : World) (v : Value) (wr : World) : Prop := ∃ y : Nat, v = .int .i64 y ∧ y ≤ lcd f g ∧ noR f g x y ∧
  Mem wr [(w.heap.size + 1 + 1, #[.int .i64 0, .int .i64 0, .int .i64 0, .int .i64 0], 42), (w.heap.size + 1, #[.int .i64 g.a, .int .i64 g.b, .int .i64 g.c, .int .i64 g.d], 42), (w.heap.size, #[.int .i64 f.a, .int .i64 f.b, .int .i64 f.c, .int .i64 f.d], 42)] ∧ Below w.heap.size w wr
set_option maxHeartbeats 8000000 in
theorem meet_ (a b d e f h : Int) (h1 : RF ⟨a, b, 0, d⟩) (h2 : RF ⟨e, f, 0, h⟩) (k1 : a * d ≤ 100) (k2 : e * h ≤ 100) (w : World) :
    Calls Try.prog 58 #[.agg #[.int .i64 a, .int .i64 b, .int .i64 0, .int .i64 d], .agg #[.int .i64 e, .int .i64 f, .int .i64 0, .int .i64 h]] w (fun E' W' => E' = .returned (.agg #[.int .i64 ((mtM ⟨a, b, 0, d⟩ ⟨e, f, 0, h⟩)).a, .int .i64 ((mtM ⟨a, b, 0, d⟩ ⟨e, f, 0, h⟩)).b, .int .i64 ((mtM ⟨a, b, 0, d⟩ ⟨e, f, 0, h⟩)).c, .int .i64 ((mtM ⟨a, b, 0, d⟩ ⟨e, f, 0, h⟩)).d]) ∧ Below w.heap.size w W') := by
  have b1 := h1.2
  have b2 := h2.2
  dsimp only at b1 b2
  have a1 : a ≤ 100 := by have := mul_le' (show 0 ≤ a by omega) (show 1 ≤ d by omega); omega
  have d1 : d ≤ 100 := by have := mul_le' (show 0 ≤ d by omega) (show 1 ≤ a by omega); rw [Int.mul_comm] at this; grind
  have e1 : e ≤ 100 := by have := mul_le' (show 0 ≤ e by omega) (show 1 ≤ h by omega); omega
  have f1 : h ≤ 100 := by have := mul_le' (show 0 ≤ h by omega) (show 1 ≤ e by omega); rw [Int.mul_comm] at this; grind
  have hN : a * (d * e * h) ≤ 10000 := by
    have e3 : a * (d * e * h) = (a * d) * (e * h) := by grind
    have p := mul_bd (x := a * d) (y := e * h) (a := 100) (b := 100) ⟨by have := Int.mul_nonneg (show 0 ≤ a by omega) (show 0 ≤ d by omega); omega, k1⟩ ⟨by have := Int.mul_nonneg (show 0 ≤ e by omega) (show 0 ≤ h by omega); omega, k2⟩
    omega
  obtain ⟨p, rfl⟩ : ∃ p : Nat, d = p := ⟨d.toNat, by omega⟩
  obtain ⟨q, rfl⟩ : ∃ q : Nat, h = q := ⟨h.toNat, by omega⟩
  obtain ⟨D, hD⟩ : ∃ D, D = lcd ⟨a, b, 0, (p : Int)⟩ ⟨e, f, 0, (q : Int)⟩ := ⟨_, rfl⟩
  have hl := lcd_pos h1 h2
  have hl0 : lcd ⟨a, b, 0, (p : Int)⟩ ⟨e, f, 0, (q : Int)⟩ = Nat.lcm p q := rfl
  have hpq : p * q ≤ 10000 := Nat.mul_le_mul (show p ≤ 100 by omega) (show q ≤ 100 by omega)
  dsimp only [Int.natAbs_natCast] at hl
  have hD1 : 1 ≤ D ∧ D ≤ 10000 := by rw [hD]; omega
  have cG := cGcd_ p q (by omega) (by omega)
  have HQ := Lib.hid (show IntKind.i64.wrap (IntKind.i64.wrap ((p : Int) / (Nat.gcd p q : Nat)) * (q : Int)) = (D : Int) by
    have g0 : 0 < Nat.gcd p q := Nat.gcd_pos_of_pos_left _ (by omega)
    have q1 : (p : Int) / (Nat.gcd p q : Nat) = ((p / Nat.gcd p q : Nat) : Int) := by simp
    have q2 : p / Nat.gcd p q ≤ p := Nat.div_le_self _ _
    have q3 : p / Nat.gcd p q * q = Nat.lcm p q := by
      rw [Nat.lcm, Nat.mul_comm p q, Nat.mul_div_assoc _ (Nat.gcd_dvd_left _ _), Nat.mul_comm]
    rw [q1]
    generalize p / Nat.gcd p q = z at *
    have q4 : (z : Int) * (q : Int) = ((Nat.lcm p q : Nat) : Int) := by rw [← q3]; simp
    rw [iw, iw, wrap_mid (x := (z : Int)) (by omega)]
    rw [q4, wrap_mid (by omega), hD, hl0])
  have g0 : 0 < Nat.gcd p q := Nat.gcd_pos_of_pos_left _ (by omega)
  have hg1 : (Nat.gcd p q == 0) = false := by simp; omega
  have HD := Lib.hid hD
  have H1 := Lib.hid h1
  have H2 := Lib.hid h2
  clear hl hl0 hpq k1 k2 h1 h2 hD
  generalize Nat.gcd p q = G at *
  have hg2 : (G = 0) = False := by simp; omega
  have hM := mem_nil w; have hB := Below.refl w.heap.size w; have hC := True.intro
  go_enter Try.func58, Try.ntmps58
  go_wp2_with fail
  (refine wp_region_T2 (fun W' => (W'.cell? ⟨w.heap.size, 3, none⟩ = some (.int .i64 p) ∧ W'.cell? ⟨w.heap.size + 1, 3, none⟩ = some (.int .i64 q))) 100 (by kernel_rfl) ?_ ?_; (focus (simp [*, go_sem]; done)); intro hS)
  (refine wpT_take (i := 0) (oi := ?_) (v := ?_) hS ?_ ?_ ?_ ?_ ?_ ?_; rotate_left 2; (focus (simp only [List.getElem?_toArray, List.getElem?_cons_zero]; exact rfl)); (focus (kernel_rfl)); (focus (rfl)); (focus (intro w' hW; (try dsimp only at hW); go_simp; (try with_reducible rfl); done)); (focus (exact fun _ _ _ h => h)); (try simp only [Act.put, List.setIfInBounds_toArray, List.set_cons_zero, List.set_cons_succ])); (refine wpT_take (i := 1) (oi := ?_) (v := ?_) hS ?_ ?_ ?_ ?_ ?_ ?_; rotate_left 2; (focus (simp only [List.getElem?_toArray, List.getElem?_cons_zero, List.getElem?_cons_succ]; exact rfl)); (focus (kernel_rfl)); (focus (rfl)); (focus (intro w' hW; (try dsimp only at hW); go_simp; (try with_reducible rfl); done)); (focus (exact fun _ _ _ h => h)); (try simp only [Act.put, List.setIfInBounds_toArray, List.set_cons_zero, List.set_cons_succ])); (refine wpT_take (i := 2) (oi := ?_) (v := ?_) hS ?_ ?_ ?_ ?_ ?_ ?_; rotate_left 2; (focus (simp only [List.getElem?_toArray, List.getElem?_cons_zero, List.getElem?_cons_succ]; exact rfl)); (focus (kernel_rfl)); (focus (rfl)); (focus (intro w' hW; (try dsimp only at hW); go_simp; (try with_reducible rfl); done)); (focus (exact fun _ _ _ h => h)); (try simp only [Act.put, List.setIfInBounds_toArray, List.set_cons_zero, List.set_cons_succ])); (refine wpT_take (i := 3) (oi := ?_) (v := ?_) hS ?_ ?_ ?_ ?_ ?_ ?_; rotate_left 2; (focus (simp only [List.getElem?_toArray, List.getElem?_cons_zero, List.getElem?_cons_succ]; exact rfl)); (focus (kernel_rfl)); (focus (rfl)); (focus (intro w' hW; (try dsimp only at hW); go_simp; (try with_reducible rfl); done)); (focus (exact fun _ _ _ h => h)); (try simp only [Act.put, List.setIfInBounds_toArray, List.set_cons_zero, List.set_cons_succ])); (refine wpT_take (i := 4) (oi := ?_) (v := ?_) hS ?_ ?_ ?_ ?_ ?_ ?_; rotate_left 2; (focus (simp only [List.getElem?_toArray, List.getElem?_cons_zero, List.getElem?_cons_succ]; exact rfl)); (focus (kernel_rfl)); (focus (rfl)); (focus (intro w' hW; (try dsimp only at hW); go_simp; (try with_reducible rfl); done)); (focus (exact fun _ _ _ h => h)); (try simp only [Act.put, List.setIfInBounds_toArray, List.set_cons_zero, List.set_cons_succ])); (refine wpT_take (i := 5) (oi := ?_) (v := ?_) hS ?_ ?_ ?_ ?_ ?_ ?_; rotate_left 2; (focus (simp only [List.getElem?_toArray, List.getElem?_cons_zero, List.getElem?_cons_succ]; exact rfl)); (focus (kernel_rfl)); (focus (rfl)); (focus (intro w' hW; (try dsimp only at hW); go_simp; (try with_reducible rfl); done)); (focus (exact fun _ _ _ h => h)); (try simp only [Act.put, List.setIfInBounds_toArray, List.set_cons_zero, List.set_cons_succ])); (refine wpT_take (i := 6) (oi := ?_) (v := ?_) hS ?_ ?_ ?_ ?_ ?_ ?_; rotate_left 2; (focus (simp only [List.getElem?_toArray, List.getElem?_cons_zero, List.getElem?_cons_succ]; exact rfl)); (focus (kernel_rfl)); (focus (rfl)); (focus (intro w' hW; (try dsimp only at hW); go_simp; (try with_reducible rfl); done)); (focus (exact fun _ _ _ h => h)); (try simp only [Act.put, List.setIfInBounds_toArray, List.set_cons_zero, List.set_cons_succ])); (refine wpT_take (i := 7) (oi := ?_) (v := ?_) hS ?_ ?_ ?_ ?_ ?_ ?_; rotate_left 2; (focus (simp only [List.getElem?_toArray, List.getElem?_cons_zero, List.getElem?_cons_succ]; exact rfl)); (focus (kernel_rfl)); (focus (rfl)); (focus (intro w' hW; (try dsimp only at hW); go_simp; (try with_reducible rfl); done)); (focus (exact fun _ _ _ h => h)); (try simp only [Act.put, List.setIfInBounds_toArray, List.set_cons_zero, List.set_cons_succ])); (refine wpT_take (i := 8) (oi := ?_) (v := ?_) hS ?_ ?_ ?_ ?_ ?_ ?_; rotate_left 2; (focus (simp only [List.getElem?_toArray, List.getElem?_cons_zero, List.getElem?_cons_succ]; exact rfl)); (focus (kernel_rfl)); (focus (rfl)); (focus (intro w' hW; (try dsimp only at hW); go_simp; (try with_reducible rfl); done)); (focus (exact fun _ _ _ h => h)); (try simp only [Act.put, List.setIfInBounds_toArray, List.set_cons_zero, List.set_cons_succ])); (refine wpT_take (i := 11) (oi := ?_) (v := ?_) hS ?_ ?_ ?_ ?_ ?_ ?_; rotate_left 2; (focus (simp only [List.getElem?_toArray, List.getElem?_cons_zero, List.getElem?_cons_succ]; exact rfl)); (focus (kernel_rfl)); (focus (rfl)); (focus (intro w' hW; (try dsimp only at hW); go_simp; (try with_reducible rfl); done)); (focus (exact fun _ _ _ h => h)); (try simp only [Act.put, List.setIfInBounds_toArray, List.set_cons_zero, List.set_cons_succ])); (refine wpT_take (i := 12) (oi := ?_) (v := ?_) hS ?_ ?_ ?_ ?_ ?_ ?_; rotate_left 2; (focus (simp only [List.getElem?_toArray, List.getElem?_cons_zero, List.getElem?_cons_succ]; exact rfl)); (focus (kernel_rfl)); (focus (rfl)); (focus (intro w' hW; (try dsimp only at hW); go_simp; (try with_reducible rfl); done)); (focus (exact fun _ _ _ h => h)); (try simp only [Act.put, List.setIfInBounds_toArray, List.set_cons_zero, List.set_cons_succ])); (refine wpT_take (i := 13) (oi := ?_) (v := ?_) hS ?_ ?_ ?_ ?_ ?_ ?_; rotate_left 2; (focus (simp only [List.getElem?_toArray, List.getElem?_cons_zero, List.getElem?_cons_succ]; exact rfl)); (focus (kernel_rfl)); (focus (rfl)); (focus (intro w' hW; (try dsimp only at hW); go_simp; (try with_reducible rfl); done)); (focus (exact fun _ _ _ h => h)); (try simp only [Act.put, List.setIfInBounds_toArray, List.set_cons_zero, List.set_cons_succ]))
  (refine wpT_one (i := 9) (oi := ?_) ?_ ?_ ?_ ?_; rotate_left 1; (focus (kernel_rfl)); (focus (simp only [List.getElem?_toArray, List.getElem?_cons_zero, List.getElem?_cons_succ]; exact rfl)); (focus (rfl)); go_simp)
  (go_at_call 70; refine (cG _).mono ?_; rintro e w' ⟨rfl, hb⟩; apply after_call (w := w) hb; (focus ((repeat' (first | (with_reducible exact hM) | (with_reducible apply mem_alloc) | (with_reducible apply mem_set) | (with_reducible apply mem_drew) | (with_reducible apply mem_drewN))); done)); (focus ((repeat' (first | (with_reducible exact hB) | (with_reducible exact Below.refl _ _) | (with_reducible refine Below.alloc ?_ ?_ _) | (with_reducible refine Below.setCell ?_ ?_ _) | (with_reducible refine Below.drew ?_) | (with_reducible refine below_drewN ?_ _) | (with_reducible exact Nat.le_refl _) | (with_reducible exact hB.size) | (simp [go_sem]; done) | (have := hB.size; simp [go_sem]; omega))); done)); (focus ((repeat' (first | (with_reducible exact hB) | (with_reducible exact Below.refl _ _) | (with_reducible refine Below.alloc ?_ ?_ _) | (with_reducible refine Below.setCell ?_ ?_ _) | (with_reducible refine Below.drew ?_) | (with_reducible refine below_drewN ?_ _) | (with_reducible exact Nat.le_refl _) | (with_reducible exact hB.size) | (simp [go_sem]; done) | (have := hB.size; simp [go_sem]; omega))); done)); clear hM hB hb; intro hM hB; (try clear hC); have hC := mem_facts hM; simp at hC)
  (first | (with_reducible refine wpT_hold ?_ ?_; (focus (simp [*, go_sem]; done)); clear hS; intro hS; (try dsimp only at hS)) | (refine held_intro ?_ ?_; (focus (simp [*, go_sem]; done)); clear hS; intro hS))
  (refine wpT_take (i := 10) (oi := ?_) (v := ?_) hS ?_ ?_ ?_ ?_ ?_ ?_; rotate_left 2; (focus (simp only [List.getElem?_toArray, List.getElem?_cons_zero, List.getElem?_cons_succ]; exact rfl)); (focus (kernel_rfl)); (focus (rfl)); (focus (intro w' hW; (try dsimp only at hW); go_simp; (try with_reducible rfl); done)); (focus (exact fun _ _ _ h => h)); (try simp only [Act.put, List.setIfInBounds_toArray, List.set_cons_zero, List.set_cons_succ])); (refine wpT_take (i := 14) (oi := ?_) (v := ?_) hS ?_ ?_ ?_ ?_ ?_ ?_; rotate_left 2; (focus (simp only [List.getElem?_toArray, List.getElem?_cons_zero, List.getElem?_cons_succ]; exact rfl)); (focus (kernel_rfl)); (focus (rfl)); (focus (intro w' hW; (try dsimp only at hW); go_simp; (try with_reducible rfl); done)); (focus (exact fun _ _ _ h => h)); (try simp only [Act.put, List.setIfInBounds_toArray, List.set_cons_zero, List.set_cons_succ])); (refine wpT_take (i := 15) (oi := ?_) (v := ?_) hS ?_ ?_ ?_ ?_ ?_ ?_; rotate_left 2; (focus (simp only [List.getElem?_toArray, List.getElem?_cons_zero, List.getElem?_cons_succ]; exact rfl)); (focus (kernel_rfl)); (focus (rfl)); (focus (intro w' hW; (try dsimp only at hW); go_simp; (try with_reducible rfl); done)); (focus (exact fun _ _ _ h => h)); (try simp only [Act.put, List.setIfInBounds_toArray, List.set_cons_zero, List.set_cons_succ]))
  refine wpT_done (by kernel_rfl) ?_ _
  rw [HQ.out]
  go_wp2_with fail
  go_loopw [6] (fun v6 wr => MtR ⟨a, b, 0, (p : Int)⟩ ⟨e, f, 0, (q : Int)⟩ w v6 wr) (fun v6 _ => (20000 - intOf v6).toNat)
  case atStart =>
    refine ⟨a, rfl, b1.1, Int.dvd_refl _, noP_start _ H1.out _, ?_, by (repeat' (first | (with_reducible exact hB) | (with_reducible exact Below.refl _ _) | (with_reducible refine Below.alloc ?_ ?_ _) | (with_reducible refine Below.setCell ?_ ?_ _) | (with_reducible refine Below.drew ?_) | (with_reducible refine below_drewN ?_ _) | (with_reducible exact Nat.le_refl _) | (with_reducible exact hB.size) | (simp [go_sem]; done) | (have := hB.size; simp [go_sem]; omega)))⟩
    apply mem_drop 0
    · (repeat' (first | (with_reducible exact hM) | (with_reducible apply mem_alloc) | (with_reducible apply mem_set) | (with_reducible apply mem_drew) | (with_reducible apply mem_drewN)))
    · simp
  case round =>
    obtain ⟨x, rfl, hx1, hxd, hnp, hM', hB'⟩ := hrel
    dsimp only at hM' hxd
    (try clear hC); clear hM hB; have hM := hM'; have hB := hB'; clear hM' hB'; have hC := mem_facts hM; simp at hC
    have hle := noP_le H1.out H2.out (by have := HD.out; omega) hnp
    dsimp only at hle
    have hx2 : x ≤ 10000 := by omega
    have HX := Lib.hid hxd
    have HP := Lib.hid hnp
    clear hxd hnp hle
    go_wp2_with fail
    go_loopw [32] (fun v wr => MtQ ⟨a, b, 0, (p : Int)⟩ ⟨e, f, 0, (q : Int)⟩ x w v wr) (fun v _ => D - (intOf v).toNat)
    case atStart =>
      refine ⟨0, rfl, Nat.zero_le _, by intro v h1 h2; omega, ?_, by (repeat' (first | (with_reducible exact hB) | (with_reducible exact Below.refl _ _) | (with_reducible refine Below.alloc ?_ ?_ _) | (with_reducible refine Below.setCell ?_ ?_ _) | (with_reducible refine Below.drew ?_) | (with_reducible refine below_drewN ?_ _) | (with_reducible exact Nat.le_refl _) | (with_reducible exact hB.size) | (simp [go_sem]; done) | (have := hB.size; simp [go_sem]; omega)))⟩
      apply mem_drop 0
      · (repeat' (first | (with_reducible exact hM) | (with_reducible apply mem_alloc) | (with_reducible apply mem_set) | (with_reducible apply mem_drew) | (with_reducible apply mem_drewN)))
      · simp
    case round =>
      clear hM hB hC
      obtain ⟨y, rfl, hy1, hnr, hM', hB'⟩ := hrel
      dsimp only at hM'
      have hM := hM'
      have hB := hB'
      clear hM' hB'
      have hC := mem_facts hM
      simp at hC
      have HR := Lib.hid hnr
      rw [← HD.out] at hy1
      clear hnr
      by_cases hy : y < D
      · have c1 := fun W => has_ a b p x y (by omega) (by omega) (by omega) (by omega) (by omega) W
        have c2 := fun W => has_ e f q x y (by omega) (by omega) (by omega) (by omega) (by omega) W
        have HF := Lib.hid (hasB_iff H1.out (x := x) (y := y))
        have HG := Lib.hid (hasB_iff H2.out (x := x) (y := y))
        cases o1 : hasB ⟨a, b, 0, (p : Int)⟩ x y
        · rw [o1] at c1
          rw [o1] at HF
          clear o1
          go_wp2_with (go_at_call 40; refine (c1 _).mono ?_; rintro e w' ⟨rfl, hb⟩; apply after_call (w := w) hb; (focus ((repeat' (first | (with_reducible exact hM) | (with_reducible apply mem_alloc) | (with_reducible apply mem_set) | (with_reducible apply mem_drew) | (with_reducible apply mem_drewN))); done)); (focus ((repeat' (first | (with_reducible exact hB) | (with_reducible exact Below.refl _ _) | (with_reducible refine Below.alloc ?_ ?_ _) | (with_reducible refine Below.setCell ?_ ?_ _) | (with_reducible refine Below.drew ?_) | (with_reducible refine below_drewN ?_ _) | (with_reducible exact Nat.le_refl _) | (with_reducible exact hB.size) | (simp [go_sem]; done) | (have := hB.size; simp [go_sem]; omega))); done)); (focus ((repeat' (first | (with_reducible exact hB) | (with_reducible exact Below.refl _ _) | (with_reducible refine Below.alloc ?_ ?_ _) | (with_reducible refine Below.setCell ?_ ?_ _) | (with_reducible refine Below.drew ?_) | (with_reducible refine below_drewN ?_ _) | (with_reducible exact Nat.le_refl _) | (with_reducible exact hB.size) | (simp [go_sem]; done) | (have := hB.size; simp [go_sem]; omega))); done)); clear hM hB hb; intro hM hB; (try clear hC); have hC := mem_facts hM; simp at hC)
          go_roundw
          case rel =>
            refine ⟨y + 1, by simp, by have := HD.out; omega, noR_next HR.out (fun k => by have := HF.out.2 k.1; cases this), ?_, by (repeat' (first | (with_reducible exact hB) | (with_reducible exact Below.refl _ _) | (with_reducible refine Below.alloc ?_ ?_ _) | (with_reducible refine Below.setCell ?_ ?_ _) | (with_reducible refine Below.drew ?_) | (with_reducible refine below_drewN ?_ _) | (with_reducible exact Nat.le_refl _) | (with_reducible exact hB.size) | (simp [go_sem]; done) | (have := hB.size; simp [go_sem]; omega)))⟩
            apply mem_drop 0
            · (repeat' (first | (with_reducible exact hM) | (with_reducible apply mem_alloc) | (with_reducible apply mem_set) | (with_reducible apply mem_drew) | (with_reducible apply mem_drewN)))
            · simp
          case measure => simp [intOf]; omega
        · rw [o1] at c1
          rw [o1] at HF
          clear o1
          cases o2 : hasB ⟨e, f, 0, (q : Int)⟩ x y
          · rw [o2] at c2
            rw [o2] at HG
            clear o2
            go_wp2_with (first | ((go_at_call 40; refine (c1 _).mono ?_; rintro e w' ⟨rfl, hb⟩; apply after_call (w := w) hb; (focus ((repeat' (first | (with_reducible exact hM) | (with_reducible apply mem_alloc) | (with_reducible apply mem_set) | (with_reducible apply mem_drew) | (with_reducible apply mem_drewN))); done)); (focus ((repeat' (first | (with_reducible exact hB) | (with_reducible exact Below.refl _ _) | (with_reducible refine Below.alloc ?_ ?_ _) | (with_reducible refine Below.setCell ?_ ?_ _) | (with_reducible refine Below.drew ?_) | (with_reducible refine below_drewN ?_ _) | (with_reducible exact Nat.le_refl _) | (with_reducible exact hB.size) | (simp [go_sem]; done) | (have := hB.size; simp [go_sem]; omega))); done)); (focus ((repeat' (first | (with_reducible exact hB) | (with_reducible exact Below.refl _ _) | (with_reducible refine Below.alloc ?_ ?_ _) | (with_reducible refine Below.setCell ?_ ?_ _) | (with_reducible refine Below.drew ?_) | (with_reducible refine below_drewN ?_ _) | (with_reducible exact Nat.le_refl _) | (with_reducible exact hB.size) | (simp [go_sem]; done) | (have := hB.size; simp [go_sem]; omega))); done)); clear hM hB hb; intro hM hB; (try clear hC); have hC := mem_facts hM; simp at hC); clear c1) | (go_at_call 40; refine (c2 _).mono ?_; rintro e w' ⟨rfl, hb⟩; apply after_call (w := w) hb; (focus ((repeat' (first | (with_reducible exact hM) | (with_reducible apply mem_alloc) | (with_reducible apply mem_set) | (with_reducible apply mem_drew) | (with_reducible apply mem_drewN))); done)); (focus ((repeat' (first | (with_reducible exact hB) | (with_reducible exact Below.refl _ _) | (with_reducible refine Below.alloc ?_ ?_ _) | (with_reducible refine Below.setCell ?_ ?_ _) | (with_reducible refine Below.drew ?_) | (with_reducible refine below_drewN ?_ _) | (with_reducible exact Nat.le_refl _) | (with_reducible exact hB.size) | (simp [go_sem]; done) | (have := hB.size; simp [go_sem]; omega))); done)); (focus ((repeat' (first | (with_reducible exact hB) | (with_reducible exact Below.refl _ _) | (with_reducible refine Below.alloc ?_ ?_ _) | (with_reducible refine Below.setCell ?_ ?_ _) | (with_reducible refine Below.drew ?_) | (with_reducible refine below_drewN ?_ _) | (with_reducible exact Nat.le_refl _) | (with_reducible exact hB.size) | (simp [go_sem]; done) | (have := hB.size; simp [go_sem]; omega))); done)); clear hM hB hb; intro hM hB; (try clear hC); have hC := mem_facts hM; simp at hC))
            go_roundw
            case rel =>
              refine ⟨y + 1, by simp, by have := HD.out; omega, noR_next HR.out (fun k => by have := HG.out.2 k.2; cases this), ?_, by (repeat' (first | (with_reducible exact hB) | (with_reducible exact Below.refl _ _) | (with_reducible refine Below.alloc ?_ ?_ _) | (with_reducible refine Below.setCell ?_ ?_ _) | (with_reducible refine Below.drew ?_) | (with_reducible refine below_drewN ?_ _) | (with_reducible exact Nat.le_refl _) | (with_reducible exact hB.size) | (simp [go_sem]; done) | (have := hB.size; simp [go_sem]; omega)))⟩
              apply mem_drop 0
              · (repeat' (first | (with_reducible exact hM) | (with_reducible apply mem_alloc) | (with_reducible apply mem_set) | (with_reducible apply mem_drew) | (with_reducible apply mem_drewN)))
              · simp
            case measure => simp [intOf]; omega
          · rw [o2] at c2
            rw [o2] at HG
            clear o2
            have HE := Lib.hid (noP_found H1.out H2.out hx1 (y := y) (by have := HD.out; omega) HP.out (HF.out.1 rfl) (HG.out.1 rfl))
            go_wp2_with (first | ((go_at_call 40; refine (c1 _).mono ?_; rintro e w' ⟨rfl, hb⟩; apply after_call (w := w) hb; (focus ((repeat' (first | (with_reducible exact hM) | (with_reducible apply mem_alloc) | (with_reducible apply mem_set) | (with_reducible apply mem_drew) | (with_reducible apply mem_drewN))); done)); (focus ((repeat' (first | (with_reducible exact hB) | (with_reducible exact Below.refl _ _) | (with_reducible refine Below.alloc ?_ ?_ _) | (with_reducible refine Below.setCell ?_ ?_ _) | (with_reducible refine Below.drew ?_) | (with_reducible refine below_drewN ?_ _) | (with_reducible exact Nat.le_refl _) | (with_reducible exact hB.size) | (simp [go_sem]; done) | (have := hB.size; simp [go_sem]; omega))); done)); (focus ((repeat' (first | (with_reducible exact hB) | (with_reducible exact Below.refl _ _) | (with_reducible refine Below.alloc ?_ ?_ _) | (with_reducible refine Below.setCell ?_ ?_ _) | (with_reducible refine Below.drew ?_) | (with_reducible refine below_drewN ?_ _) | (with_reducible exact Nat.le_refl _) | (with_reducible exact hB.size) | (simp [go_sem]; done) | (have := hB.size; simp [go_sem]; omega))); done)); clear hM hB hb; intro hM hB; (try clear hC); have hC := mem_facts hM; simp at hC); clear c1) | (go_at_call 40; refine (c2 _).mono ?_; rintro e w' ⟨rfl, hb⟩; apply after_call (w := w) hb; (focus ((repeat' (first | (with_reducible exact hM) | (with_reducible apply mem_alloc) | (with_reducible apply mem_set) | (with_reducible apply mem_drew) | (with_reducible apply mem_drewN))); done)); (focus ((repeat' (first | (with_reducible exact hB) | (with_reducible exact Below.refl _ _) | (with_reducible refine Below.alloc ?_ ?_ _) | (with_reducible refine Below.setCell ?_ ?_ _) | (with_reducible refine Below.drew ?_) | (with_reducible refine below_drewN ?_ _) | (with_reducible exact Nat.le_refl _) | (with_reducible exact hB.size) | (simp [go_sem]; done) | (have := hB.size; simp [go_sem]; omega))); done)); (focus ((repeat' (first | (with_reducible exact hB) | (with_reducible exact Below.refl _ _) | (with_reducible refine Below.alloc ?_ ?_ _) | (with_reducible refine Below.setCell ?_ ?_ _) | (with_reducible refine Below.drew ?_) | (with_reducible refine below_drewN ?_ _) | (with_reducible exact Nat.le_refl _) | (with_reducible exact hB.size) | (simp [go_sem]; done) | (have := hB.size; simp [go_sem]; omega))); done)); clear hM hB hb; intro hM hB; (try clear hC); have hC := mem_facts hM; simp at hC))
            refine bodyPost_ret (by (simp [results, Try.results58, go_sem, *]; try rfl)) rfl ?_
            exact ⟨by rw [HE.out, ← HD.out], by (repeat' (first | (with_reducible exact hB) | (with_reducible exact Below.refl _ _) | (with_reducible refine Below.alloc ?_ ?_ _) | (with_reducible refine Below.setCell ?_ ?_ _) | (with_reducible refine Below.drew ?_) | (with_reducible refine below_drewN ?_ _) | (with_reducible exact Nat.le_refl _) | (with_reducible exact hB.size) | (simp [go_sem]; done) | (have := hB.size; simp [go_sem]; omega)))⟩
      · obtain rfl : y = D := by omega
        have HN := Lib.hid (noP_next H1.out HX.out HP.out (by rw [← HD.out]; exact HR.out))
        go_wp2_with fail
        go_roundw
        case rel =>
          refine ⟨x + a, by simp, by omega, ?_, HN.out, ?_, by (repeat' (first | (with_reducible exact hB) | (with_reducible exact Below.refl _ _) | (with_reducible refine Below.alloc ?_ ?_ _) | (with_reducible refine Below.setCell ?_ ?_ _) | (with_reducible refine Below.drew ?_) | (with_reducible refine below_drewN ?_ _) | (with_reducible exact Nat.le_refl _) | (with_reducible exact hB.size) | (simp [go_sem]; done) | (have := hB.size; simp [go_sem]; omega)))⟩
          · exact Int.dvd_add HX.out (Int.dvd_refl _)
          · apply mem_drop 0
            · (repeat' (first | (with_reducible exact hM) | (with_reducible apply mem_alloc) | (with_reducible apply mem_set) | (with_reducible apply mem_drew) | (with_reducible apply mem_drewN)))
            · simp
        case measure => simp [intOf]; omega
noncomputable def mMeet (m n : M) : M × Bool := if ltB 100 m && ltB 100 n then (mtM (nf m) (nf n), true) else (zm, false)
set_option maxHeartbeats 4000000 in
theorem LatticeMeet_ (a b c d e f g h : Int) (w : World) : Calls Try.prog 27 #[.agg #[.int .i64 a, .int .i64 b, .int .i64 c, .int .i64 d], .agg #[.int .i64 e, .int .i64 f, .int .i64 g, .int .i64 h]] w (fun E' W' => E' = .returned (.tuple #[.agg #[.int .i64 ((mMeet ⟨a, b, c, d⟩ ⟨e, f, g, h⟩).1).a, .int .i64 ((mMeet ⟨a, b, c, d⟩ ⟨e, f, g, h⟩).1).b, .int .i64 ((mMeet ⟨a, b, c, d⟩ ⟨e, f, g, h⟩).1).c, .int .i64 ((mMeet ⟨a, b, c, d⟩ ⟨e, f, g, h⟩).1).d], .bool (mMeet ⟨a, b, c, d⟩ ⟨e, f, g, h⟩).2]) ∧ Below w.heap.size w W') := by
  have c1 := fun W => latticesUpTo_ 100 a b c d e f g h W
  have HE := Lib.hid (show mMeet ⟨a, b, c, d⟩ ⟨e, f, g, h⟩ = if ltB 100 ⟨a, b, c, d⟩ && ltB 100 ⟨e, f, g, h⟩ then (mtM (nf ⟨a, b, c, d⟩) (nf ⟨e, f, g, h⟩), true) else (zm, false) from rfl)
  cases ho : (ltB 100 ⟨a, b, c, d⟩ && ltB 100 ⟨e, f, g, h⟩)
  · rw [ho] at HE
    rw [ho] at c1
    clear ho
    generalize ltM 100 ⟨a, b, c, d⟩ = l at *
    generalize ltM 100 ⟨e, f, g, h⟩ = n at *
    obtain ⟨p, q, r, t⟩ := l
    obtain ⟨p', q', r', t'⟩ := n
    dsimp only at c1
    have hM := mem_nil w; have hB := Below.refl w.heap.size w; have hC := True.intro
    go_enter Try.func27, Try.ntmps27
    go_wp2_with (first | (go_at_call 43; refine (c1 _).mono ?_; rintro e w' ⟨rfl, hb⟩; apply after_call (w := w) hb; (focus ((repeat' (first | (with_reducible exact hM) | (with_reducible apply mem_alloc) | (with_reducible apply mem_set) | (with_reducible apply mem_drew) | (with_reducible apply mem_drewN))); done)); (focus ((repeat' (first | (with_reducible exact hB) | (with_reducible exact Below.refl _ _) | (with_reducible refine Below.alloc ?_ ?_ _) | (with_reducible refine Below.setCell ?_ ?_ _) | (with_reducible refine Below.drew ?_) | (with_reducible refine below_drewN ?_ _) | (with_reducible exact Nat.le_refl _) | (with_reducible exact hB.size) | (simp [go_sem]; done) | (have := hB.size; simp [go_sem]; omega))); done)); (focus ((repeat' (first | (with_reducible exact hB) | (with_reducible exact Below.refl _ _) | (with_reducible refine Below.alloc ?_ ?_ _) | (with_reducible refine Below.setCell ?_ ?_ _) | (with_reducible refine Below.drew ?_) | (with_reducible refine below_drewN ?_ _) | (with_reducible exact Nat.le_refl _) | (with_reducible exact hB.size) | (simp [go_sem]; done) | (have := hB.size; simp [go_sem]; omega))); done)); clear hM hB hb; intro hM hB; (try clear hC); have hC := mem_facts hM; simp at hC))
    refine bodyPost_ret (by (simp [results, Try.results27, go_sem, *]; try rfl)) rfl ?_
    exact ⟨by rw [HE.out]; rfl, by (repeat' (first | (with_reducible exact hB) | (with_reducible exact Below.refl _ _) | (with_reducible refine Below.alloc ?_ ?_ _) | (with_reducible refine Below.setCell ?_ ?_ _) | (with_reducible refine Below.drew ?_) | (with_reducible refine below_drewN ?_ _) | (with_reducible exact Nat.le_refl _) | (with_reducible exact hB.size) | (simp [go_sem]; done) | (have := hB.size; simp [go_sem]; omega)))⟩
  · rw [ho] at HE
    rw [ho] at c1
    obtain ⟨ho1, ho2⟩ := Bool.and_eq_true_iff.1 ho
    clear ho
    obtain ⟨e1, s1, _, _, _, t1, u1, r1, r2, r3, r4⟩ := ltM_rf ho1
    obtain ⟨e2, s2, _, _, _, t2, u2, q1, q2, q3, q4⟩ := ltM_rf ho2
    rw [e1, e2] at c1
    rw [← u1] at t1
    rw [← u2] at t2
    clear ho1 ho2 e1 e2 u1 u2
    generalize nf ⟨a, b, c, d⟩ = l at *
    generalize nf ⟨e, f, g, h⟩ = n at *
    obtain ⟨p, q, r, t⟩ := l
    obtain ⟨p', q', r', t'⟩ := n
    dsimp only at c1 r1 r2 r3 r4 q1 q2 q3 q4 t1 t2
    subst r3 q3
    have c2 := fun W => meet_ p q t p' q' t' s1 s2 t1 t2 W
    clear r1 r2 r4 q1 q2 q4 s1 s2 t1 t2
    generalize hJ : mtM ⟨p, q, 0, t⟩ ⟨p', q', 0, t'⟩ = J at *
    clear hJ
    have hF := run_fieldL J.a J.b J.c J.d
    have hM := mem_nil w; have hB := Below.refl w.heap.size w; have hC := True.intro
    go_enter Try.func27, Try.ntmps27
    go_wp2_with (first | (go_at_call 43; refine (c1 _).mono ?_; rintro e w' ⟨rfl, hb⟩; apply after_call (w := w) hb; (focus ((repeat' (first | (with_reducible exact hM) | (with_reducible apply mem_alloc) | (with_reducible apply mem_set) | (with_reducible apply mem_drew) | (with_reducible apply mem_drewN))); done)); (focus ((repeat' (first | (with_reducible exact hB) | (with_reducible exact Below.refl _ _) | (with_reducible refine Below.alloc ?_ ?_ _) | (with_reducible refine Below.setCell ?_ ?_ _) | (with_reducible refine Below.drew ?_) | (with_reducible refine below_drewN ?_ _) | (with_reducible exact Nat.le_refl _) | (with_reducible exact hB.size) | (simp [go_sem]; done) | (have := hB.size; simp [go_sem]; omega))); done)); (focus ((repeat' (first | (with_reducible exact hB) | (with_reducible exact Below.refl _ _) | (with_reducible refine Below.alloc ?_ ?_ _) | (with_reducible refine Below.setCell ?_ ?_ _) | (with_reducible refine Below.drew ?_) | (with_reducible refine below_drewN ?_ _) | (with_reducible exact Nat.le_refl _) | (with_reducible exact hB.size) | (simp [go_sem]; done) | (have := hB.size; simp [go_sem]; omega))); done)); clear hM hB hb; intro hM hB; (try clear hC); have hC := mem_facts hM; simp at hC) | (go_at_call 58; refine (c2 _).mono ?_; rintro e w' ⟨rfl, hb⟩; apply after_call (w := w) hb; (focus ((repeat' (first | (with_reducible exact hM) | (with_reducible apply mem_alloc) | (with_reducible apply mem_set) | (with_reducible apply mem_drew) | (with_reducible apply mem_drewN))); done)); (focus ((repeat' (first | (with_reducible exact hB) | (with_reducible exact Below.refl _ _) | (with_reducible refine Below.alloc ?_ ?_ _) | (with_reducible refine Below.setCell ?_ ?_ _) | (with_reducible refine Below.drew ?_) | (with_reducible refine below_drewN ?_ _) | (with_reducible exact Nat.le_refl _) | (with_reducible exact hB.size) | (simp [go_sem]; done) | (have := hB.size; simp [go_sem]; omega))); done)); (focus ((repeat' (first | (with_reducible exact hB) | (with_reducible exact Below.refl _ _) | (with_reducible refine Below.alloc ?_ ?_ _) | (with_reducible refine Below.setCell ?_ ?_ _) | (with_reducible refine Below.drew ?_) | (with_reducible refine below_drewN ?_ _) | (with_reducible exact Nat.le_refl _) | (with_reducible exact hB.size) | (simp [go_sem]; done) | (have := hB.size; simp [go_sem]; omega))); done)); clear hM hB hb; intro hM hB; (try clear hC); have hC := mem_facts hM; simp at hC))
    refine bodyPost_ret (by (simp [results, Try.results27, go_sem, *]; try rfl)) rfl ?_
    exact ⟨by rw [HE.out]; rfl, by (repeat' (first | (with_reducible exact hB) | (with_reducible exact Below.refl _ _) | (with_reducible refine Below.alloc ?_ ?_ _) | (with_reducible refine Below.setCell ?_ ?_ _) | (with_reducible refine Below.drew ?_) | (with_reducible refine below_drewN ?_ _) | (with_reducible exact Nat.le_refl _) | (with_reducible exact hB.size) | (simp [go_sem]; done) | (have := hB.size; simp [go_sem]; omega)))⟩
end Go.Proofs.Ytcnhjnmnflehhaa


/- What two lattices have in common, and the sums of their pairs: plain. No condition. -/
import Derived.Test.YtkihoccfmjigiaaLaP
namespace Go.Proofs.Ytkihoccfmjigiaa
open Go.RowKit

/-- sums of a pair of one and one of the other one -/
def Jn (f g : M) (x y : Int) : Prop := ∃ x1 y1 x2 y2 : Int, Lat f x1 y1 ∧ Lat g x2 y2 ∧ x = x1 + x2 ∧ y = y1 + y2
/-- the matrix in row form with just the pairs of T, if there is one -/
noncomputable def frm (T : Int → Int → Prop) : M := open Classical in if h : ∃ r, RF r ∧ ∀ x y, Lat r x y ↔ T x y then Classical.choose h else zm
theorem frm_eq {T : Int → Int → Prop} {r : M} (h1 : RF r) (h2 : ∀ x y, Lat r x y ↔ T x y) : frm T = r := by
  have h : ∃ r, RF r ∧ ∀ x y, Lat r x y ↔ T x y := ⟨r, h1, h2⟩
  have k := Classical.choose_spec h
  unfold frm
  rw [dif_pos h]
  exact rf_unique k.1 h1 fun x y => (k.2 x y).trans (h2 x y).symm
noncomputable def jnM (f g : M) : M := frm (Jn f g)
noncomputable def mtM (f g : M) : M := frm (fun x y => Lat f x y ∧ Lat g x y)
theorem jn_lin {f g : M} {x y u v : Int} (s t : Int) (h : Jn f g x y) (k : Jn f g u v) : Jn f g (s * x + t * u) (s * y + t * v) := by
  obtain ⟨a, b, c, d, h1, h2, rfl, rfl⟩ := h
  obtain ⟨a', b', c', d', k1, k2, rfl, rfl⟩ := k
  exact ⟨_, _, _, _, lat_lin s t h1 k1, lat_lin s t h2 k2, by grind, by grind⟩
theorem jn_cast {f g : M} {x y u v : Int} (h : Jn f g x y) (h1 : x = u) (h2 : y = v) : Jn f g u v := by subst h1; subst h2; exact h
theorem lat_zero (f : M) : Lat f 0 0 := ⟨0, 0, by grind, by grind⟩
theorem jn_l {f g : M} {x y : Int} (h : Lat f x y) : Jn f g x y := ⟨x, y, 0, 0, h, lat_zero g, by grind, by grind⟩
theorem jn_r {f g : M} {x y : Int} (h : Lat g x y) : Jn f g x y := ⟨0, 0, x, y, lat_zero f, h, by grind, by grind⟩
theorem jn_of {f g r : M} (h1 : Jn f g r.a r.b) (h2 : Jn f g r.c r.d) (h3 : Lat r f.a f.b) (h4 : Lat r f.c f.d) (h5 : Lat r g.a g.b) (h6 : Lat r g.c g.d) (x y : Int) : Lat r x y ↔ Jn f g x y := by
  constructor
  · rintro ⟨s, t, rfl, rfl⟩
    exact jn_lin s t h1 h2
  · rintro ⟨a, b, c, d, k1, k2, rfl, rfl⟩
    have := lat_lin 1 1 (lat_sub h3 h4 k1) (lat_sub h5 h6 k2)
    exact lat_cast this (by grind) (by grind)
theorem bezout (a b : Nat) : ∃ u v : Int, (Nat.gcd a b : Int) = u * a + v * b := by
  induction a, b using Nat.gcd.induction with
  | H0 n => exact ⟨0, 1, by simp⟩
  | H1 m n hm ih =>
    obtain ⟨u, v, h⟩ := ih
    rw [Nat.gcd_rec]
    have e : (n : Int) = m * (n / m : Nat) + (n % m : Nat) := by
      have := Nat.div_add_mod n m
      have h2 : ((m * (n / m) + n % m : Nat) : Int) = (n : Int) := by rw [this]
      rw [← h2]; simp
    refine ⟨v - u * (n / m : Nat), u, ?_⟩
    rw [h]
    grind
theorem jn_gcd {f g : M} {x y : Nat} (h1 : Jn f g 0 x) (h2 : Jn f g 0 y) : Jn f g 0 (Nat.gcd x y : Nat) := by
  obtain ⟨u, v, e⟩ := bezout x y
  exact jn_cast (jn_lin u v h1 h2) (by grind) (by rw [e])
theorem jn_abs {f g : M} {x : Int} (h : Jn f g 0 x) : Jn f g 0 (absI x) := by
  rcases (absI_bd x).2.2.2 with e | e
  · rw [e]; exact h
  · exact jn_cast (jn_lin (-1) 0 h h) (by grind) (by rw [e]; grind)
theorem lat_mult {r : M} {x y : Int} (h : Lat r 0 x) (d : x ∣ y) : Lat r 0 y := by
  obtain ⟨k, rfl⟩ := d
  exact lat_cast (lat_lin k 0 h h) (by grind) (by grind)
theorem nat_dvd {e : Nat} {z : Int} : (e : Int) ∣ z ↔ e ∣ z.natAbs := by rw [← Int.natAbs_dvd_natAbs, Int.natAbs_natCast]
/-- what the program joins: one pair of both first rows, and the greatest divisor of what is left -/
theorem join_p {f g : M} (hf : RF f) (hg : RF g) {a b d : Int} (hc : LatE ⟨a, b, 0, d⟩ ⟨f.a, f.b, g.a, g.b⟩) {e : Nat}
    (he : e = Nat.gcd (Nat.gcd d.natAbs f.d.natAbs) g.d.natAbs) : 1 ≤ e ∧ e ≤ g.d.natAbs ∧ xd ⟨a, b, 0, e⟩ ≠ 0 ∧ nf ⟨a, b, 0, e⟩ = jnM f g := by
  obtain ⟨f1, f2, f3, f4⟩ := hf
  obtain ⟨g1, g2, g3, g4⟩ := hg
  have hd1 : e ∣ d.natAbs := by rw [he]; exact Nat.dvd_trans (Nat.gcd_dvd_left _ _) (Nat.gcd_dvd_left _ _)
  have hd2 : e ∣ f.d.natAbs := by rw [he]; exact Nat.dvd_trans (Nat.gcd_dvd_left _ _) (Nat.gcd_dvd_right _ _)
  have hd3 : e ∣ g.d.natAbs := by rw [he]; exact Nat.gcd_dvd_right _ _
  have e1 : 1 ≤ e := by
    rcases Nat.eq_zero_or_pos e with h | h
    · rw [h] at hd3; have := Nat.eq_zero_of_zero_dvd hd3; omega
    · exact h
  have e2 : e ≤ g.d.natAbs := Nat.le_of_dvd (by omega) hd3
  have r1 : Lat ⟨a, b, 0, d⟩ f.a f.b := (hc _ _).2 (lat_r1 ⟨f.a, f.b, g.a, g.b⟩)
  have r2 : Lat ⟨a, b, 0, d⟩ g.a g.b := (hc _ _).2 (lat_r2 ⟨f.a, f.b, g.a, g.b⟩)
  have ha : a ≠ 0 := by
    rintro rfl
    obtain ⟨s, t, h1, _⟩ := r1
    simp at h1
    omega
  have hx : xd ⟨a, b, 0, (e : Int)⟩ ≠ 0 := by
    simp only [xd, Int.mul_zero, Int.sub_zero]
    intro h
    rcases Int.mul_eq_zero.1 h with h | h
    · exact ha h
    · omega
  refine ⟨e1, e2, hx, ?_⟩
  obtain ⟨s1, s2, _⟩ := nf_spec hx
  refine (frm_eq s1 fun x y => (s2 x y).trans ?_).symm
  have jj : ∀ x y, Lat ⟨a, b, 0, d⟩ x y → Jn f g x y := by
    intro x y h
    obtain ⟨s, t, rfl, rfl⟩ := (hc x y).1 h
    exact jn_lin s t (jn_l (lat_r1 f)) (jn_r (lat_r1 g))
  have z1 : Lat ⟨a, b, 0, (e : Int)⟩ 0 e := lat_r2 ⟨a, b, 0, (e : Int)⟩
  have z2 : Lat ⟨a, b, 0, (e : Int)⟩ a b := lat_r1 ⟨a, b, 0, (e : Int)⟩
  have z3 : Lat ⟨a, b, 0, (e : Int)⟩ 0 d := lat_mult z1 (nat_dvd.2 hd1)
  have sub : ∀ x y, Lat ⟨a, b, 0, d⟩ x y → Lat ⟨a, b, 0, (e : Int)⟩ x y := fun x y h => lat_sub (m := ⟨a, b, 0, d⟩) z2 z3 h
  have j3 : Jn f g 0 f.d := jn_l (lat_cast (lat_r2 f) f1 rfl)
  have j4 : Jn f g 0 g.d := jn_r (lat_cast (lat_r2 g) g1 rfl)
  have j5 : Jn f g 0 (e : Int) := by
    rw [he]
    refine jn_gcd (jn_gcd ?_ ?_) ?_
    · have := jn_abs (jj 0 d (lat_r2 ⟨a, b, 0, d⟩)); rwa [absI_nat] at this
    · have := jn_abs j3; rwa [absI_nat] at this
    · have := jn_abs j4; rwa [absI_nat] at this
  exact jn_of (r := ⟨a, b, 0, (e : Int)⟩) (jj _ _ (lat_r1 ⟨a, b, 0, d⟩)) j5 (sub _ _ r1) (lat_cast (lat_mult z1 (nat_dvd.2 hd2)) f1.symm rfl) (sub _ _ r2) (lat_cast (lat_mult z1 (nat_dvd.2 hd3)) g1.symm rfl) x y
/-- what the model joins: a sum of both first rows with the least first number, and the greatest divisor of what is left -/
theorem join_s {f g : M} (hf : RF f) (hg : RF g) {a x y : Int} (ha : 1 ≤ a) (da : a ∣ f.a) (db : a ∣ g.a) (hxy : a = x * f.a + y * g.a) {e : Nat}
    (he : e = Nat.gcd (Nat.gcd f.d.natAbs g.d.natAbs) ((f.a * g.b - g.a * f.b).tdiv a).natAbs) :
    1 ≤ e ∧ e ≤ g.d.natAbs ∧ xd ⟨a, x * f.b + y * g.b, 0, e⟩ ≠ 0 ∧ nf ⟨a, x * f.b + y * g.b, 0, e⟩ = jnM f g := by
  obtain ⟨f1, f2, f3, f4⟩ := hf
  obtain ⟨g1, g2, g3, g4⟩ := hg
  obtain ⟨k, hk⟩ := da
  obtain ⟨l, hl⟩ := db
  have hq : (f.a * g.b - g.a * f.b).tdiv a = k * g.b - l * f.b := by
    have : f.a * g.b - g.a * f.b = a * (k * g.b - l * f.b) := by rw [hk, hl]; grind
    rw [this, Int.mul_tdiv_cancel_left _ (by omega)]
  rw [hq] at he
  generalize hd : k * g.b - l * f.b = d at *
  have hd1 : e ∣ f.d.natAbs := by rw [he]; exact Nat.dvd_trans (Nat.gcd_dvd_left _ _) (Nat.gcd_dvd_left _ _)
  have hd2 : e ∣ g.d.natAbs := by rw [he]; exact Nat.dvd_trans (Nat.gcd_dvd_left _ _) (Nat.gcd_dvd_right _ _)
  have hd3 : e ∣ d.natAbs := by rw [he]; exact Nat.gcd_dvd_right _ _
  have e1 : 1 ≤ e := by
    rcases Nat.eq_zero_or_pos e with h | h
    · rw [h] at hd2; have := Nat.eq_zero_of_zero_dvd hd2; omega
    · exact h
  have e2 : e ≤ g.d.natAbs := Nat.le_of_dvd (by omega) hd2
  have hx : xd ⟨a, x * f.b + y * g.b, 0, (e : Int)⟩ ≠ 0 := by
    simp only [xd, Int.mul_zero, Int.sub_zero]
    intro h
    rcases Int.mul_eq_zero.1 h with h | h
    · omega
    · omega
  refine ⟨e1, e2, hx, ?_⟩
  obtain ⟨s1, s2, _⟩ := nf_spec hx
  refine (frm_eq s1 fun u v => (s2 u v).trans ?_).symm
  have k1 : x * k + y * l = 1 := by
    have : a * (x * k + y * l) = a * 1 := by grind
    exact Int.eq_of_mul_eq_mul_left (by omega) this
  have z1 : Lat ⟨a, x * f.b + y * g.b, 0, (e : Int)⟩ 0 e := lat_r2 ⟨a, _, 0, (e : Int)⟩
  have z2 : Lat ⟨a, x * f.b + y * g.b, 0, (e : Int)⟩ a (x * f.b + y * g.b) := lat_r1 ⟨a, _, 0, (e : Int)⟩
  have z3 : Lat ⟨a, x * f.b + y * g.b, 0, (e : Int)⟩ 0 d := lat_mult z1 (nat_dvd.2 hd3)
  have j3 : Jn f g 0 f.d := jn_l (lat_cast (lat_r2 f) f1 rfl)
  have j4 : Jn f g 0 g.d := jn_r (lat_cast (lat_r2 g) g1 rfl)
  have ja : Jn f g a (x * f.b + y * g.b) := jn_cast (jn_lin x y (jn_l (lat_r1 f)) (jn_r (lat_r1 g))) hxy.symm rfl
  have jd : Jn f g 0 d := jn_cast (jn_lin (-l) k (jn_l (lat_r1 f)) (jn_r (lat_r1 g))) (by grind) (by grind)
  have j5 : Jn f g 0 (e : Int) := by
    rw [he]
    refine jn_gcd (jn_gcd ?_ ?_) ?_
    · have := jn_abs j3; rwa [absI_nat] at this
    · have := jn_abs j4; rwa [absI_nat] at this
    · have := jn_abs jd; rwa [absI_nat] at this
  refine jn_of (r := ⟨a, x * f.b + y * g.b, 0, (e : Int)⟩) ja j5 ?_ (lat_cast (lat_mult z1 (nat_dvd.2 hd1)) f1.symm rfl) ?_ (lat_cast (lat_mult z1 (nat_dvd.2 hd2)) g1.symm rfl) u v
  · exact lat_cast (lat_lin k (-y) z2 z3) (by grind) (by grind)
  · exact lat_cast (lat_lin l x z2 z3) (by grind) (by grind)
/-- the first pair that both have -/
theorem meet_of {f g : M} {d x y : Int} (hd : ∀ v, (Lat f 0 v ∧ Lat g 0 v) ↔ d ∣ v) (h1 : Lat f x y) (h2 : Lat g x y) (hx : 1 ≤ x) (hy : 0 ≤ y ∧ y < d)
    (hmin : ∀ u v, 1 ≤ u → u < x → 0 ≤ v → v < d → ¬ (Lat f u v ∧ Lat g u v)) : RF ⟨x, y, 0, d⟩ ∧ mtM f g = ⟨x, y, 0, d⟩ := by
  have hr : RF ⟨x, y, 0, d⟩ := ⟨rfl, hx, hy.1, hy.2⟩
  refine ⟨hr, frm_eq hr fun u v => ⟨?_, ?_⟩⟩
  · rintro ⟨s, t, rfl, rfl⟩
    have k := (hd d).2 (Int.dvd_refl d)
    have e1 := lat_lin s t h1 k.1
    have e2 := lat_lin s t h2 k.2
    exact ⟨e1, e2⟩
  · rintro ⟨k1, k2⟩
    have e := Int.mul_ediv_add_emod u x
    have b1 := Int.emod_nonneg u (b := x) (by omega)
    have b2 := Int.emod_lt_of_pos u (b := x) (by omega)
    generalize u / x = q at *
    generalize u % x = r at *
    have m1 : Lat f r (v - q * y) := lat_cast (lat_lin 1 (-q) k1 h1) (by grind) (by grind)
    have m2 : Lat g r (v - q * y) := lat_cast (lat_lin 1 (-q) k2 h2) (by grind) (by grind)
    by_cases hr0 : r = 0
    · subst hr0
      obtain ⟨t, ht⟩ := (hd _).1 ⟨m1, m2⟩
      exact ⟨q, t, by grind, by grind⟩
    · exfalso
      have e3 := Int.mul_ediv_add_emod (v - q * y) d
      have k := (hd (d * ((v - q * y) / d))).2 (Int.dvd_mul_right _ _)
      refine hmin r ((v - q * y) % d) (by omega) b2 (Int.emod_nonneg _ (by omega)) (Int.emod_lt_of_pos _ (by omega)) ⟨?_, ?_⟩
      · exact lat_cast (lat_lin 1 (-1) m1 k.1) (by grind) (by grind)
      · exact lat_cast (lat_lin 1 (-1) m2 k.2) (by grind) (by grind)
theorem lat_zero_iff {f : M} (hf : RF f) (v : Int) : Lat f 0 v ↔ f.d ∣ v := by
  obtain ⟨f1, f2, f3, f4⟩ := hf
  constructor
  · rintro ⟨s, t, h1, h2⟩
    rw [f1, Int.mul_zero, Int.add_zero] at h1
    rcases Int.mul_eq_zero.1 h1.symm with h | h
    · rw [h] at h2; exact ⟨t, by grind⟩
    · omega
  · rintro ⟨t, rfl⟩
    exact ⟨0, t, by grind, by grind⟩
/-- the least multiple of both last numbers -/
def lcd (f g : M) : Nat := Nat.lcm f.d.natAbs g.d.natAbs
theorem lcd_iff {f g : M} (hf : RF f) (hg : RF g) (v : Int) : (Lat f 0 v ∧ Lat g 0 v) ↔ (lcd f g : Int) ∣ v := by
  rw [lat_zero_iff hf, lat_zero_iff hg, lcd, nat_dvd, Nat.lcm_dvd_iff]
  rw [Int.natAbs_dvd_natAbs, Int.natAbs_dvd_natAbs]
theorem lcd_pos {f g : M} (hf : RF f) (hg : RF g) : 1 ≤ lcd f g ∧ lcd f g ≤ f.d.natAbs * g.d.natAbs := by
  obtain ⟨f1, f2, f3, f4⟩ := hf
  obtain ⟨g1, g2, g3, g4⟩ := hg
  exact ⟨Nat.lcm_pos (by omega) (by omega), Nat.le_of_dvd (Nat.mul_pos (by omega) (by omega)) (Nat.lcm_dvd_mul _ _)⟩
/-- there is a pair that both have -/
theorem meet_ex {f g : M} (hf : RF f) (hg : RF g) : Lat f (f.a * (f.d * g.a * g.d)) 0 ∧ Lat g (f.a * (f.d * g.a * g.d)) 0 := by
  constructor
  · exact ⟨f.d * g.a * g.d, -(f.b * g.a * g.d), by rw [hf.1]; grind, by grind⟩
  · exact ⟨f.a * f.d * g.d, -(g.b * f.a * f.d), by rw [hg.1]; grind, by grind⟩
end Go.Proofs.Ytkihoccfmjigiaa

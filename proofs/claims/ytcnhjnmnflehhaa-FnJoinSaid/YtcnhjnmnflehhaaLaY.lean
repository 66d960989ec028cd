
/- What the promises on meets and joins ask: the product of both indexes; plain. No condition. -/
import Derived.Test.YtcnhjnmnflehhaaLaX
import Derived.Test.YtcnhjnmnflehhaaLaG
namespace Go.Proofs.Ytcnhjnmnflehhaa
open Go.RowKit

theorem nf_row {a b d : Int} (ha : 0 ≤ a) (hd : 0 ≤ d) : (nf ⟨a, b, 0, d⟩).a = a ∧ (nf ⟨a, b, 0, d⟩).d = d := by
  have e1 : absI a = a := by unfold absI; rw [if_neg (by omega)]
  have e2 : absI d = d := by unfold absI; rw [if_neg (by omega)]
  exact ⟨e1, e2⟩
theorem frm_of {T : Int → Int → Prop} (h : RF (frm T)) : ∀ x y, Lat (frm T) x y ↔ T x y := by
  by_cases k : ∃ r, RF r ∧ ∀ x y, Lat r x y ↔ T x y
  · obtain ⟨r, r1, r2⟩ := k
    rw [frm_eq r1 r2]; exact r2
  · have : frm T = zm := by unfold frm; rw [dif_neg k]
    rw [this] at h
    have := h.2.1
    simp [zm] at this
/-- both numbers of rows, taken apart by their greatest divisors -/
theorem rows_apart {f g : M} (hf : RF f) (hg : RF g) : ∃ a k l x y : Int, 1 ≤ a ∧ 1 ≤ k ∧ 1 ≤ l ∧ f.a = a * k ∧ g.a = a * l ∧ x * k + y * l = 1 := by
  have h1 := hf.2
  have h2 := hg.2
  obtain ⟨x, y, h⟩ := bezout f.a.natAbs g.a.natAbs
  have e1 : ((f.a.natAbs : Nat) : Int) = f.a := by omega
  have e2 : ((g.a.natAbs : Nat) : Int) = g.a := by omega
  rw [e1, e2] at h
  have hp : 0 < Nat.gcd f.a.natAbs g.a.natAbs := Nat.gcd_pos_of_pos_left _ (by omega)
  have d1 : ((Nat.gcd f.a.natAbs g.a.natAbs : Nat) : Int) ∣ f.a := nat_dvd.2 (Nat.gcd_dvd_left _ _)
  have d2 : ((Nat.gcd f.a.natAbs g.a.natAbs : Nat) : Int) ∣ g.a := nat_dvd.2 (Nat.gcd_dvd_right _ _)
  generalize Nat.gcd f.a.natAbs g.a.natAbs = G at *
  obtain ⟨k, hk⟩ := d1
  obtain ⟨l, hl⟩ := d2
  refine ⟨G, k, l, x, y, by omega, ?_, ?_, hk, hl, ?_⟩
  · have : 0 < (G : Int) * k := by omega
    exact Int.pos_of_mul_pos_right this (by omega)
  · have : 0 < (G : Int) * l := by omega
    exact Int.pos_of_mul_pos_right this (by omega)
  · have : (G : Int) * (x * k + y * l) = (G : Int) * 1 := by grind
    exact Int.eq_of_mul_eq_mul_left (by omega) this
theorem al1 {k l x y m1 m2 : Int} (h : x * k + y * l = 1) (e : m1 * k = m2 * l) : m1 = l * (x * m2 + y * m1) ∧ m2 = k * (x * m2 + y * m1) := ⟨by grind, by grind⟩
theorem al2 {k l m r1 r2 fb fd gb gd w m1 m2 δ : Int} (h1 : w = m1 * fb + r1 * fd) (h2 : w = m2 * gb + r2 * gd) (e1 : m1 = l * m) (e2 : m2 = k * m) (hd : δ = k * gb - l * fb) : m * δ = r1 * fd - r2 * gd := by
  subst e1 e2 hd; grind
theorem al3 {E G p q m δ r1 r2 fd gd f' g' : Int} (hE : 1 ≤ E) (hp : G = E * p) (hq : δ = E * q) (hf : fd = G * f') (hg : gd = G * g') (h : m * δ = r1 * fd - r2 * gd) : m * q = p * (r1 * f' - r2 * g') := by
  have : E * (m * q) = E * (p * (r1 * f' - r2 * g')) := by subst hf hg hq hp; grind
  exact Int.eq_of_mul_eq_mul_left (by omega) this
theorem al4 {m p q z u' v : Int} (h : m * q = p * z) (hc : u' * p + v * q = 1) : m = p * (m * u' + v * z) := by grind
theorem al5 {k l p q s t δ fb fd gb gd G E : Int} (hd : δ = k * gb - l * fb) (hq : δ = E * q) (hp : G = E * p) (hst : G = s * fd + t * gd) : l * p * fb + q * s * fd = k * p * gb + -(q * t) * gd := by
  have e1 : p * (k * gb - l * fb) = q * (s * fd + t * gd) := by rw [← hd, hq, ← hst, hp]; grind
  grind
theorem al6 {u a k l m1 m fa : Int} (h1 : u = m1 * fa) (h2 : fa = a * k) (h3 : m1 = l * m) : u = a * k * l * m := by subst h2 h3; rw [h1]; grind
theorem al7 {k l m1 m2 a fa ga : Int} (ha : 1 ≤ a) (h : m1 * fa = m2 * ga) (h1 : fa = a * k) (h2 : ga = a * l) : m1 * k = m2 * l := by
  have : a * (m1 * k) = a * (m2 * l) := by subst h1 h2; grind
  exact Int.eq_of_mul_eq_mul_left (by omega) this
theorem al8 {a k l p D E G fd gd : Int} (h1 : G * D = fd * gd) (hp : G = E * p) : a * k * l * p * D * a * E = a * k * fd * (a * l) * gd := by
  have : a * k * fd * (a * l) * gd = a * k * (a * l) * (fd * gd) := by grind
  rw [this, ← h1, hp]; grind
theorem al9 {a k l p c x ga : Int} (hc : c = 0) (h : ga = a * l) : a * k * l * p = k * p * ga + x * c := by subst hc h; grind
theorem al9' {a k l p c x fa : Int} (hc : c = 0) (h : fa = a * k) : a * k * l * p = l * p * fa + x * c := by subst hc h; grind
theorem al10 {y Y z : Int} (h : z + Y = y) : 1 * y + -1 * z = Y := by omega
/-- the join, the meet, and their indexes -/
theorem meet_join {f g : M} (hf : RF f) (hg : RF g) : RF (jnM f g) ∧ (∀ x y, Lat (jnM f g) x y ↔ Jn f g x y) ∧ RF (mtM f g) ∧ (∀ x y, Lat (mtM f g) x y ↔ Lat f x y ∧ Lat g x y) ∧
    (mtM f g).a * (mtM f g).d * (jnM f g).a * (jnM f g).d = f.a * f.d * g.a * g.d ∧ (jnM f g).a ≤ f.a ∧ (jnM f g).d ≤ f.d ∧ (mtM f g).d = lcd f g := by
  obtain ⟨a, k, l, x, y, ha, hk, hl, ea, eb, hxy⟩ := rows_apart hf hg
  have hf' := hf.2
  have hg' := hg.2
  have exy : a = x * f.a + y * g.a := by rw [ea, eb]; grind
  -- the join
  obtain ⟨E, hE⟩ : ∃ E, E = Nat.gcd (Nat.gcd f.d.natAbs g.d.natAbs) ((f.a * g.b - g.a * f.b).tdiv a).natAbs := ⟨_, rfl⟩
  obtain ⟨j1, j2, j3, j4⟩ := join_s hf hg ha ⟨k, ea⟩ ⟨l, eb⟩ exy hE
  obtain ⟨s1, s2, _⟩ := nf_spec j3
  have hq : (f.a * g.b - g.a * f.b).tdiv a = k * g.b - l * f.b := by
    have : f.a * g.b - g.a * f.b = a * (k * g.b - l * f.b) := by rw [ea, eb]; grind
    rw [this, Int.mul_tdiv_cancel_left _ (by omega)]
  rw [hq] at hE
  obtain ⟨hja, hjd⟩ := nf_row (a := a) (b := x * f.b + y * g.b) (d := (E : Int)) (by omega) (by omega)
  rw [j4] at hja hjd
  have hjr : RF (jnM f g) := by rw [← j4]; exact s1
  have hδ : ∃ δ, δ = k * g.b - l * f.b := ⟨_, rfl⟩
  obtain ⟨δ, hδ⟩ := hδ
  rw [← hδ] at hE
  obtain ⟨G, hG⟩ : ∃ G, G = Nat.gcd f.d.natAbs g.d.natAbs := ⟨_, rfl⟩
  rw [← hG] at hE
  obtain ⟨s, t, hst⟩ := bezout f.d.natAbs g.d.natAbs
  obtain ⟨u', v', huv⟩ := bezout G δ.natAbs
  have n1 : ((f.d.natAbs : Nat) : Int) = f.d := by omega
  have n2 : ((g.d.natAbs : Nat) : Int) = g.d := by omega
  rw [← hG, n1, n2] at hst
  rw [← hE] at huv
  have dG1 : (G : Int) ∣ f.d := nat_dvd.2 (by rw [hG]; exact Nat.gcd_dvd_left _ _)
  have dG2 : (G : Int) ∣ g.d := nat_dvd.2 (by rw [hG]; exact Nat.gcd_dvd_right _ _)
  have dE1 : (E : Int) ∣ (G : Int) := Int.natCast_dvd_natCast.2 (by rw [hE]; exact Nat.gcd_dvd_left _ _)
  have dE2 : (E : Int) ∣ δ := nat_dvd.2 (by rw [hE]; exact Nat.gcd_dvd_right _ _)
  obtain ⟨f', hf1⟩ := dG1
  obtain ⟨g', hg1⟩ := dG2
  obtain ⟨p, hp⟩ := dE1
  obtain ⟨q, hq1⟩ := dE2
  have hGE : Nat.gcd f.d.natAbs g.d.natAbs * lcd f g = f.d.natAbs * g.d.natAbs := Nat.gcd_mul_lcm _ _
  have hGE2 : (G : Int) * (lcd f g : Nat) = f.d * g.d := by
    rw [← hG] at hGE
    have : ((G * lcd f g : Nat) : Int) = ((f.d.natAbs * g.d.natAbs : Nat) : Int) := by rw [hGE]
    rw [Int.natCast_mul, Int.natCast_mul, n1, n2] at this
    exact this
  have hGp : 1 ≤ (G : Int) := by
    have : 0 < Nat.gcd f.d.natAbs g.d.natAbs := Nat.gcd_pos_of_pos_left _ (by omega)
    omega
  have hp1 : 1 ≤ p := by
    have : 0 < (E : Int) * p := by omega
    exact Int.pos_of_mul_pos_right this (by omega)
  -- a sign for δ without its sign
  have hv : ∃ v : Int, (E : Int) = u' * G + v * δ := by
    rcases Int.natAbs_eq δ with e | e
    · exact ⟨v', by rw [e]; simpa using huv⟩
    · refine ⟨-v', ?_⟩
      have : ((δ.natAbs : Nat) : Int) = -δ := by omega
      rw [this] at huv
      grind
  obtain ⟨v, hv⟩ := hv
  have hcop : u' * p + v * q = 1 := by
    have : (E : Int) * (u' * p + v * q) = (E : Int) * 1 := by grind
    exact Int.eq_of_mul_eq_mul_left (by omega) this
  -- the meet
  have hD := lcd_pos hf hg
  have hDi := lcd_iff hf hg
  have hX : 1 ≤ a * k * l * p := Int.mul_pos (Int.mul_pos (Int.mul_pos ha hk) hl) hp1
  have l1 : Lat f (a * k * l * p) (l * p * f.b + q * s * f.d) := ⟨l * p, q * s, al9' hf.1 ea, rfl⟩
  have l2 : Lat g (a * k * l * p) (l * p * f.b + q * s * f.d) := ⟨k * p, -(q * t), al9 hg.1 eb, al5 hδ hq1 hp hst⟩
  have hY := Int.mul_ediv_add_emod (l * p * f.b + q * s * f.d) (lcd f g : Nat)
  have y1 := Int.emod_nonneg (l * p * f.b + q * s * f.d) (b := (lcd f g : Nat)) (by omega)
  have y2 := Int.emod_lt_of_pos (l * p * f.b + q * s * f.d) (b := (lcd f g : Nat)) (by omega)
  have z := (hDi ((lcd f g : Nat) * ((l * p * f.b + q * s * f.d) / (lcd f g : Nat)))).2 (Int.dvd_mul_right _ _)
  generalize (l * p * f.b + q * s * f.d) % (lcd f g : Nat) = Y at *
  have m1 : Lat f (a * k * l * p) Y := lat_cast (lat_lin 1 (-1) l1 z.1) (by omega) (al10 hY)
  have m2 : Lat g (a * k * l * p) Y := lat_cast (lat_lin 1 (-1) l2 z.2) (by omega) (al10 hY)
  have hmin : ∀ u w : Int, 1 ≤ u → u < a * k * l * p → 0 ≤ w → w < (lcd f g : Nat) → ¬ (Lat f u w ∧ Lat g u w) := by
    rintro u w h1 h2 _ _ ⟨⟨m1, r1, e1, e2⟩, ⟨m2, r2, e3, e4⟩⟩
    rw [hf.1, Int.mul_zero, Int.add_zero] at e1
    rw [hg.1, Int.mul_zero, Int.add_zero] at e3
    have e5 : m1 * k = m2 * l := al7 ha (by rw [← e1, e3]) ea eb
    have e67 := al1 hxy e5
    obtain ⟨m, hm⟩ : ∃ m, m = x * m2 + y * m1 := ⟨_, rfl⟩
    rw [← hm] at e67
    obtain ⟨e6, e7⟩ := e67
    have e8 := al2 e2 e4 e6 e7 hδ
    have e9 := al3 (by omega) hp hq1 hf1 hg1 e8
    have e10 := al4 e9 hcop
    have e11 := al6 e1 ea e6
    generalize m * u' + v * (r1 * f' - r2 * g') = n at *
    have hc : 1 ≤ a * k * l := Int.mul_pos (Int.mul_pos ha hk) hl
    have hm1 : m < p := by
      apply Int.lt_of_mul_lt_mul_left (a := a * k * l) _ (by omega)
      rw [← e11]; exact h2
    have hm0 : 0 < m := by
      have : 0 < a * k * l * m := by rw [← e11]; omega
      exact Int.pos_of_mul_pos_right this (by omega)
    have hn : 1 ≤ n := by
      have : 0 < p * n := by omega
      exact Int.pos_of_mul_pos_right this (by omega)
    have := mul_le' (show 0 ≤ p by omega) hn
    omega
  obtain ⟨w1, w2⟩ := meet_of hDi m1 m2 hX ⟨y1, y2⟩ hmin
  have hmr : RF (mtM f g) := by rw [w2]; exact w1
  refine ⟨hjr, frm_of hjr, hmr, frm_of hmr, ?_, ?_, ?_, by rw [w2]⟩
  · rw [w2, hja, hjd]
    dsimp only
    rw [ea, eb]
    exact al8 hGE2 hp
  · rw [hja, ea]
    have := mul_le' (show 0 ≤ a by omega) hk
    omega
  · rw [hjd]
    have hle : E ≤ f.d.natAbs := Nat.le_of_dvd (by omega) (Nat.dvd_trans (by rw [hE]; exact Nat.gcd_dvd_left _ _) (by rw [hG]; exact Nat.gcd_dvd_left _ _))
    omega
end Go.Proofs.Ytcnhjnmnflehhaa

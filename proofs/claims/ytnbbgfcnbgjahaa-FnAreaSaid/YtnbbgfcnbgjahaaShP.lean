
/- Pairs, their lengths, products and areas, and the way to a short base: plain. No condition. -/
import Derived.Test.YtnbbgfcnbgjahaaLaP
import Derived.Test.YtnbbgfcnbgjahaaTurnQ
namespace Go.Proofs.Ytnbbgfcnbgjahaa
open Go.RowKit

/-- two whole numbers -/
structure Pr2 where
  x : Int
  y : Int
theorem Pr2.ext' {p q : Pr2} (h1 : p.x = q.x) (h2 : p.y = q.y) : p = q := by
  cases p; cases q; cases h1; cases h2; rfl
def pI (x : Int) : Bool := decide (-10000 ≤ x) && decide (x ≤ 10000)
def pB (p : Pr2) : Bool := pI p.x && pI p.y
theorem pI_iff {x : Int} : pI x = true ↔ -10000 ≤ x ∧ x ≤ 10000 := by simp [pI]
theorem pB_iff {p : Pr2} : pB p = true ↔ (-10000 ≤ p.x ∧ p.x ≤ 10000) ∧ (-10000 ≤ p.y ∧ p.y ≤ 10000) := by
  simp only [pB, Bool.and_eq_true, pI_iff]
def dotP (p q : Pr2) : Int := p.x * q.x + p.y * q.y
def crsP (p q : Pr2) : Int := p.x * q.y - p.y * q.x
def lessP (p : Pr2) (k : Int) (q : Pr2) : Pr2 := ⟨p.x - k * q.x, p.y - k * q.y⟩
/-- both are pairs, and a base -/
def baP (p q : Pr2) : Bool := pB p && pB q && !(crsP p q == 0)
/-- a short one, of a base -/
def siP (p q : Pr2) : Bool := decide (dotP p p ≤ dotP q q) && decide (2 * absI (dotP p q) ≤ dotP p p)
/-- one step -/
def stP (p q : Pr2) : Pr2 := lessP q (near (dotP p q) (dotP p p)) p
def rdP : Nat → Pr2 → Pr2 → Pr2 × Pr2
  | 0, p, q => (p, q)
  | n + 1, p, q => if dotP (stP p q) (stP p q) < dotP p p then rdP n (stP p q) p else (p, stP p q)
/-- the short base of a base -/
def shP (p q : Pr2) : Pr2 × Pr2 := if dotP q q < dotP p p then rdP (dotP q q).toNat q p else rdP (dotP p p).toNat p q
/-- what every step keeps -/
def gP (p q : Pr2) : Prop := dotP p p ≤ 200000000 ∧ dotP q q ≤ 200000000 ∧ crsP p q ≠ 0
theorem sq_nn (x : Int) : 0 ≤ x * x := by
  rcases Int.le_total 0 x with h | h
  · exact Int.mul_nonneg h h
  · have := Int.mul_nonneg (show 0 ≤ -x by omega) (show 0 ≤ -x by omega)
    rw [Int.neg_mul_neg] at this; exact this
theorem sq_bd {x k : Int} (hk : 0 ≤ k) (h : x * x < (k + 1) * (k + 1)) : -k ≤ x ∧ x ≤ k := by
  constructor
  · apply Int.not_lt.1; intro hx
    have := Int.mul_le_mul (show k + 1 ≤ -x by omega) (show k + 1 ≤ -x by omega) (by omega) (by omega)
    rw [Int.neg_mul_neg] at this
    omega
  · apply Int.not_lt.1; intro hx
    have := Int.mul_le_mul (show k + 1 ≤ x by omega) (show k + 1 ≤ x by omega) (by omega) (by omega)
    omega
theorem len_bd {p : Pr2} (h : dotP p p ≤ 200000000) : (-14142 ≤ p.x ∧ p.x ≤ 14142) ∧ (-14142 ≤ p.y ∧ p.y ≤ 14142) := by
  have h1 := sq_nn p.x
  have h2 := sq_nn p.y
  simp only [dotP] at h
  exact ⟨sq_bd (by omega) (by omega), sq_bd (by omega) (by omega)⟩
theorem len_nn (p : Pr2) : 0 ≤ dotP p p := by
  have h1 := sq_nn p.x
  have h2 := sq_nn p.y
  simp only [dotP]; omega
theorem len_zero {p : Pr2} (h : dotP p p ≤ 0) : p.x = 0 ∧ p.y = 0 := by
  have h1 := sq_nn p.x
  have h2 := sq_nn p.y
  simp only [dotP] at h
  exact ⟨by rcases Int.mul_eq_zero.1 (show p.x * p.x = 0 by omega) with h | h <;> exact h, by rcases Int.mul_eq_zero.1 (show p.y * p.y = 0 by omega) with h | h <;> exact h⟩
theorem len_pos {p q : Pr2} (h : crsP p q ≠ 0) : 1 ≤ dotP p p := by
  apply Int.not_lt.1; intro h1
  obtain ⟨e1, e2⟩ := len_zero (p := p) (by omega)
  apply h
  simp [crsP, e1, e2]
theorem len_pos2 {p q : Pr2} (h : crsP p q ≠ 0) : 1 ≤ dotP q q := by
  apply Int.not_lt.1; intro h1
  obtain ⟨e1, e2⟩ := len_zero (p := q) (by omega)
  apply h
  simp [crsP, e1, e2]
theorem pB_len {p : Pr2} (h : pB p = true) : dotP p p ≤ 200000000 := by
  obtain ⟨h1, h2⟩ := pB_iff.1 h
  have k1 := mul_bd h1 h1
  have k2 := mul_bd h2 h2
  simp only [dotP]; omega
theorem ba_g {p q : Pr2} (h : baP p q = true) : gP p q := by
  simp only [baP, Bool.and_eq_true, Bool.not_eq_true', beq_eq_false_iff_ne] at h
  exact ⟨pB_len h.1.1, pB_len h.1.2, h.2⟩
theorem crs_swap (p q : Pr2) : crsP q p = -crsP p q := by simp only [crsP]; grind
theorem g_swap {p q : Pr2} (h : gP p q) : gP q p := ⟨h.2.1, h.1, by rw [crs_swap]; have := h.2.2; omega⟩
theorem dot_comm (p q : Pr2) : dotP p q = dotP q p := by simp only [dotP]; grind
theorem less_len (p q : Pr2) (k : Int) : dotP (lessP q k p) (lessP q k p) = dotP q q - 2 * (k * dotP p q) + k * (k * dotP p p) := by simp only [dotP, lessP]; grind
theorem less_dot (p q : Pr2) (k : Int) : dotP p (lessP q k p) = dotP p q - k * dotP p p := by simp only [dotP, lessP]; grind
theorem less_crs (p q : Pr2) (k : Int) : crsP p (lessP q k p) = crsP p q := by simp only [crsP, lessP]; grind
theorem near_min {a c : Int} (hc : 0 < c) : near a c * (near a c * c) ≤ 2 * (near a c * a) := by
  have h := (near_bd (a := a) (c := c) (by omega)).1 hc
  generalize near a c = k at *
  have e : k * (k * c) - 2 * (k * a) = k * (k * c - 2 * a) := by grind
  have hle : k * (k * c - 2 * a) ≤ 0 := by
    rcases Int.lt_trichotomy k 0 with hk | hk | hk
    · have h1 : 0 ≤ (-(k + 1)) * c := Int.mul_nonneg (by omega) (by omega)
      have e1 : (-(k + 1)) * c = -(k * c) - c := by grind
      have h2 := Int.mul_nonneg (show 0 ≤ -k by omega) (show 0 ≤ k * c - 2 * a by omega)
      rw [Int.neg_mul] at h2; omega
    · subst hk; simp
    · have h1 : 0 ≤ (k - 1) * c := Int.mul_nonneg (by omega) (by omega)
      have e1 : (k - 1) * c = k * c - c := by grind
      have h2 := Int.mul_nonneg (show 0 ≤ k by omega) (show 0 ≤ -(k * c - 2 * a) by omega)
      rw [Int.mul_neg] at h2; omega
  omega
theorem st_len {p q : Pr2} (h : crsP p q ≠ 0) : dotP (stP p q) (stP p q) ≤ dotP q q := by
  have h1 := near_min (a := dotP p q) (c := dotP p p) (by have := len_pos h; omega)
  rw [stP, less_len]; omega
theorem st_g {p q : Pr2} (h : gP p q) : gP p (stP p q) := ⟨h.1, Int.le_trans (st_len h.2.2) h.2.1, by rw [stP, less_crs]; exact h.2.2⟩
theorem st_short {p q : Pr2} (h : crsP p q ≠ 0) : 2 * absI (dotP p (stP p q)) ≤ dotP p p := by
  have hc := len_pos h
  have h1 := (near_bd (a := dotP p q) (c := dotP p p) (by omega)).1 (by omega)
  rw [stP, less_dot]
  generalize near (dotP p q) (dotP p p) * dotP p p = k at *
  unfold absI; split <;> omega
theorem near_mag {a c : Int} (ha : -1000000000 ≤ a ∧ a ≤ 1000000000) (hc : 1 ≤ c ∧ c ≤ 1000000000) : -2000000001 ≤ near a c ∧ near a c ≤ 2000000001 := by
  have h := (near_bd (a := a) (c := c) (by omega)).1 (by omega)
  generalize near a c = k at *
  constructor
  · apply Int.not_lt.1; intro hk
    have := Int.mul_nonneg (show 0 ≤ -(k + 2000000001) by omega) (show 0 ≤ c by omega)
    have e : -(k + 2000000001) * c = -(k * c) - 2000000001 * c := by grind
    omega
  · apply Int.not_lt.1; intro hk
    have := Int.mul_nonneg (show 0 ≤ k - 2000000001 by omega) (show 0 ≤ c by omega)
    have e : (k - 2000000001) * c = k * c - 2000000001 * c := by grind
    omega
theorem dot_bd {p q : Pr2} (hp : dotP p p ≤ 200000000) (hq : dotP q q ≤ 200000000) : -400000000 ≤ dotP p q ∧ dotP p q ≤ 400000000 := by
  obtain ⟨a, b⟩ := len_bd hp
  obtain ⟨c, d⟩ := len_bd hq
  have k1 := mul_bd a c
  have k2 := mul_bd b d
  simp only [dotP]; omega
theorem crs_bd {p q : Pr2} (hp : dotP p p ≤ 200000000) (hq : dotP q q ≤ 200000000) : -400000000 ≤ crsP p q ∧ crsP p q ≤ 400000000 := by
  obtain ⟨a, b⟩ := len_bd hp
  obtain ⟨c, d⟩ := len_bd hq
  have k1 := mul_bd a d
  have k2 := mul_bd b c
  simp only [crsP]; omega
/-- the short base is one, with the same area and the same lattice, and as small -/
def rowsP (p q : Pr2) : M := ⟨p.x, p.y, q.x, q.y⟩
def ShOk (p q : Pr2) (r : Pr2 × Pr2) : Prop := siP r.1 r.2 = true ∧ (crsP r.1 r.2 = crsP p q ∨ crsP r.1 r.2 = -crsP p q) ∧ LatE (rowsP p q) (rowsP r.1 r.2) ∧ gP r.1 r.2
theorem lat_st (p q : Pr2) : LatE (rowsP p q) (rowsP p (stP p q)) := by
  unfold stP
  generalize near (dotP p q) (dotP p p) = k
  apply latE_of
  · exact lat_r1 _
  · exact ⟨k, 1, by simp only [rowsP, lessP]; grind, by simp only [rowsP, lessP]; grind⟩
  · exact lat_r1 _
  · exact ⟨-k, 1, by simp only [rowsP, lessP]; grind, by simp only [rowsP, lessP]; grind⟩
theorem lat_sw (p q : Pr2) : LatE (rowsP p q) (rowsP q p) := by
  apply latE_of
  · exact lat_r2 _
  · exact lat_r1 _
  · exact lat_r2 _
  · exact lat_r1 _
theorem rdP_ok : ∀ (n : Nat) (p q : Pr2), dotP p p ≤ n → gP p q → ShOk p q (rdP n p q)
  | 0, p, q, hn, hg => absurd (len_pos hg.2.2) (by omega)
  | n + 1, p, q, hn, hg => by
    have hs := st_g hg
    unfold rdP
    by_cases h : dotP (stP p q) (stP p q) < dotP p p
    · rw [if_pos h]
      obtain ⟨k1, k2, k3, k4⟩ := rdP_ok n (stP p q) p (by omega) (g_swap hs)
      refine ⟨k1, ?_, ?_, k4⟩
      · have e : crsP p (stP p q) = crsP p q := less_crs _ _ _
        have e2 := crs_swap p (stP p q)
        omega
      · exact ((lat_st p q).trans (lat_sw _ _)).trans k3
    · rw [if_neg h]
      refine ⟨?_, .inl (less_crs _ _ _), lat_st p q, hs⟩
      simp only [siP, Bool.and_eq_true, decide_eq_true_eq]
      exact ⟨by omega, st_short hg.2.2⟩
theorem shP_ok {p q : Pr2} (hg : gP p q) : ShOk p q (shP p q) := by
  unfold shP
  split
  · obtain ⟨k1, k2, k3, k4⟩ := rdP_ok (dotP q q).toNat q p (by have := len_nn q; omega) (g_swap hg)
    exact ⟨k1, by have e2 := crs_swap p q; omega, (lat_sw _ _).trans k3, k4⟩
  · exact rdP_ok (dotP p p).toNat p q (by have := len_nn p; omega) hg
/-- the first one of a short base is as short as any but 0, 0 -/
theorem form_min {i j : Int} (h : i ≠ 0 ∨ j ≠ 0) : 1 ≤ i * i + j * j - absI i * absI j := by
  have e1 : absI i * absI i = i * i := by unfold absI; split <;> grind
  have e2 : absI j * absI j = j * j := by unfold absI; split <;> grind
  have hi := absI_bd i
  have hj := absI_bd j
  generalize absI i = a at *
  generalize absI j = b at *
  rw [← e1, ← e2]
  rcases Int.le_total a b with hab | hab
  · have h1 := Int.mul_nonneg (show 0 ≤ b by omega) (show 0 ≤ b - a by omega)
    have e : b * (b - a) = b * b - a * b := by grind
    rcases Int.lt_or_le 0 a with ha | ha
    · have := Int.mul_le_mul (show 1 ≤ a by omega) (show 1 ≤ a by omega) (by omega) (by omega)
      omega
    · have ha0 : a = 0 := by omega
      subst ha0
      have := Int.mul_le_mul (show 1 ≤ b by omega) (show 1 ≤ b by omega) (by omega) (by omega)
      omega
  · have h1 := Int.mul_nonneg (show 0 ≤ a by omega) (show 0 ≤ a - b by omega)
    have e : a * (a - b) = a * a - a * b := by grind
    rcases Int.lt_or_le 0 b with hb | hb
    · have := Int.mul_le_mul (show 1 ≤ b by omega) (show 1 ≤ b by omega) (by omega) (by omega)
      omega
    · have hb0 : b = 0 := by omega
      subst hb0
      have := Int.mul_le_mul (show 1 ≤ a by omega) (show 1 ≤ a by omega) (by omega) (by omega)
      omega
theorem si_min {p q v : Pr2} (h : siP p q = true) (hl : Lat (rowsP p q) v.x v.y) (h0 : v.x ≠ 0 ∨ v.y ≠ 0) : dotP p p ≤ dotP v v := by
  obtain ⟨i, j, e1, e2⟩ := hl
  simp only [siP, Bool.and_eq_true, decide_eq_true_eq] at h
  obtain ⟨h1, h2⟩ := h
  simp only [rowsP] at e1 e2
  have hij : i ≠ 0 ∨ j ≠ 0 := by
    rcases Decidable.em (i = 0) with hi | hi
    · rcases Decidable.em (j = 0) with hj | hj
      · subst hi; subst hj; rcases h0 with h | h
        · exact absurd (by rw [e1]; simp) h
        · exact absurd (by rw [e2]; simp) h
      · exact .inr hj
    · exact .inl hi
  have hv : dotP v v = i * i * dotP p p + 2 * (i * j * dotP p q) + j * j * dotP q q := by
    simp only [dotP, e1, e2]; grind
  have hA := len_nn p
  have hm := form_min hij
  have hB := absI_bd (dotP p q)
  have hb1 : -(absI i * absI j * absI (dotP p q)) ≤ i * j * dotP p q := by
    have hi := absI_bd i
    have hj := absI_bd j
    rcases hi.2.2.2 with a | a <;> rcases hj.2.2.2 with b | b <;> rcases hB.2.2.2 with c | c
    all_goals
      have hn := Int.mul_nonneg (Int.mul_nonneg hi.1 hj.1) hB.1
      rw [a, b, c] at hn ⊢
      first
        | (have e : i * j * dotP p q = i * j * dotP p q := rfl; grind)
  have hq : j * j * dotP p p ≤ j * j * dotP q q := Int.mul_le_mul_of_nonneg_left h1 (sq_nn j)
  have hi := absI_bd i
  have hj := absI_bd j
  have hb2 : absI i * absI j * (2 * absI (dotP p q)) ≤ absI i * absI j * dotP p p := Int.mul_le_mul_of_nonneg_left h2 (Int.mul_nonneg hi.1 hj.1)
  have hb3 : dotP p p * 1 ≤ dotP p p * (i * i + j * j - absI i * absI j) := Int.mul_le_mul_of_nonneg_left hm hA
  rw [hv]
  grind
theorem si_area {p q : Pr2} (h : siP p q = true) : 3 * (dotP p p * dotP p p) ≤ 4 * (crsP p q * crsP p q) := by
  simp only [siP, Bool.and_eq_true, decide_eq_true_eq] at h
  obtain ⟨h1, h2⟩ := h
  have e : crsP p q * crsP p q = dotP p p * dotP q q - dotP p q * dotP p q := by simp only [crsP, dotP]; grind
  have hA := len_nn p
  have hB := absI_bd (dotP p q)
  have h3 := Int.mul_le_mul_of_nonneg_left h1 hA
  have h4 := Int.mul_le_mul h2 h2 (by omega) hA
  have e2 : absI (dotP p q) * absI (dotP p q) = dotP p q * dotP p q := by unfold absI; split <;> grind
  have e3 : 2 * absI (dotP p q) * (2 * absI (dotP p q)) = 4 * (dotP p q * dotP p q) := by rw [← e2]; grind
  omega
theorem sh_least {p q v : Pr2} (hg : gP p q) (hl : Lat (rowsP p q) v.x v.y) (h0 : v.x ≠ 0 ∨ v.y ≠ 0) : dotP (shP p q).1 (shP p q).1 ≤ dotP v v := by
  obtain ⟨k1, k2, k3, k4⟩ := shP_ok hg
  exact si_min k1 ((k3 _ _).1 hl) h0
theorem sh_self {p q : Pr2} (hg : gP p q) (h : siP p q = true) : dotP (shP p q).1 (shP p q).1 = dotP p p := by
  obtain ⟨k1, k2, k3, k4⟩ := shP_ok hg
  have nz : ∀ {a b : Pr2}, crsP a b ≠ 0 → a.x ≠ 0 ∨ a.y ≠ 0 := by
    intro a b hc
    rcases Decidable.em (a.x = 0) with hx | hx
    · rcases Decidable.em (a.y = 0) with hy | hy
      · exact absurd (by simp [crsP, hx, hy]) hc
      · exact .inr hy
    · exact .inl hx
  have a1 := si_min k1 ((k3 _ _).1 (lat_r1 (rowsP p q))) (nz hg.2.2)
  have a2 := si_min h ((k3 _ _).2 (lat_r1 (rowsP (shP p q).1 (shP p q).2))) (nz k4.2.2)
  exact Int.le_antisymm a1 a2
end Go.Proofs.Ytnbbgfcnbgjahaa

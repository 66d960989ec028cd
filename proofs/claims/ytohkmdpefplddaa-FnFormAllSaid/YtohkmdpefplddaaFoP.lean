
/- Forms of two numbers, their values, discriminants and moves, and the way to the short form: plain. No condition. -/
import Derived.Test.YtohkmdpefplddaaLaP
import Derived.Test.YtohkmdpefplddaaTurnQ
namespace Go.Proofs.Ytohkmdpefplddaa
open Go.RowKit

/-- three whole numbers -/
structure F3 where
  a : Int
  b : Int
  c : Int
theorem F3.ext' {f g : F3} (h1 : f.a = g.a) (h2 : f.b = g.b) (h3 : f.c = g.c) : f = g := by
  cases f; cases g; cases h1; cases h2; cases h3; rfl
def fI (x : Int) : Bool := decide (-10000 ≤ x) && decide (x ≤ 10000)
def inF (f : F3) : Bool := fI f.a && (fI f.b && fI f.c)
theorem fI_iff {x : Int} : fI x = true ↔ -10000 ≤ x ∧ x ≤ 10000 := by simp [fI]
theorem inF_iff {f : F3} : inF f = true ↔ (-10000 ≤ f.a ∧ f.a ≤ 10000) ∧ (-10000 ≤ f.b ∧ f.b ≤ 10000) ∧ (-10000 ≤ f.c ∧ f.c ≤ 10000) := by
  simp only [inF, Bool.and_eq_true, fI_iff]
def vF (f : F3) (x y : Int) : Int := f.a * x * x + f.b * x * y + f.c * y * y
def dF (f : F3) : Int := f.b * f.b - 4 * f.a * f.c
def posB (f : F3) : Bool := decide (1 ≤ f.a) && decide (dF f < 0)
def mvF (f : F3) (m : M) : F3 := ⟨vF f m.a m.c, vF f (m.a + m.b) (m.c + m.d) - vF f m.a m.c - vF f m.b m.d, vF f m.b m.d⟩
theorem v_mv (f : F3) (m : M) (x y : Int) : vF (mvF f m) x y = vF f (m.a * x + m.b * y) (m.c * x + m.d * y) := by
  simp only [vF, mvF]; grind
theorem d_mv (f : F3) (m : M) : dF (mvF f m) = dF f * (xd m * xd m) := by
  simp only [vF, mvF, dF, xd]; grind
theorem mv_b (f : F3) (m : M) : (mvF f m).b = 2 * f.a * m.a * m.b + f.b * (m.a * m.d + m.b * m.c) + 2 * f.c * m.c * m.d := by
  simp only [vF, mvF]; grind
theorem mv_mv (f : F3) (m n : M) : mvF (mvF f m) n = mvF f (xm m n) := by
  apply F3.ext' <;> simp only [vF, mvF, xm] <;> grind
theorem mv_unit (f : F3) : mvF f unitM = f := by
  apply F3.ext' <;> simp only [vF, mvF, unitM] <;> grind

/-- int wraps a sum, a product -/
theorem wr_ex (x : Int) : ∃ q : Int, wrap64 x = x + 18446744073709551616 * q := by
  refine ⟨-((x + 9223372036854775808) / 18446744073709551616), ?_⟩
  unfold wrap64
  omega
theorem wr_add (x q : Int) : wrap64 (x + 18446744073709551616 * q) = wrap64 x := by
  unfold wrap64
  omega
theorem wr_al (x y : Int) : wrap64 (wrap64 x + y) = wrap64 (x + y) := by
  obtain ⟨q, e⟩ := wr_ex x
  rw [e, show x + 18446744073709551616 * q + y = x + y + 18446744073709551616 * q from by omega, wr_add]
theorem wr_ar (x y : Int) : wrap64 (x + wrap64 y) = wrap64 (x + y) := by
  rw [Int.add_comm, wr_al, Int.add_comm]
theorem wr_sl (x y : Int) : wrap64 (wrap64 x - y) = wrap64 (x - y) := by
  rw [Int.sub_eq_add_neg, wr_al, ← Int.sub_eq_add_neg]
theorem wr_sr (x y : Int) : wrap64 (x - wrap64 y) = wrap64 (x - y) := by
  obtain ⟨q, e⟩ := wr_ex y
  rw [e, show x - (y + 18446744073709551616 * q) = x - y + 18446744073709551616 * -q from by omega, wr_add]
theorem wr_ml (x y : Int) : wrap64 (wrap64 x * y) = wrap64 (x * y) := by
  obtain ⟨q, e⟩ := wr_ex x
  rw [e, show (x + 18446744073709551616 * q) * y = x * y + 18446744073709551616 * (q * y) from by grind, wr_add]
theorem wr_mr (x y : Int) : wrap64 (x * wrap64 y) = wrap64 (x * y) := by
  rw [Int.mul_comm, wr_ml, Int.mul_comm]
theorem wr_vF (f : F3) (x y : Int) : wrap64 (wrap64 (wrap64 (wrap64 (f.a * x) * x) + wrap64 (wrap64 (f.b * x) * y)) + wrap64 (wrap64 (f.c * y) * y)) = wrap64 (vF f x y) := by
  simp only [wr_al, wr_ar, wr_ml]; rfl
theorem wr_vF2 (f : F3) (x y : Int) : wrap64 (vF f (wrap64 x) (wrap64 y)) = wrap64 (vF f x y) := by
  obtain ⟨q, e⟩ := wr_ex x
  obtain ⟨r, e'⟩ := wr_ex y
  have h : vF f (wrap64 x) (wrap64 y) = vF f x y + 18446744073709551616 * (2 * f.a * x * q + f.a * 18446744073709551616 * q * q + f.b * (x * r + q * y + 18446744073709551616 * q * r) + 2 * f.c * y * r + f.c * 18446744073709551616 * r * r) := by
    rw [e, e']
    simp only [vF]
    generalize (18446744073709551616 : Int) = W
    grind
  rw [h, wr_add]

/-- what every positive form keeps: A is from 1 on, the discriminant negative -/
def gF (f : F3) : Prop := 1 ≤ f.a ∧ dF f < 0
theorem posB_iff {f : F3} : posB f = true ↔ gF f := by simp [posB, gF]
theorem sqF (x : Int) : 0 ≤ x * x := by
  rcases Int.le_total 0 x with h | h
  · exact Int.mul_nonneg h h
  · have := Int.mul_nonneg (show 0 ≤ -x by omega) (show 0 ≤ -x by omega)
    rw [Int.neg_mul_neg] at this; exact this
theorem g_c {f : F3} (h : gF f) : 1 ≤ f.c := by
  have h1 := sqF f.b
  have h2 := h.2
  have h3 := h.1
  simp only [dF] at h2
  apply Int.not_lt.1; intro hc
  have := Int.mul_nonneg (show 0 ≤ 4 * f.a by omega) (show 0 ≤ -f.c by omega)
  rw [Int.mul_neg] at this
  omega
def bF (f : F3) : Prop := f.a ≤ 10000 ∧ f.c ≤ 10000
theorem sq_lt {x k : Int} (hk : 0 ≤ k) (h : x * x < k * k) : -k < x ∧ x < k := by
  constructor
  · apply Int.not_le.1; intro hx
    have := Int.mul_le_mul (show k ≤ -x by omega) (show k ≤ -x by omega) (by omega) (by omega)
    rw [Int.neg_mul_neg] at this
    omega
  · apply Int.not_le.1; intro hx
    have := Int.mul_le_mul (show k ≤ x by omega) (show k ≤ x by omega) (by omega) (by omega)
    omega
theorem b_b {f : F3} (h : gF f) (hb : bF f) : -20000 < f.b ∧ f.b < 20000 := by
  have h1 := g_c h
  have h2 := h.2
  have h3 := h.1
  simp only [dF] at h2
  have h4 := Int.mul_le_mul (show f.a ≤ 10000 from hb.1) (show f.c ≤ 10000 from hb.2) (by omega) (by omega)
  rw [Int.mul_assoc] at h2
  exact sq_lt (by omega) (by omega)
/-- B is greater than -A, and at most A -/
def nrF (f : F3) : Bool := decide (-f.a < f.b) && decide (f.b ≤ f.a)
theorem nrF_iff {f : F3} : nrF f = true ↔ -f.a < f.b ∧ f.b ≤ f.a := by simp [nrF]
def shtB (f : F3) : Bool := decide (absI f.b ≤ f.a) && (decide (f.a ≤ f.c) && (decide (0 ≤ f.b) || (!(f.a == f.c) && !(absI f.b == f.a))))
theorem shtB_iff {f : F3} : shtB f = true ↔ (-f.a ≤ f.b ∧ f.b ≤ f.a) ∧ f.a ≤ f.c ∧ (0 ≤ f.b ∨ f.a ≠ f.c ∧ f.b ≠ -f.a) := by
  rw [shtB]
  have hk := absI_bd f.b
  have hk2 : absI f.b = f.a ↔ f.a = absI f.b := ⟨Eq.symm, Eq.symm⟩
  generalize absI f.b = u at *
  simp only [Bool.and_eq_true, Bool.or_eq_true, decide_eq_true_eq, Bool.not_eq_true', beq_eq_false_iff_ne, ne_eq]
  constructor
  · rintro ⟨h1, h2, h3 | ⟨h3, h4⟩⟩ <;> omega
  · rintro ⟨h1, h2, h3 | ⟨h3, h4⟩⟩ <;> omega
theorem sh_nrm {f : F3} (ha : 1 ≤ f.a) (h : shtB f = true) : nrF f = true := by
  have := shtB_iff.1 h
  rw [nrF_iff]; omega
/-- the matrix of one step, and the form behind it -/
def fstM (f : F3) : M := if nrF f then ⟨0, -1, 1, 0⟩ else ⟨1, near (-f.b) (2 * f.a), 0, 1⟩
def stF (f : F3) : F3 := mvF f (fstM f)
theorem st_turn {f : F3} (h : nrF f = true) : stF f = ⟨f.c, -f.b, f.a⟩ := by
  rw [stF, fstM, if_pos h]
  apply F3.ext' <;> simp only [vF, mvF] <;> grind
/-- the form behind a shift -/
def shfF (f : F3) : F3 := ⟨f.a, f.b + 2 * f.a * near (-f.b) (2 * f.a), vF f (near (-f.b) (2 * f.a)) 1⟩
theorem st_shift {f : F3} (h : nrF f = false) : stF f = shfF f := by
  rw [stF, fstM, if_neg (by rw [h]; exact Bool.false_ne_true), shfF]
  generalize near (-f.b) (2 * f.a) = k
  apply F3.ext' <;> simp only [vF, mvF] <;> grind
theorem st_det (f : F3) : xd (fstM f) = 1 := by
  rw [fstM]; split <;> simp [xd]
theorem d_st (f : F3) : dF (stF f) = dF f := by
  rw [stF, d_mv, st_det]; omega
theorem near_nrm {f : F3} (ha : 1 ≤ f.a) : -f.a < f.b + 2 * f.a * near (-f.b) (2 * f.a) ∧ f.b + 2 * f.a * near (-f.b) (2 * f.a) ≤ f.a := by
  have h := (near_bd (a := -f.b) (c := 2 * f.a) (by omega)).1 (by omega)
  generalize near (-f.b) (2 * f.a) = k at *
  rw [Int.mul_comm (2 * f.a) k]
  omega
theorem near_zero {f : F3} (h : nrF f = true) : near (-f.b) (2 * f.a) = 0 := by
  have hn := nrF_iff.1 h
  have h := near_nrm (f := f) (by omega)
  generalize near (-f.b) (2 * f.a) = k at *
  rcases Int.lt_trichotomy k 0 with hk | hk | hk
  · have := Int.mul_nonneg (show 0 ≤ 2 * f.a by omega) (show 0 ≤ -1 - k by omega)
    rw [Int.mul_sub] at this; omega
  · exact hk
  · have := Int.mul_nonneg (show 0 ≤ 2 * f.a by omega) (show 0 ≤ k - 1 by omega)
    rw [Int.mul_sub] at this; omega
theorem shf_nrm {f : F3} (ha : 1 ≤ f.a) : nrF (shfF f) = true := by
  rw [nrF_iff]; exact near_nrm ha
theorem shf_id {f : F3} (h : nrF f = true) : shfF f = f := by
  rw [shfF, near_zero h]
  apply F3.ext' <;> simp only [vF] <;> grind
theorem d_shf (f : F3) : dF (shfF f) = dF f := by
  rw [shfF]
  generalize near (-f.b) (2 * f.a) = k
  simp only [vF, dF]; grind
theorem g_shf {f : F3} (h : gF f) : gF (shfF f) := ⟨h.1, by rw [d_shf]; exact h.2⟩
theorem g_st {f : F3} (h : gF f) : gF (stF f) := by
  cases hn : nrF f
  · rw [st_shift hn]; exact g_shf h
  · have := d_st f
    refine ⟨?_, by rw [this]; exact h.2⟩
    rw [st_turn hn]; exact g_c h
theorem shf_c {f : F3} (h : gF f) : (shfF f).c ≤ f.c := by
  cases hn : nrF f
  · have h1 := near_nrm h.1
    have hd := d_shf f
    have h2 : shfF f = ⟨f.a, f.b + 2 * f.a * near (-f.b) (2 * f.a), (shfF f).c⟩ := rfl
    rw [h2] at hd
    generalize (shfF f).c = c' at *
    generalize f.b + 2 * f.a * near (-f.b) (2 * f.a) = b' at *
    simp only [dF] at hd
    have h3 : ¬ (-f.a < f.b ∧ f.b ≤ f.a) := fun e => by rw [nrF_iff.2 e] at hn; cases hn
    have h4 : b' * b' ≤ f.b * f.b := by
      have ha := h.1
      by_cases hb : 0 ≤ f.b
      · have := Int.mul_nonneg (show 0 ≤ f.b - b' by omega) (show 0 ≤ f.b + b' by omega)
        have e : (f.b - b') * (f.b + b') = f.b * f.b - b' * b' := by grind
        omega
      · have := Int.mul_nonneg (show 0 ≤ -f.b - b' by omega) (show 0 ≤ -f.b + b' by omega)
        have e : (-f.b - b') * (-f.b + b') = f.b * f.b - b' * b' := by grind
        omega
    have ha := h.1
    apply Int.not_lt.1; intro hc
    have h5 := Int.mul_nonneg (show 0 ≤ 4 * f.a - 4 by omega) (show 0 ≤ c' - f.c - 1 by omega)
    have e : (4 * f.a - 4) * (c' - f.c - 1) = 4 * f.a * c' - 4 * f.a * f.c - 4 * f.a - 4 * c' + 4 * f.c + 4 := by grind
    omega
  · rw [shf_id hn]; exact Int.le_refl _
theorem b_st {f : F3} (h : gF f) (hb : bF f) : bF (stF f) := by
  cases hn : nrF f
  · rw [st_shift hn]; exact ⟨hb.1, Int.le_trans (shf_c h) hb.2⟩
  · rw [st_turn hn]; exact ⟨hb.2, hb.1⟩
def msF (f : F3) : Nat := 3 * f.a.toNat + if nrF f then (if f.b < 0 then 1 else 0) else 2
theorem ms_st {f : F3} (h : gF f) (hs : shtB f = false) : msF (stF f) < msF f := by
  have ha := h.1
  have hc := g_c h
  cases hn : nrF f
  · rw [st_shift hn, msF, msF, shf_nrm ha, hn]
    rw [show (shfF f).a = f.a from rfl, if_pos rfl, if_neg Bool.false_ne_true]
    by_cases hx : (shfF f).b < 0
    · rw [if_pos hx]; omega
    · rw [if_neg hx]; omega
  · have h1 := nrF_iff.1 hn
    have h2 : ¬ ((-f.a ≤ f.b ∧ f.b ≤ f.a) ∧ f.a ≤ f.c ∧ (0 ≤ f.b ∨ f.a ≠ f.c ∧ f.b ≠ -f.a)) := fun e => by rw [shtB_iff.2 e] at hs; cases hs
    rw [st_turn hn, msF, msF, hn]
    dsimp only
    rw [if_pos rfl]
    by_cases hlt : f.c < f.a
    · have : (if nrF ⟨f.c, -f.b, f.a⟩ = true then if -f.b < 0 then 1 else 0 else 2) ≤ 2 := by
        split
        · split <;> omega
        · omega
      omega
    · have hac : f.a = f.c := by omega
      have hb : f.b < 0 := by omega
      have hn2 : nrF ⟨f.c, -f.b, f.a⟩ = true := by rw [nrF_iff]; dsimp only; omega
      rw [hn2, if_pos rfl, if_neg (by omega), if_pos hb]
      omega
/-- the way to the short form -/
def sfN : Nat → F3 → F3
  | 0, f => f
  | n + 1, f => if shtB f then f else sfN n (stF f)
def sfF (f : F3) : F3 := sfN (msF f) f
theorem sfN_short : ∀ (n : Nat) {f : F3}, shtB f = true → sfN n f = f
  | 0, _, _ => rfl
  | n + 1, f, h => by rw [sfN, if_pos h]
theorem ms_pos {f : F3} (h : gF f) : 3 ≤ msF f := by
  have := h.1
  rw [msF]; omega
theorem sfN_two : ∀ (k n : Nat) {f : F3}, gF f → msF f ≤ k → msF f ≤ n → sfN n f = sfN k f
  | 0, _, f, hg, h, _ => by have := ms_pos hg; omega
  | k + 1, 0, f, hg, _, h => by have := ms_pos hg; omega
  | k + 1, n + 1, f, hg, h1, h2 => by
    rw [sfN, sfN]
    cases hs : shtB f
    · have := ms_st hg hs
      rw [if_neg Bool.false_ne_true, if_neg Bool.false_ne_true]
      exact sfN_two k n (g_st hg) (by omega) (by omega)
    · rw [if_pos rfl, if_pos rfl]
theorem sf_short {f : F3} (h : shtB f = true) : sfF f = f := sfN_short _ h
theorem sf_st {f : F3} (hg : gF f) (hs : shtB f = false) : sfF (stF f) = sfF f := by
  have := ms_st hg hs
  have hp := ms_pos hg
  rw [sfF, sfF]
  obtain ⟨k, e⟩ : ∃ k, msF f = k + 1 := ⟨msF f - 1, by omega⟩
  rw [e, sfN, hs, if_neg Bool.false_ne_true]
  exact sfN_two k _ (g_st hg) (by omega) (by omega)
theorem not_nrm {f : F3} (hg : gF f) (h : nrF f = false) : shtB f = false := by
  cases hs : shtB f
  · rfl
  · rw [sh_nrm hg.1 hs] at h; cases h
theorem sf_shf {f : F3} (hg : gF f) : sfF (shfF f) = sfF f := by
  cases hn : nrF f
  · rw [← st_shift hn, sf_st hg (not_nrm hg hn)]
  · rw [shf_id hn]
theorem ms_shf {f : F3} (hg : gF f) : msF (shfF f) ≤ msF f := by
  cases hn : nrF f
  · rw [← st_shift hn]; exact Nat.le_of_lt (ms_st hg (not_nrm hg hn))
  · rw [shf_id hn]; exact Nat.le_refl _
theorem sfN_all : ∀ (k : Nat) {f : F3}, gF f → bF f → msF f ≤ k → shtB (sfN k f) = true ∧ gF (sfN k f) ∧ bF (sfN k f) ∧ dF (sfN k f) = dF f
  | 0, f, hg, _, h => by have := ms_pos hg; omega
  | k + 1, f, hg, hb, h => by
    rw [sfN]
    cases hs : shtB f
    · have := ms_st hg hs
      rw [if_neg Bool.false_ne_true]
      have h2 := sfN_all k (g_st hg) (b_st hg hb) (by omega)
      rw [d_st] at h2
      exact h2
    · rw [if_pos rfl]
      exact ⟨hs, hg, hb, rfl⟩
theorem sf_all {f : F3} (hg : gF f) (hb : bF f) : shtB (sfF f) = true ∧ gF (sfF f) ∧ bF (sfF f) ∧ dF (sfF f) = dF f := sfN_all _ hg hb (Nat.le_refl _)
/-- a short form of those is a form -/
theorem sht_in {f : F3} (hg : gF f) (hb : bF f) (hs : shtB f = true) : inF f = true := by
  have h1 := shtB_iff.1 hs
  have h2 := g_c hg
  have h3 := hg.1
  have h4 := hb.1
  have h5 := hb.2
  rw [inF_iff]; omega
theorem g_of_in {f : F3} (h : inF f = true) (hp : posB f = true) : gF f ∧ bF f := by
  have h1 := inF_iff.1 h
  exact ⟨posB_iff.1 hp, h1.1.2, h1.2.2.2⟩
theorem sf_in {f : F3} (h : inF f = true) (hp : posB f = true) : inF (sfF f) = true ∧ posB (sfF f) = true ∧ shtB (sfF f) = true ∧ dF (sfF f) = dF f := by
  obtain ⟨hg, hb⟩ := g_of_in h hp
  obtain ⟨k1, k2, k3, k4⟩ := sf_all hg hb
  exact ⟨sht_in k2 k3 k1, posB_iff.2 k2, k1, k4⟩
end Go.Proofs.Ytohkmdpefplddaa

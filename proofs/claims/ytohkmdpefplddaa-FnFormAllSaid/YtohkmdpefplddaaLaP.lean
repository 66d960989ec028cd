
/- Lattices of rows, matrices in row form, what makes one of a matrix: plain. No condition. -/
import Derived.Test.YtohkmdpefplddaaPlain
namespace Go.Proofs.Ytohkmdpefplddaa
open Go.RowKit

theorem iw (x : Int) : IntKind.i64.wrap x = wrap64 x := by rw [IntKind.wrap_i64, wrap64]
/-- the pair x, y is some times the first row and some times the second one, added up -/
def Lat (m : M) (x y : Int) : Prop := ∃ s t : Int, x = s * m.a + t * m.c ∧ y = s * m.b + t * m.d
def LatE (m n : M) : Prop := ∀ x y, Lat m x y ↔ Lat n x y
theorem LatE.refl (m : M) : LatE m m := fun _ _ => Iff.rfl
theorem LatE.symm {m n : M} (h : LatE m n) : LatE n m := fun x y => (h x y).symm
theorem LatE.trans {m n p : M} (h : LatE m n) (k : LatE n p) : LatE m p := fun x y => (h x y).trans (k x y)
theorem lat_lin {m : M} {x y u v : Int} (s t : Int) (h : Lat m x y) (k : Lat m u v) : Lat m (s * x + t * u) (s * y + t * v) := by
  obtain ⟨a, b, rfl, rfl⟩ := h
  obtain ⟨c, d, rfl, rfl⟩ := k
  exact ⟨s * a + t * c, s * b + t * d, by grind, by grind⟩
theorem lat_cast {m : M} {x y u v : Int} (h : Lat m x y) (h1 : x = u) (h2 : y = v) : Lat m u v := by subst h1; subst h2; exact h
theorem lat_r1 (m : M) : Lat m m.a m.b := ⟨1, 0, by grind, by grind⟩
theorem lat_r2 (m : M) : Lat m m.c m.d := ⟨0, 1, by grind, by grind⟩
theorem lat_sub {m n : M} (h1 : Lat n m.a m.b) (h2 : Lat n m.c m.d) {x y : Int} (h : Lat m x y) : Lat n x y := by
  obtain ⟨s, t, rfl, rfl⟩ := h
  exact lat_lin s t h1 h2
theorem latE_of {m n : M} (h1 : Lat n m.a m.b) (h2 : Lat n m.c m.d) (h3 : Lat m n.a n.b) (h4 : Lat m n.c n.d) : LatE m n :=
  fun _ _ => ⟨lat_sub h1 h2, lat_sub h3 h4⟩
/-- in row form -/
def RF (f : M) : Prop := f.c = 0 ∧ 1 ≤ f.a ∧ 0 ≤ f.b ∧ f.b < f.d
theorem pos_eq {x y s t : Int} (hx : 1 ≤ x) (hy : 1 ≤ y) (h1 : x = s * y) (h2 : y = t * x) : x = y := by
  have d1 : y ∣ x := ⟨s, by rw [h1, Int.mul_comm]⟩
  have d2 : x ∣ y := ⟨t, by rw [h2, Int.mul_comm]⟩
  have := Int.le_of_dvd (by omega) d1
  have := Int.le_of_dvd (by omega) d2
  omega
theorem rf_unique {f g : M} (hf : RF f) (hg : RF g) (h : LatE f g) : f = g := by
  obtain ⟨f1, f2, f3, f4⟩ := hf
  obtain ⟨g1, g2, g3, g4⟩ := hg
  obtain ⟨s, t, e1, e2⟩ := (h _ _).1 (lat_r1 f)
  obtain ⟨s', t', e3, e4⟩ := (h _ _).2 (lat_r1 g)
  obtain ⟨u, v, e5, e6⟩ := (h _ _).1 (lat_r2 f)
  obtain ⟨u', v', e7, e8⟩ := (h _ _).2 (lat_r2 g)
  rw [g1, Int.mul_zero, Int.add_zero] at e1 e5
  rw [f1, Int.mul_zero, Int.add_zero] at e3 e7
  rw [f1] at e5
  rw [g1] at e7
  have ea : f.a = g.a := pos_eq f2 g2 e1 e3
  have hu : u = 0 := by
    rcases Int.mul_eq_zero.1 e5.symm with h | h
    · exact h
    · omega
  have hu' : u' = 0 := by
    rcases Int.mul_eq_zero.1 e7.symm with h | h
    · exact h
    · omega
  subst hu hu'
  rw [Int.zero_mul, Int.zero_add] at e6 e8
  have ed : f.d = g.d := pos_eq (by omega) (by omega) e6 e8
  have hs : s = 1 := by
    rw [ea] at e1
    have : (s - 1) * g.a = 0 := by grind
    rcases Int.mul_eq_zero.1 this with h | h
    · omega
    · omega
  subst hs
  have eb : f.b = g.b := by
    have h1 : f.b - g.b = g.d * t := by grind
    have h2 : f.b % g.d = g.b % g.d := Int.emod_eq_emod_iff_emod_sub_eq_zero.2 (by rw [h1]; exact Int.mul_emod_right _ _)
    rwa [Int.emod_eq_of_lt f3 (by omega), Int.emod_eq_of_lt g3 g4] at h2
  exact M.ext' ea eb (by omega) ed
/-- whether the lattice of a matrix in row form has a pair -/
def hasB (f : M) (x y : Int) : Bool := decide (x % f.a = 0) && decide ((y - x / f.a * f.b) % f.d = 0)
theorem hasB_iff {f : M} (hf : RF f) {x y : Int} : hasB f x y = true ↔ Lat f x y := by
  obtain ⟨f1, f2, f3, f4⟩ := hf
  simp only [hasB, Bool.and_eq_true, decide_eq_true_eq]
  constructor
  · rintro ⟨h1, h2⟩
    refine ⟨x / f.a, (y - x / f.a * f.b) / f.d, ?_, ?_⟩
    · rw [f1, Int.mul_zero, Int.add_zero]; exact (Int.ediv_mul_cancel (Int.dvd_of_emod_eq_zero h1)).symm
    · rw [Int.ediv_mul_cancel (Int.dvd_of_emod_eq_zero h2)]; omega
  · rintro ⟨s, t, h1, h2⟩
    rw [f1, Int.mul_zero, Int.add_zero] at h1
    subst h1
    rw [Int.mul_emod_left, Int.mul_ediv_cancel _ (by omega)]
    refine ⟨rfl, ?_⟩
    have : y - s * f.b = f.d * t := by grind
    rw [this, Int.mul_emod_right]
/-- a row is taken off the other one -/
theorem latE_step (a b c d q : Int) : LatE ⟨c, d, a - q * c, b - q * d⟩ ⟨a, b, c, d⟩ :=
  latE_of ⟨0, 1, by grind, by grind⟩ ⟨1, -q, by grind, by grind⟩ ⟨q, 1, by grind, by grind⟩ ⟨1, 0, by grind, by grind⟩
theorem latE_neg (a b c d : Int) : LatE ⟨-a, -b, c, d⟩ ⟨a, b, c, d⟩ :=
  latE_of ⟨-1, 0, by grind, by grind⟩ ⟨0, 1, by grind, by grind⟩ ⟨-1, 0, by grind, by grind⟩ ⟨0, 1, by grind, by grind⟩
theorem latE_step' (a b c d q : Int) : LatE ⟨-c, -d, a + q * c, b + q * d⟩ ⟨a, b, c, d⟩ :=
  (latE_neg c d _ _).trans (by have := latE_step a b c d (-q); rw [Int.neg_mul, Int.neg_mul, Int.sub_neg, Int.sub_neg] at this; exact this)
def absI (x : Int) : Int := if x < 0 then -x else x
theorem absI_bd (x : Int) : 0 ≤ absI x ∧ -absI x ≤ x ∧ x ≤ absI x ∧ (absI x = x ∨ absI x = -x) := by unfold absI; split <;> omega
theorem absI_nat (x : Int) : absI x = (x.natAbs : Int) := by unfold absI; split <;> omega
theorem absI_neg (x : Int) : absI (-x) = absI x := by unfold absI; split <;> split <;> omega
theorem absI_mul (x y : Int) : absI (x * y) = absI x * absI y := by rw [absI_nat, absI_nat, absI_nat, Int.natAbs_mul]; simp
/-- the row form of a matrix with C as 0 -/
def nrm (f : M) : M := ⟨absI f.a, (if f.a < 0 then -f.b else f.b) % absI f.d, 0, absI f.d⟩
theorem nrm_spec {f : M} (h0 : f.c = 0) (ha : f.a ≠ 0) (hd : f.d ≠ 0) : RF (nrm f) ∧ LatE (nrm f) f ∧ (nrm f).a * (nrm f).d = absI (xd f) := by
  obtain ⟨a, b, c, d⟩ := f
  dsimp only at h0 ha hd
  subst h0
  have h1 := absI_bd a
  have h2 := absI_bd d
  refine ⟨⟨rfl, by simp only [nrm]; omega, ?_, ?_⟩, ?_, ?_⟩
  · exact Int.emod_nonneg _ (by show absI d ≠ 0; omega)
  · exact Int.emod_lt_of_pos _ (by show 0 < absI d; omega)
  · have e := Int.mul_ediv_add_emod (if a < 0 then -b else b) (absI d)
    simp only [nrm]
    generalize (if a < 0 then -b else b) / absI d = q at *
    have hdv : absI d = d ∨ absI d = -d := h2.2.2.2
    by_cases hn : a < 0
    · rw [if_pos hn] at *
      have e1 : absI a = -a := by unfold absI; rw [if_pos hn]
      generalize -b % absI d = r at *
      rcases hdv with e2 | e2
      · rw [e2] at e; rw [e1, e2]
        exact latE_of ⟨-1, -q, by grind, by grind⟩ ⟨0, 1, by grind, by grind⟩ ⟨-1, -q, by grind, by grind⟩ ⟨0, 1, by grind, by grind⟩
      · rw [e2] at e; rw [e1, e2]
        exact latE_of ⟨-1, q, by grind, by grind⟩ ⟨0, -1, by grind, by grind⟩ ⟨-1, -q, by grind, by grind⟩ ⟨0, -1, by grind, by grind⟩
    · rw [if_neg hn] at *
      have e1 : absI a = a := by unfold absI; rw [if_neg hn]
      generalize b % absI d = r at *
      rcases hdv with e2 | e2
      · rw [e2] at e; rw [e1, e2]
        exact latE_of ⟨1, -q, by grind, by grind⟩ ⟨0, 1, by grind, by grind⟩ ⟨1, q, by grind, by grind⟩ ⟨0, 1, by grind, by grind⟩
      · rw [e2] at e; rw [e1, e2]
        exact latE_of ⟨1, q, by grind, by grind⟩ ⟨0, -1, by grind, by grind⟩ ⟨1, q, by grind, by grind⟩ ⟨0, -1, by grind, by grind⟩
  · simp only [nrm, xd, Int.mul_zero, Int.sub_zero, absI_mul]
/-- multiples of rows are taken off until C is 0 -/
def clr : Nat → M → M
  | 0, m => m
  | n + 1, m => if m.c = 0 then m else clr n ⟨m.c, m.d, m.a - m.a.tdiv m.c * m.c, m.b - m.a.tdiv m.c * m.d⟩
theorem tmod_lt' {a c : Int} (hc : c ≠ 0) : (a - a.tdiv c * c).natAbs < c.natAbs := by
  have e := Int.mul_tdiv_add_tmod a c
  have : a - a.tdiv c * c = a.tmod c := by grind
  rw [this, Int.natAbs_tmod]
  exact Nat.mod_lt _ (by omega)
theorem xd_step (a b c d q : Int) : xd ⟨c, d, a - q * c, b - q * d⟩ = -xd ⟨a, b, c, d⟩ := by simp only [xd]; grind
theorem clr_spec : ∀ (n : Nat) (m : M), m.c.natAbs ≤ n → (clr n m).c = 0 ∧ LatE (clr n m) m ∧ absI (xd (clr n m)) = absI (xd m)
  | 0, m, h => ⟨by simp only [clr]; omega, LatE.refl _, rfl⟩
  | n + 1, ⟨a, b, c, d⟩, h => by
    dsimp only at h
    by_cases hc : c = 0
    · simp only [clr, hc, if_true]
      exact ⟨trivial, LatE.refl _, trivial⟩
    · have ht := tmod_lt' (a := a) hc
      have hi := clr_spec n ⟨c, d, a - a.tdiv c * c, b - a.tdiv c * d⟩ (by dsimp only; omega)
      simp only [clr, hc, if_false]
      refine ⟨hi.1, hi.2.1.trans (latE_step _ _ _ _ _), ?_⟩
      rw [hi.2.2, xd_step, absI_neg]
/-- the matrix in row form with the lattice of a matrix -/
def nf (m : M) : M := nrm (clr m.c.natAbs m)
theorem nf_spec {m : M} (h : xd m ≠ 0) : RF (nf m) ∧ LatE (nf m) m ∧ (nf m).a * (nf m).d = absI (xd m) := by
  obtain ⟨h1, h2, h3⟩ := clr_spec m.c.natAbs m (Nat.le_refl _)
  have hx : xd (clr m.c.natAbs m) = (clr m.c.natAbs m).a * (clr m.c.natAbs m).d := by simp only [xd, h1, Int.mul_zero, Int.sub_zero]
  have hne : xd (clr m.c.natAbs m) ≠ 0 := by
    have k1 := absI_bd (xd m)
    have k2 := absI_bd (xd (clr m.c.natAbs m))
    omega
  have ha : (clr m.c.natAbs m).a ≠ 0 := by intro e; rw [hx, e, Int.zero_mul] at hne; exact hne rfl
  have hd : (clr m.c.natAbs m).d ≠ 0 := by intro e; rw [hx, e, Int.mul_zero] at hne; exact hne rfl
  obtain ⟨k1, k2, k3⟩ := nrm_spec h1 ha hd
  exact ⟨k1, k2.trans h2, k3.trans h3⟩
theorem nf_of {m r : M} (h : xd m ≠ 0) (h1 : r.c = 0) (h2 : LatE r m) (h3 : absI (xd r) = absI (xd m)) : nrm r = nf m := by
  have hx : xd r = r.a * r.d := by simp only [xd, h1, Int.mul_zero, Int.sub_zero]
  have hne : xd r ≠ 0 := by
    have k1 := absI_bd (xd m)
    have k2 := absI_bd (xd r)
    omega
  have ha : r.a ≠ 0 := by intro e; rw [hx, e, Int.zero_mul] at hne; exact hne rfl
  have hd : r.d ≠ 0 := by intro e; rw [hx, e, Int.mul_zero] at hne; exact hne rfl
  obtain ⟨k1, k2, _⟩ := nrm_spec h1 ha hd
  obtain ⟨j1, j2, _⟩ := nf_spec h
  exact rf_unique k1 j1 ((k2.trans h2).trans j2.symm)
/-- what the way to C as 0 keeps: numbers of the first column within the matrix's bound; nothing overflows -/
def clG (m0 m : M) : Prop := LatE m m0 ∧ absI (xd m) = absI (xd m0) ∧ absI m.a ≤ 1000000 ∧ absI m.c ≤ 1000000 ∧ absI m.a * absI m.d + absI m.c * absI m.b ≤ 2000000000000 ∧ absI m.b ≤ 2000000000000 ∧ absI m.d ≤ 2000000000000
theorem absI_nonneg (x : Int) : 0 ≤ absI x := (absI_bd x).1
theorem clG_start {m : M} (h : inB m = true) : clG m m := by
  obtain ⟨h1, h2, h3, h4⟩ := inB_iff.1 h
  have k1 : absI m.a ≤ 1000000 := by unfold absI; split <;> omega
  have k2 : absI m.b ≤ 1000000 := by unfold absI; split <;> omega
  have k3 : absI m.c ≤ 1000000 := by unfold absI; split <;> omega
  have k4 : absI m.d ≤ 1000000 := by unfold absI; split <;> omega
  have n1 := absI_nonneg m.a
  have n2 := absI_nonneg m.b
  have n3 := absI_nonneg m.c
  have n4 := absI_nonneg m.d
  have p1 := mul_bd (x := absI m.a) (y := absI m.d) (a := 1000000) (b := 1000000) ⟨by omega, by omega⟩ ⟨by omega, by omega⟩
  have p2 := mul_bd (x := absI m.c) (y := absI m.b) (a := 1000000) (b := 1000000) ⟨by omega, by omega⟩ ⟨by omega, by omega⟩
  exact ⟨LatE.refl _, rfl, k1, k3, by omega, by omega, by omega⟩
theorem absI_add (x y : Int) : absI (x + y) ≤ absI x + absI y := by unfold absI; split <;> split <;> split <;> omega
theorem absI_tmod {a c : Int} (hc : c ≠ 0) : absI (a - a.tdiv c * c) = absI a - absI (a.tdiv c) * absI c ∧ absI (a - a.tdiv c * c) < absI c := by
  have h1 := tmod_lt' (a := a) hc
  constructor
  · have e := Int.mul_tdiv_add_tmod a c
    have e2 : a - a.tdiv c * c = a.tmod c := by grind
    rw [e2, absI_nat, absI_nat, absI_nat, absI_nat, Int.natAbs_tmod, Int.natAbs_tdiv]
    have := Nat.div_add_mod a.natAbs c.natAbs
    rw [show a.natAbs.div c.natAbs = a.natAbs / c.natAbs from rfl]
    have : ((a.natAbs / c.natAbs : Nat) : Int) * (c.natAbs : Int) = ((c.natAbs * (a.natAbs / c.natAbs) : Nat) : Int) := by rw [Nat.mul_comm]; simp
    rw [this]
    omega
  · rw [absI_nat, absI_nat]; omega
theorem mul_le' {x y z : Int} (hx : 0 ≤ x) (h : y ≤ z) : x * y ≤ x * z := Int.mul_le_mul_of_nonneg_left h hx
theorem clG_next {m0 : M} {a b c d : Int} (h : clG m0 ⟨a, b, c, d⟩) (hc : c ≠ 0) : clG m0 ⟨c, d, a - a.tdiv c * c, b - a.tdiv c * d⟩ ∧ absI (a.tdiv c) ≤ 1000000 := by
  obtain ⟨h1, h2, h3, h4, h5, h6, h7⟩ := h
  dsimp only at h3 h4 h5 h6 h7
  obtain ⟨t1, t2⟩ := absI_tmod (a := a) hc
  have n1 := absI_nonneg a
  have n2 := absI_nonneg b
  have n4 := absI_nonneg d
  have n5 := absI_nonneg (a.tdiv c)
  have n6 := absI_nonneg (a - a.tdiv c * c)
  have n3 : 1 ≤ absI c := by unfold absI; split <;> omega
  have hb : absI (b - a.tdiv c * d) ≤ absI b + absI (a.tdiv c) * absI d := by
    have := absI_add b (-(a.tdiv c * d))
    rw [absI_neg, absI_mul, ← Int.sub_eq_add_neg] at this
    exact this
  have nb := absI_nonneg (b - a.tdiv c * d)
  have hq : absI (a.tdiv c) ≤ 1000000 := by
    have := mul_le' n5 n3
    omega
  have hK : absI c * absI (b - a.tdiv c * d) + absI (a - a.tdiv c * c) * absI d ≤ 2000000000000 := by
    have k := mul_le' (show 0 ≤ absI c by omega) hb
    rw [t1]
    grind
  refine ⟨⟨(latE_step _ _ _ _ _).trans h1, by rw [xd_step, absI_neg]; exact h2, h4, by dsimp only; omega, hK, h7, ?_⟩, hq⟩
  dsimp only
  have k1 := mul_le' nb n3
  have k2 : 0 ≤ absI (a - a.tdiv c * c) * absI d := Int.mul_nonneg n6 n4
  rw [Int.mul_comm] at k1
  grind
theorem clG_neg {m0 : M} {a b c d : Int} (h : clG m0 ⟨a, b, c, d⟩) : clG m0 ⟨-a, -b, c, d⟩ := by
  obtain ⟨h1, h2, h3, h4, h5, h6, h7⟩ := h
  have e : xd ⟨-a, -b, c, d⟩ = -xd ⟨a, b, c, d⟩ := by simp only [xd]; grind
  refine ⟨(latE_neg _ _ _ _).trans h1, by rw [e, absI_neg]; exact h2, ?_, h4, ?_, ?_, h7⟩
  all_goals
    dsimp only at *
    simp only [absI_neg]
    assumption
end Go.Proofs.Ytohkmdpefplddaa


/- Rests, even rest matrices and points by a modulus: plain. No condition. -/
import Derived.Test.YtkallllpjkkhhaaPlain
namespace Go.Proofs.Ytkallllpjkkhhaa
open Go.RowKit

theorem i64w (x : Int) : IntKind.i64.wrap x = wrap64 x := by rw [IntKind.wrap_i64, wrap64]
/-- a sum of two products, as a region that draws tells it -/
theorem i64dot {a x b y : Int} (h1 : -144 ≤ a * x ∧ a * x ≤ 144) (h2 : -144 ≤ b * y ∧ b * y ≤ 144) : IntKind.i64.wrap (IntKind.i64.wrap (a * x) + IntKind.i64.wrap (b * y)) = a * x + b * y := by
  rw [i64w, i64w, i64w, wrap_mid (x := a * x) (by omega), wrap_mid (x := b * y) (by omega), wrap_mid (by omega)]
/-- what is a modulus; a rest; the rests of four numbers; an even rest matrix -/
def mdB (n : Int) : Bool := decide (2 ≤ n) && decide (n ≤ 12)
def rsB (n x : Int) : Bool := decide (0 ≤ x) && decide (x < n)
def rsM (n : Int) (m : M) : M := ⟨m.a % n, m.b % n, m.c % n, m.d % n⟩
def rbM (n : Int) (m : M) : Bool := rsB n m.a && rsB n m.b && rsB n m.c && rsB n m.d
def reB (n : Int) (m : M) : Bool := rbM n m && (xd m % n == 1)
def mRestOf (m : M) (n : Int) : M × Bool := if inB m && mdB n then (rsM n m, true) else (zm, false)
def mRestEven (m : M) (n : Int) : Bool := mdB n && reB n m
/-- a point; whether two points are one -/
def ptB (n x y : Int) : Bool := rsB n x && rsB n y && (Nat.gcd (Nat.gcd n.toNat x.toNat) y.toNat == 1)
def saB (n x y u v : Int) : Bool := (x * v - y * u) % n == 0

theorem mdB_iff {n : Int} : mdB n = true ↔ 2 ≤ n ∧ n ≤ 12 := by simp [mdB]
theorem mdB_nat {n : Int} (h : mdB n = true) : ∃ k : Nat, n = k ∧ 2 ≤ k ∧ k ≤ 12 := by
  obtain ⟨h1, h2⟩ := mdB_iff.1 h
  exact ⟨n.toNat, by omega, by omega, by omega⟩
theorem rsB_iff {n x : Int} : rsB n x = true ↔ 0 ≤ x ∧ x < n := by simp [rsB]
theorem rbM_iff {n : Int} {m : M} : rbM n m = true ↔ (0 ≤ m.a ∧ m.a < n) ∧ (0 ≤ m.b ∧ m.b < n) ∧ (0 ≤ m.c ∧ m.c < n) ∧ (0 ≤ m.d ∧ m.d < n) := by
  simp only [rbM, Bool.and_eq_true, rsB_iff, and_assoc]
theorem rbM_in {n : Int} {m : M} (hn : mdB n = true) (h : rbM n m = true) : inB m = true := by
  obtain ⟨h1, h2⟩ := mdB_iff.1 hn
  obtain ⟨k1, k2, k3, k4⟩ := rbM_iff.1 h
  exact inB_iff.2 ⟨by omega, by omega, by omega, by omega⟩
theorem rs_bd {n x : Int} (hn : 2 ≤ n) : 0 ≤ x % n ∧ x % n < n := ⟨Int.emod_nonneg _ (by omega), Int.emod_lt_of_pos _ (by omega)⟩
theorem rsM_rb {n : Int} (hn : mdB n = true) (m : M) : rbM n (rsM n m) = true := by
  obtain ⟨h1, h2⟩ := mdB_iff.1 hn
  exact rbM_iff.2 ⟨rs_bd h1, rs_bd h1, rs_bd h1, rs_bd h1⟩
theorem rsM_id {n : Int} {m : M} (h : rbM n m = true) : rsM n m = m := by
  obtain ⟨k1, k2, k3, k4⟩ := rbM_iff.1 h
  apply M.ext' <;> exact Int.emod_eq_of_lt (by omega) (by omega)
theorem rsM_fix {n : Int} (hn : mdB n = true) {m : M} : (rsM n m = m) ↔ rbM n m = true :=
  ⟨fun h => h ▸ rsM_rb hn m, rsM_id⟩
/-- the rest, as the program and the model make it -/
theorem rest_eq {n x : Int} (hn : 2 ≤ n) : (x.tmod n + n).tmod n = x % n ∧ -n < x.tmod n ∧ x.tmod n < n := by
  have h1 := Int.emod_nonneg x (b := n) (by omega)
  have h2 := Int.emod_lt_of_pos x (b := n) (by omega)
  have h3 : -n < x.tmod n := by
    have := Int.lt_tmod_of_pos x (b := n) (by omega); omega
  have h4 := Int.tmod_lt_of_pos x (b := n) (by omega)
  refine ⟨?_, h3, h4⟩
  rw [Int.tmod_eq_emod_of_nonneg (by omega), Int.add_emod_right]
  have e := Int.mul_tdiv_add_tmod x n
  have e2 : x.tmod n = x + n * (-(x.tdiv n)) := by rw [Int.mul_neg]; omega
  rw [e2, Int.add_mul_emod_self_left]
theorem gcd_pos3 {k : Nat} (hk : 2 ≤ k) (x y : Nat) : 1 ≤ Nat.gcd (Nat.gcd k x) y ∧ Nat.gcd k x ≤ k := by
  have h1 : 0 < Nat.gcd k x := Nat.gcd_pos_of_pos_left _ (by omega)
  exact ⟨Nat.gcd_pos_of_pos_left _ h1, Nat.gcd_le_left _ (by omega)⟩
theorem det_bd {n : Int} (hn : mdB n = true) {m : M} (h : rbM n m = true) : -1000 ≤ xd m ∧ xd m ≤ 1000 := by
  obtain ⟨h1, h2⟩ := mdB_iff.1 hn
  obtain ⟨k1, k2, k3, k4⟩ := rbM_iff.1 h
  have e1 := mul_bd (x := m.a) (y := m.d) (a := 12) (b := 12) ⟨by omega, by omega⟩ ⟨by omega, by omega⟩
  have e2 := mul_bd (x := m.b) (y := m.c) (a := 12) (b := 12) ⟨by omega, by omega⟩ ⟨by omega, by omega⟩
  simp only [xd]
  omega
end Go.Proofs.Ytkallllpjkkhhaa

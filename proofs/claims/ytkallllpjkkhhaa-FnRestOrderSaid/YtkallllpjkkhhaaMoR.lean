
/- The program's first pairs and moves of points, walked. No condition. -/
import Derived.Test.YtkallllpjkkhhaaMoF
namespace Go.Proofs.Ytkallllpjkkhhaa
open Go.RowKit

/-- what RestPoint tells -/
def mPt (n x y : Int) : (Int × Int) × Bool := if mdB n && ptB n x y then ((((fstP n.toNat x.toNat y.toNat).1 : Nat), ((fstP n.toNat x.toNat y.toNat).2 : Nat)), true) else ((0, 0), false)
theorem ptB_nat {n x y : Int} (h : ptB n x y = true) : ∃ x' y' : Nat, x = x' ∧ y = y' ∧ (x' : Int) < n ∧ (y' : Int) < n := by
  simp only [ptB, Bool.and_eq_true, rsB_iff] at h
  obtain ⟨⟨⟨h1, h2⟩, h3, h4⟩, _⟩ := h
  exact ⟨x.toNat, y.toNat, by omega, by omega, by omega, by omega⟩
/-- where a point is led -/
def ldX (m : M) (x y : Int) : Int := m.a * x + m.b * y
def ldY (m : M) (x y : Int) : Int := m.c * x + m.d * y
def ledP (k : Nat) (m : M) (x y : Nat) : Nat × Nat := fstP k (ldX m x y % k).toNat (ldY m x y % k).toNat
theorem mv_ld {k : Nat} {m : M} {x y : Nat} (hk : 2 ≤ k ∧ k ≤ 12) (h : rbM k m = true) (hx : x ≤ 12) (hy : y ≤ 12) : mv1 m x y = ldX m x y ∧ mv2 m x y = ldY m x y ∧
    -1000 ≤ ldX m x y ∧ ldX m x y ≤ 1000 ∧ -1000 ≤ ldY m x y ∧ ldY m x y ≤ 1000 := by
  obtain ⟨k1, k2, k3, k4⟩ := rbM_iff.1 h
  have e1 := mul_bd (x := m.a) (y := x) (a := 12) (b := 12) ⟨by omega, by omega⟩ ⟨by omega, by omega⟩
  have e2 := mul_bd (x := m.b) (y := y) (a := 12) (b := 12) ⟨by omega, by omega⟩ ⟨by omega, by omega⟩
  have e3 := mul_bd (x := m.c) (y := x) (a := 12) (b := 12) ⟨by omega, by omega⟩ ⟨by omega, by omega⟩
  have e4 := mul_bd (x := m.d) (y := y) (a := 12) (b := 12) ⟨by omega, by omega⟩ ⟨by omega, by omega⟩
  simp only [mv1, mv2, ldX, ldY]
  rw [wrap_mid (x := m.a * x) (by omega), wrap_mid (x := m.b * y) (by omega), wrap_mid (x := m.c * x) (by omega), wrap_mid (x := m.d * y) (by omega), wrap_mid (by omega), wrap_mid (by omega)]
  exact ⟨rfl, rfl, by omega, by omega, by omega, by omega⟩
/-- what RestMove tells -/
def mMv (m : M) (n x y : Int) : (Int × Int) × Bool := if mRestEven m n && ptB n x y then ((((ledP n.toNat m x.toNat y.toNat).1 : Nat), ((ledP n.toNat m x.toNat y.toNat).2 : Nat)), true) else ((0, 0), false)
end Go.Proofs.Ytkallllpjkkhhaa

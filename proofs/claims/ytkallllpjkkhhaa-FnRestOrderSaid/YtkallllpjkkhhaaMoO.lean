
/- Orders and counts of even rest matrices: plain. Each order by each modulus divides the count: reckoned. No condition. -/
import Derived.Test.YtkallllpjkkhhaaMoP
namespace Go.Proofs.Ytkallllpjkkhhaa
open Go.RowKit

/-- a matrix of whole numbers that are not negative -/
def nM (a b c d : Nat) : M := ⟨a, b, c, d⟩
theorem rbM_nat {k : Nat} {m : M} (h : rbM k m = true) : ∃ a b c d : Nat, m = nM a b c d ∧ a < k ∧ b < k ∧ c < k ∧ d < k := by
  obtain ⟨h1, h2, h3, h4⟩ := rbM_iff.1 h
  exact ⟨m.a.toNat, m.b.toNat, m.c.toNat, m.d.toNat, by apply M.ext' <;> simp only [nM] <;> omega, by omega, by omega, by omega, by omega⟩
/-- a power goes on by a rest matrix -/
def stp (k : Int) (m p : M) : M := rsM k (xm p m)
theorem stp_nat (k a b c d x y z t : Nat) : stp k (nM a b c d) (nM x y z t) = nM ((x * a + y * c) % k) ((x * b + y * d) % k) ((z * a + t * c) % k) ((z * b + t * d) % k) := by
  apply M.ext' <;> simp [stp, rsM, xm, nM]
/-- the exponent, counted on from n, at which a power is the unit; 0 if it is none of the next f -/
def ordN (k a b c d : Nat) : Nat → Nat → Nat → Nat → Nat → Nat → Nat
  | 0, _, _, _, _, _ => 0
  | f + 1, x, y, z, t, n => bif x == 1 && y == 0 && z == 0 && t == 1 then n else ordN k a b c d f ((x * a + y * c) % k) ((x * b + y * d) % k) ((z * a + t * c) % k) ((z * b + t * d) % k) (n + 1)
def cntT (k : Nat) : Nat := [0, 0, 6, 24, 48, 120, 144, 336, 384, 648, 720, 1320, 1152].getD k 0
def okO (k : Nat) : Bool := (List.range k).all fun a => (List.range k).all fun b => (List.range k).all fun c => (List.range k).all fun d =>
  !((a * d + k * k - b * c) % k == 1) || (fun o => Nat.blt 0 o && (cntT k % o == 0)) (ordN k a b c d 40 a b c d 1)
theorem okO2 : okO 2 = true := by decide +kernel
theorem okO3 : okO 3 = true := by decide +kernel
theorem okO4 : okO 4 = true := by decide +kernel
theorem okO5 : okO 5 = true := by decide +kernel
theorem okO6 : okO 6 = true := by decide +kernel
theorem okO7 : okO 7 = true := by decide +kernel
theorem okO8 : okO 8 = true := by decide +kernel
theorem okO9 : okO 9 = true := by decide +kernel
theorem okO10 : okO 10 = true := by decide +kernel
theorem okO11 : okO 11 = true := by decide +kernel
theorem okO12 : okO 12 = true := by decide +kernel
theorem k_cases {k : Nat} (h : 2 ≤ k ∧ k ≤ 12) : k = 2 ∨ k = 3 ∨ k = 4 ∨ k = 5 ∨ k = 6 ∨ k = 7 ∨ k = 8 ∨ k = 9 ∨ k = 10 ∨ k = 11 ∨ k = 12 := by omega
theorem okO_all {k : Nat} (h : 2 ≤ k ∧ k ≤ 12) : okO k = true := by
  rcases k_cases h with rfl | rfl | rfl | rfl | rfl | rfl | rfl | rfl | rfl | rfl | rfl
  · exact okO2
  · exact okO3
  · exact okO4
  · exact okO5
  · exact okO6
  · exact okO7
  · exact okO8
  · exact okO9
  · exact okO10
  · exact okO11
  · exact okO12
end Go.Proofs.Ytkallllpjkkhhaa

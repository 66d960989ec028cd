
/- How many pairs have a value of a positive form, walked: the program's, the model's. No condition on what is exported. -/
import Derived.Test.YtaicnkfgjpphmaaFoS
namespace Go.Proofs.Ytaicnkfgjpphmaa
open Go.RowKit

/-- how many of the first k numbers from -40 on have, with x, the value n -/
def rowc8 (f : F3) (n x : Int) : Nat → Nat
  | 0 => 0
  | k + 1 => rowc8 f n x k + if vF f x ((k : Int) - 40) = n then 1 else 0
def cnt8 (f : F3) (n : Int) : Nat → Nat
  | 0 => 0
  | k + 1 => cnt8 f n k + rowc8 f n ((k : Int) - 40) 81
def fCnt (f : F3) (n : Int) : Int × Bool := if (inF f && posB f) && (decide (0 ≤ n) && decide (n ≤ 400)) then (((cnt8 f n 81 : Nat) : Int), true) else (0, false)
theorem rowc8_le (f : F3) (n x : Int) : ∀ k, rowc8 f n x k ≤ k
  | 0 => Nat.le_refl _
  | k + 1 => by
    have := rowc8_le f n x k
    rw [rowc8]; split <;> omega
theorem cnt8_le (f : F3) (n : Int) : ∀ k, cnt8 f n k ≤ k * 81
  | 0 => Nat.le_refl _
  | k + 1 => by
    have h1 := cnt8_le f n k
    have h2 := rowc8_le f n ((k : Int) - 40) 81
    rw [cnt8]; omega
theorem fValue8_ (a b c x y : Int) (h : inF ⟨a, b, c⟩ = true) (hx : -40 ≤ x ∧ x ≤ 40) (hy : -40 ≤ y ∧ y ≤ 40) (w : World) : Calls Try.prog 64 #[.agg #[.int .i64 a, .int .i64 b, .int .i64 c], .int .i64 x, .int .i64 y] w (fun E' W' => E' = .returned (.int .i64 (vF ⟨a, b, c⟩ x y)) ∧ Below w.heap.size w W') := by
  have c1 := fValue_ a b c x y w
  have := vF_bd (a := a) (b := b) (c := c) (K := 10000) (L := 1000) (inF_iff.1 h) (x := x) (y := y) (by omega) (by omega)
  rw [wrap_mid (by omega)] at c1
  exact c1
theorem l8Value8_ (a b c x y : Int) (h : inF ⟨a, b, c⟩ = true) (hx : -40 ≤ x ∧ x ≤ 40) (hy : -40 ≤ y ∧ y ≤ 40) (w : World) : Calls Try.prog 31 #[.agg #[.int .i64 a, .int .i64 b, .int .i64 c], .int .i64 x, .int .i64 y] w (fun E' W' => E' = .returned (.int .i64 (vF ⟨a, b, c⟩ x y)) ∧ Below w.heap.size w W') := by
  have c1 := l8Value_ a b c x y w
  have := vF_bd (a := a) (b := b) (c := c) (K := 10000) (L := 1000) (inF_iff.1 h) (x := x) (y := y) (by omega) (by omega)
  rw [wrap_mid (by omega)] at c1
  exact c1
/-- at the heads of the rounds -/
def CtO (f : F3) (n : Int) (w : World) (p x : Value) (wr : World) : Prop := ∃ k : Nat, k ≤ 81 ∧ p = .int .i64 (cnt8 f n k : Nat) ∧ x = .int .i64 ((k : Int) - 40) ∧ Mem wr [(w.heap.size, #[.int .i64 f.a, .int .i64 f.b, .int .i64 f.c], 24)] ∧ Below w.heap.size w wr
def CtI (f : F3) (n : Int) (k : Nat) (w : World) (p y : Value) (wr : World) : Prop := ∃ m : Nat, m ≤ 81 ∧ p = .int .i64 (cnt8 f n k + rowc8 f n ((k : Int) - 40) m : Nat) ∧ y = .int .i64 ((m : Int) - 40) ∧ Mem wr [(w.heap.size, #[.int .i64 f.a, .int .i64 f.b, .int .i64 f.c], 24)] ∧ Below w.heap.size w wr
end Go.Proofs.Ytaicnkfgjpphmaa

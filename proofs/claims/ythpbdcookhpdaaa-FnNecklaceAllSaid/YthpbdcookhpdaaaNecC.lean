
/- The program's numbers of necklaces; walked. -/
import Derived.Test.YthpbdcookhpdaaaNecX
import Derived.Test.YthpbdcookhpdaaaNecW
import Derived.Test.YthpbdcookhpdaaaImplA
namespace Go.Proofs.Ythpbdcookhpdaaa
open Go.RowKit Go.Shelf Go.Lib

/-- all necklaces with a trace -/
def nkl (t : Nat) : List (List UInt8) := modN (wsO t (t - 1))
def trB (t : Int) : Bool := decide (3 ≤ t) && decide (t ≤ 30)
theorem trB_iff {t : Int} : trB t = true ↔ 3 ≤ t ∧ t ≤ 30 := by simp [trB]
theorem nkl_len {t : Nat} (ht : 3 ≤ t ∧ t ≤ 30) : (nkl t).length ≤ 6525 := by
  have h1 := modN_len (wsO t (t - 1))
  have h2 := wsO_len ht.2 (t - 1)
  have h3 : (t - 1) * 225 ≤ 29 * 225 := Nat.mul_le_mul_right _ (by omega)
  unfold nkl
  omega
theorem row_len {w : World} {base n : Nat} {e : TypeId} {v : Value} {xs : List Value} (h : w.ownsRow base e 1 v n xs) : ∃ ao cap, v = .slice ao n cap := row_form h
set_option maxHeartbeats 2000000 in
theorem NecklaceCount_ (t : Int) (ht : 3 ≤ t ∧ t ≤ 30) (w : World) : Calls Try.prog 8 #[.int .i64 t] w (fun E' W' => E' = .returned (.tuple #[.int .i64 ((nkl t.toNat).length : Int), .bool true]) ∧ Below w.heap.size w W') := by
  obtain ⟨n, rfl⟩ : ∃ n : Nat, t = (n : Int) := ⟨t.toNat, by omega⟩
  have hn : 3 ≤ n ∧ n ≤ 30 := by omega
  have hL := nkl_len hn
  rw [Int.toNat_natCast]
  have hM := mem_nil w; have hB := Below.refl w.heap.size w; have hC := True.intro
  go_enter Try.func8, Try.ntmps8
  go_wp2_with fail
  go_at_call 14
  refine (necklacesWith_ n hn _).mono ?_
  rintro e w1 ⟨v, rfl, hR, hb⟩
  rw [all_one hn.1] at hR
  change w1.ownsRow w.heap.size 42 1 v (nkl n).length ((nkl n).map strV) at hR
  obtain ⟨ao, cap, rfl⟩ := row_form hR
  go_wp2_with fail
  go_ret2
  exact ⟨rfl, hb⟩
set_option maxHeartbeats 2000000 in
theorem NecklaceCount_no (t : Int) (ht : ¬ (3 ≤ t ∧ t ≤ 30)) (w : World) : Calls Try.prog 8 #[.int .i64 t] w (fun E' W' => E' = .returned (.tuple #[.int .i64 0, .bool false]) ∧ Below w.heap.size w W') := by
  by_cases h1 : t < 3
  · have h2 : (3 ≤ t) = False := by simp; omega
    have hM := mem_nil w; have hB := Below.refl w.heap.size w; have hC := True.intro
    go_enter Try.func8, Try.ntmps8
    go_wp2_with fail
    go_ret2
    exact ⟨rfl, by (repeat' (first | (with_reducible exact hB) | (with_reducible exact Below.refl _ _) | (with_reducible refine Below.alloc ?_ ?_ _) | (with_reducible refine Below.setCell ?_ ?_ _) | (with_reducible refine Below.drew ?_) | (with_reducible refine below_drewN ?_ _) | (with_reducible exact Nat.le_refl _) | (with_reducible exact hB.size) | (simp [go_sem]; done) | (have := hB.size; simp [go_sem]; omega)))⟩
  · have h2 : (t ≤ 30) = False := by simp; omega
    have h3 : (30 < t) = True := by simp; omega
    have hM := mem_nil w; have hB := Below.refl w.heap.size w; have hC := True.intro
    go_enter Try.func8, Try.ntmps8
    go_wp2_with fail
    go_ret2
    exact ⟨rfl, by (repeat' (first | (with_reducible exact hB) | (with_reducible exact Below.refl _ _) | (with_reducible refine Below.alloc ?_ ?_ _) | (with_reducible refine Below.setCell ?_ ?_ _) | (with_reducible refine Below.drew ?_) | (with_reducible refine below_drewN ?_ _) | (with_reducible exact Nat.le_refl _) | (with_reducible exact hB.size) | (simp [go_sem]; done) | (have := hB.size; simp [go_sem]; omega)))⟩
end Go.Proofs.Ythpbdcookhpdaaa

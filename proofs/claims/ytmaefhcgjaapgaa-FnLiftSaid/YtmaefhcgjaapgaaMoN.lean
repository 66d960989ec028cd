
/- The program's count of even rest matrices, walked. No condition. -/
import Derived.Test.YtmaefhcgjaapgaaMoC
namespace Go.Proofs.Ytmaefhcgjaapgaa
open Go.RowKit Go.Shelf
attribute [local go_sem] Oper.semAt_some

def g2 (k : Nat) (u l : Nat × Nat) : Nat := bif reB k ⟨u.1, u.2, l.1, l.2⟩ then 1 else 0
def gN (k : Nat) (u l : Nat × Nat) : Nat := bif evN k u.1 u.2 l.1 l.2 then 1 else 0
def sum2 (k : Nat) (u : Nat × Nat) (ls : List (Nat × Nat)) : Nat := (ls.map fun l => g2 k u (cl l)).sum
def sum1 (k : Nat) (us : List (Nat × Nat)) : Nat := (us.map fun u => sum2 k (cl u) (prs k)).sum
def cntP (k : Nat) : Nat := ((prs k).map fun u => ((prs k).map fun l => gN k u l).sum).sum
theorem cntP2 : cntP 2 = cntT 2 := by decide +kernel
theorem cntP3 : cntP 3 = cntT 3 := by decide +kernel
theorem cntP4 : cntP 4 = cntT 4 := by decide +kernel
theorem cntP5 : cntP 5 = cntT 5 := by decide +kernel
theorem cntP6 : cntP 6 = cntT 6 := by decide +kernel
theorem cntP7 : cntP 7 = cntT 7 := by decide +kernel
theorem cntP8 : cntP 8 = cntT 8 := by decide +kernel
theorem cntP9 : cntP 9 = cntT 9 := by decide +kernel
theorem cntP10 : cntP 10 = cntT 10 := by decide +kernel
theorem cntP11 : cntP 11 = cntT 11 := by decide +kernel
theorem cntP12 : cntP 12 = cntT 12 := by decide +kernel
theorem cntP_eq {k : Nat} (h : 2 ≤ k ∧ k ≤ 12) : cntP k = cntT k := by
  rcases k_cases h with rfl | rfl | rfl | rfl | rfl | rfl | rfl | rfl | rfl | rfl | rfl
  · exact cntP2
  · exact cntP3
  · exact cntP4
  · exact cntP5
  · exact cntP6
  · exact cntP7
  · exact cntP8
  · exact cntP9
  · exact cntP10
  · exact cntP11
  · exact cntP12
theorem evM_even {k : Nat} {u l : Nat × Nat} (hu : u.1 < k ∧ u.2 < k) (hl : l.1 < k ∧ l.2 < k) : reB k ⟨u.1, u.2, l.1, l.2⟩ = evN k u.1 u.2 l.1 l.2 := by
  have h1 : rbM k ⟨u.1, u.2, l.1, l.2⟩ = true := rbM_iff.2 ⟨by simp; omega, by simp; omega, by simp; omega, by simp; omega⟩
  rw [evN_int hu.2 hl.1, reB, h1, Bool.true_and, xd]
theorem sum1_prs {k : Nat} (h : 2 ≤ k ∧ k ≤ 12) : sum1 k (prs k) = cntT k := by
  rw [← cntP_eq h, cntP, sum1]
  congr 1
  refine List.map_congr_left fun u hu => ?_
  have hu' := prs_mem hu
  rw [cl_id (by omega) (by omega), sum2]
  congr 1
  refine List.map_congr_left fun l hl => ?_
  have hl' := prs_mem hl
  rw [cl_id (by omega) (by omega), g2, gN, evM_even hu' hl']
theorem g2_le (k : Nat) (u l : Nat × Nat) : g2 k u l ≤ 1 := by unfold g2; cases reB k ⟨u.1, u.2, l.1, l.2⟩ <;> simp
theorem msum_le {α : Type} {f : α → Nat} {c : Nat} (h : ∀ x, f x ≤ c) : ∀ l : List α, (l.map f).sum ≤ l.length * c
  | [] => by simp
  | x :: l => by
    have h1 := msum_le h l
    have h2 := h x
    simp only [List.map_cons, List.sum_cons, List.length_cons, Nat.succ_mul]
    omega
theorem sum2_le (k : Nat) (u : Nat × Nat) (ls : List (Nat × Nat)) : sum2 k u ls ≤ ls.length := by
  have := msum_le (fun l => g2_le k u (cl l)) ls
  simpa [sum2] using this
theorem sum1_le {k : Nat} (hk : k ≤ 12) (us : List (Nat × Nat)) : sum1 k us ≤ us.length * 144 := by
  refine msum_le (fun u => ?_) us
  have := sum2_le k (cl u) (prs k)
  rw [prs_len] at this
  have h2 : k * k ≤ 12 * 12 := Nat.mul_le_mul hk hk
  omega
end Go.Proofs.Ytmaefhcgjaapgaa

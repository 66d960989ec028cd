
/- Pairs of rests, one after the other: plain; the program's iterator over them, walked. No condition. -/
import Derived.Test.YtmaefhcgjaapgaaMoA
import Derived.Test.YtmaefhcgjaapgaaIter
namespace Go.Proofs.Ytmaefhcgjaapgaa
open Go.RowKit Go.Shelf
attribute [local go_sem] Oper.semAt_some

def prs (k : Nat) : List (Nat × Nat) := (List.range (k * k)).map fun i => (i / k, i % k)
theorem prs_len (k : Nat) : (prs k).length = k * k := by simp [prs]
theorem prs_snoc {k x y : Nat} (hx : x < k) (hy : y < k) : (prs k).take (x * k + y + 1) = (prs k).take (x * k + y) ++ [(x, y)] := by
  have hb : x * k + y < k * k := by
    have := Nat.mul_le_mul_right k (show x + 1 ≤ k from hx)
    rw [Nat.succ_mul] at this
    omega
  rw [List.take_succ_eq_append_getElem (by rw [prs_len]; exact hb)]
  have e1 : (x * k + y) / k = x := by rw [Nat.add_comm, Nat.add_mul_div_right _ _ (by omega), Nat.div_eq_of_lt hy]; omega
  have e2 : (x * k + y) % k = y := by rw [Nat.add_comm, Nat.add_mul_mod_self_right, Nat.mod_eq_of_lt hy]
  simp [prs, e1, e2]
theorem prs_mem {k : Nat} {q : Nat × Nat} (h : q ∈ prs k) : q.1 < k ∧ q.2 < k := by
  simp only [prs, List.mem_map, List.mem_range] at h
  obtain ⟨i, hi, rfl⟩ := h
  have hk : 0 < k := by
    rcases Nat.eq_zero_or_pos k with e | e
    · subst e; simp at hi
    · exact e
  exact ⟨Nat.div_lt_of_lt_mul hi, Nat.mod_lt _ hk⟩
theorem prs_has {k x y : Nat} (hx : x < k) (hy : y < k) : (x, y) ∈ prs k := by
  have h := List.take_subset (x * k + y + 1) (prs k)
  rw [prs_snoc hx hy] at h
  exact h (by simp)
/-- what a round is told of a pair that it is handed: its numbers are less than 12 -/
def cl (q : Nat × Nat) : Nat × Nat := (q.1 % 12, q.2 % 12)
theorem cl_id {q : Nat × Nat} (h1 : q.1 < 12) (h2 : q.2 < 12) : cl q = q := by simp [cl, Nat.mod_eq_of_lt h1, Nat.mod_eq_of_lt h2]
theorem cl_lt (q : Nat × Nat) : (cl q).1 < 12 ∧ (cl q).2 < 12 := ⟨Nat.mod_lt _ (by decide), Nat.mod_lt _ (by decide)⟩
theorem cl_prs {k : Nat} (hk : k ≤ 12) : (prs k).map cl = prs k := by
  conv => rhs; rw [← List.map_id (prs k)]
  exact List.map_congr_left fun q hq => by
    have := prs_mem hq
    exact cl_id (by omega) (by omega)
def encP (q : Nat × Nat) : Array Value := #[.agg #[.int .i64 (cl q).1, .int .i64 (cl q).2]]

end Go.Proofs.Ytmaefhcgjaapgaa

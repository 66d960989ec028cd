
/- The model's word of a matrix, walked. -/
import Derived.Test.YtpalgnfimelioaaGreatDoorSpecX
namespace Go.Proofs.YtpalgnfimelioaaGreatDoor
open Go.RowKit

/-- at the head of a round of the model's 'WordOf' -/
def WoRel (m0 : M) (w : World) (v : Value) (wr : World) : Prop := ∃ (m : M) (t : ByteArray), v = .string t ∧ Mem wr [(w.heap.size, #[.int .i64 m.a, .int .i64 m.b, .int .i64 m.c, .int .i64 m.d], 25)] ∧ Below w.heap.size w wr ∧
  inB m = true ∧ nnM m ∧ xd m = 1 ∧ t.size ≤ 40 ∧ wl m0 = t.data.toList ++ wl m
open Classical in
/-- what is left of the matrix, read off the world -/
noncomputable def leftM (w wr : World) : Nat := if h : ∃ m : M, Mem wr [(w.heap.size, #[.int .i64 m.a, .int .i64 m.b, .int .i64 m.c, .int .i64 m.d], 25)] then P1 (Classical.choose h) + P2 (Classical.choose h) else 0
theorem leftM_eq {w wr : World} {m : M} (h : Mem wr [(w.heap.size, #[.int .i64 m.a, .int .i64 m.b, .int .i64 m.c, .int .i64 m.d], 25)]) : leftM w wr = P1 m + P2 m := by
  have hex : ∃ m : M, Mem wr [(w.heap.size, #[.int .i64 m.a, .int .i64 m.b, .int .i64 m.c, .int .i64 m.d], 25)] := ⟨m, h⟩
  unfold leftM
  rw [dif_pos hex]
  have h1 := (Classical.choose_spec hex).1 _ List.mem_cons_self
  have h2 := h.1 _ List.mem_cons_self
  rw [h1] at h2
  simp at h2
  obtain ⟨e1, e2, e3, e4⟩ := h2
  rw [M.ext' e1 e2 e3 e4]

theorem mat_neq {a b c d : Int} (h : ¬ (a = 1 ∧ b = 0 ∧ c = 0 ∧ d = 1)) (W : World) : (binOp .neq 25 (.agg #[.int .i64 a, .int .i64 b, .int .i64 c, .int .i64 d]) (.agg #[.int .i64 1, .int .i64 0, .int .i64 0, .int .i64 1])).run Tryz.prog W = .ok (.bool true) W := by
  by_cases h1 : a = 1
  · by_cases h2 : b = 0
    · by_cases h3 : c = 0
      · have h4 : ¬ d = 1 := fun h4 => h ⟨h1, h2, h3, h4⟩
        subst h1 h2 h3
        have h5 : (d == 1) = false := by simp [h4]
        go_simp
      · subst h1 h2
        have h5 : (c == 0) = false := by simp [h3]
        go_simp
    · subst h1
      have h5 : (b == 0) = false := by simp [h2]
      go_simp
  · have h5 : (a == 1) = false := by simp [h1]
    go_simp
theorem wof_no {m : M} (h : ¬ (inB m = true ∧ evB m = true ∧ nnM m)) : wof m = (⟨#[]⟩, false) := by
  cases h1 : inB m
  · simp [wof, h1]
  · cases h2 : evB m
    · simp [wof, h2]
    · cases h3 : ngB m
      · exact absurd ⟨h1, h2, ngB_iff.1 h3⟩ h
      · simp [wof, h3]
end Go.Proofs.YtpalgnfimelioaaGreatDoor

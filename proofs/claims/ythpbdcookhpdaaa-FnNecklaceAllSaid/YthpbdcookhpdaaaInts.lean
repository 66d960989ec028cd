
/- What the exact laws use besides on lists of whole numbers: two of them compared, one of them marked, and looked at again. -/
import Derived.Test.YthpbdcookhpdaaaRow
namespace Go.Proofs.Ythpbdcookhpdaaa
open Go.RowKit

/-- the slice v reads as the numbers zs -/
def ReadsI (W : World) (v : Value) (zs : List Int) : Prop := ∃ ao cap, v = .slice ao zs.length cap ∧ ∀ j (_ : j < zs.length), ∃ g, ao = some ⟨g, 0, none⟩ ∧ W.cell? ⟨g, j, none⟩ = some (.int .i64 (zs.getD j 0))
theorem IntRow.reads {base : Nat} {W : World} {v : Value} {zs : List Int} (h : IntRow base W v zs) : ReadsI W v zs := by
  have h' := h
  rcases h.2 with ⟨rfl, h0⟩ | ⟨g, cap, cur, rfl, _⟩
  · have : zs = [] := by simpa using h0
    subst this
    exact ⟨none, 0, rfl, fun j hj => absurd hj (by simp)⟩
  · refine ⟨some ⟨g, 0, none⟩, cap, by rw [List.length_map], fun j hj => ⟨g, rfl, ?_⟩⟩
    rw [h'.cellAt j (by simpa using hj)]
    simp [List.getD, hj]
theorem ReadsI.below {W W' : World} {v : Value} {zs : List Int} (h : ReadsI W v zs) (hb : Below W.heap.size W W') : ReadsI W' v zs := by
  obtain ⟨ao, cap, rfl, hc⟩ := h
  refine ⟨ao, cap, rfl, fun j hj => ?_⟩
  obtain ⟨g, e, h1⟩ := hc j hj
  exact ⟨g, e, by rw [hb.cell (World.block_lt_of_cell? W _ h1)]; exact h1⟩
theorem IntRow.below {base : Nat} {W W' : World} {v : Value} {zs : List Int} (h : IntRow base W v zs) (hb : Below W.heap.size W W') : IntRow base W' v zs := by
  refine h.kept (row := none) ⟨hb.os, hb.tape, hb.output, hb.size, fun k hk _ => hb.block k hk⟩ ?_
  cases hv : v.ownBlock
  · exact .inl rfl
  · exact .inr (by simp)
/-- the marks from 1 on -/
def upI (n : Nat) : List Int := (List.range n).map (fun (j : Nat) => (j : Int) + 1)
theorem upI_len (n : Nat) : (upI n).length = n := by simp [upI]
theorem upI_get {n j : Nat} (h : j < n) : (upI n).getD j 0 = (j : Int) + 1 := by simp [upI, List.getD, h]
theorem upI_succ (n : Nat) : upI (n + 1) = upI n ++ [(n : Int) + 1] := by simp [upI, List.range_succ]
theorem mark_step {zs : List Int} {k : Nat} (h : k < zs.length) : ((upI k ++ zs.drop k).map (Value.int .i64)).set k (Value.int .i64 ((k : Int) + 1)) = (upI (k + 1) ++ zs.drop (k + 1)).map (Value.int .i64) := by
  rw [List.drop_eq_getElem_cons h, upI_succ, List.map_append, List.set_append_right _ _ (by simp [upI_len])]
  simp [upI_len]
  rw [List.drop_eq_getElem_cons (by simpa using h)]
  rfl
def MarkPost (base : Nat) (v : Value) (n : Nat) (w : World) (e : Ending) (W' : World) : Prop := e = .returned (.int .i64 ((n : Int) + 1)) ∧ IntRow base W' v (upI n) ∧ w.grownBy W' v.ownBlock
end Go.Proofs.Ythpbdcookhpdaaa

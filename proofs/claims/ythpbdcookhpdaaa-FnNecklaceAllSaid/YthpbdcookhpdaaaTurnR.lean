
/- Slices that read as whole numbers, wherever they begin; what holds of all of a list. No condition. -/
import Derived.Test.YthpbdcookhpdaaaTurnP
namespace Go.Proofs.Ythpbdcookhpdaaa
open Go.RowKit

/-- the slice v reads as the numbers zs, wherever it begins -/
def RdO (W : World) (v : Value) (zs : List Int) : Prop := ∃ ao cap, v = .slice ao zs.length cap ∧ zs.length ≤ cap ∧ ∀ j (_ : j < zs.length), ∃ g o, ao = some ⟨g, o, none⟩ ∧ W.cell? ⟨g, o + j, none⟩ = some (.int .i64 (zs.getD j 0))
theorem RdO.below {W W' : World} {v : Value} {zs : List Int} (h : RdO W v zs) (hb : Below W.heap.size W W') : RdO W' v zs := by
  obtain ⟨ao, cap, rfl, hc0, hc⟩ := h
  refine ⟨ao, cap, rfl, hc0, fun j hj => ?_⟩
  obtain ⟨g, o, e, h1⟩ := hc j hj
  exact ⟨g, o, e, by rw [hb.cell (World.block_lt_of_cell? W _ h1)]; exact h1⟩
theorem all_get_int {zs : List Int} {p : Int → Bool} (h : zs.all p = true) {k : Nat} (hk : k < zs.length) : p (zs.getD k 0) = true := by
  rw [List.all_eq_true] at h
  have : zs.getD k 0 = zs[k] := by simp [List.getD, hk]
  rw [this]
  exact h _ (List.getElem_mem hk)
theorem all_take_succ {zs : List Int} {p : Int → Bool} {k : Nat} (hk : k < zs.length) : (zs.take (k + 1)).all p = ((zs.take k).all p && p (zs.getD k 0)) := by
  rw [List.take_succ_eq_append_getElem hk, List.all_append]
  simp [List.getD, hk]
theorem all_false_of {zs : List Int} {p : Int → Bool} {k : Nat} (hk : k < zs.length) (h : p (zs.getD k 0) = false) : zs.all p = false := by
  cases hh : zs.all p
  · rfl
  · have := all_get_int hh hk
    rw [h] at this; cases this
end Go.Proofs.Ythpbdcookhpdaaa

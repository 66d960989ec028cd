
/- The model's words of fractions and of matrices, walked. -/
import Derived.Test.YtpalgnfimelioaaGreatDoorSpecW
namespace Go.Proofs.YtpalgnfimelioaaGreatDoor
open Go.RowKit

theorem toList_app (t : ByteArray) (c : UInt8) : (t ++ ⟨#[c]⟩).data.toList = t.data.toList ++ [c] := by simp [ByteArray.data_append]
theorem fwd_yes {p q : Nat} {t : ByteArray} (h : lets p q = t.data.toList) (h40 : t.size ≤ 40) : fwd p q = (t, true) := by
  have hl : (lets p q).length ≤ 40 := by rw [h]; simpa using h40
  rw [fwd, if_pos hl, h, txt_of]
theorem fwd_no {p q : Nat} {t : ByteArray} {l : List UInt8} (h : lets p q = t.data.toList ++ l) (h40 : t.size = 40) (hl : l ≠ []) : fwd p q = (⟨#[]⟩, false) := by
  have h1 : 0 < l.length := List.length_pos_iff.2 hl
  have h2 : t.data.toList.length = 40 := by simpa using h40
  have hn : ¬ (lets p q).length ≤ 40 := by rw [h, List.length_append]; omega
  rw [fwd, if_neg hn]

theorem l6B_frac {p : Int} : l6B p 1 1000000 = true ↔ 1 ≤ p ∧ p ≤ 1000000 := by simp [l6B]
end Go.Proofs.YtpalgnfimelioaaGreatDoor

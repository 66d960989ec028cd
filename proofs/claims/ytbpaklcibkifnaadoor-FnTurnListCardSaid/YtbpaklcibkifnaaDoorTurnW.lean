
/- Lists that come round: plain. No condition. -/
import Derived.Test.YtbpaklcibkifnaaDoorTurnP
namespace Go.Proofs.YtbpaklcibkifnaaDoor
open Go.RowKit

/-- the first i numbers taken from the beginning to the end -/
def rot (l : List Int) (i : Nat) : List Int := l.drop i ++ l.take i
theorem rot_len (l : List Int) {i : Nat} (h : i ≤ l.length) : (rot l i).length = l.length := by simp [rot]; omega
theorem rot_zero (l : List Int) : rot l 0 = l := by simp [rot]
theorem rot_ls (l : List Int) {i : Nat} (h : i ≤ l.length) : lsB (rot l i) = lsB l := by
  have e : (rot l i).all thB = l.all thB := by
    rw [rot, List.all_append, Bool.and_comm, ← List.all_append, List.take_append_drop]
  rw [lsB, lsB, rot_len l h, e]
theorem rot_get (l : List Int) {i j : Nat} (h : i < l.length) (hj : j < l.length) : (l ++ l).getD (i + j) 0 = (rot l i).getD j 0 := by
  unfold rot
  simp only [List.getD]
  by_cases h1 : i + j < l.length
  · rw [List.getElem?_append_left h1, List.getElem?_append_left (by rw [List.length_drop]; omega), List.getElem?_drop]
  · rw [List.getElem?_append_right (by omega), List.getElem?_append_right (by rw [List.length_drop]; omega), List.length_drop, List.getElem?_take, if_pos (by omega)]
    congr 2
    omega
/-- the trace of the list's matrix with a turn behind -/
def rtr (zs : List Int) : Int := tr (tm (lmat zs).1 tu)
/-- what is asked of the list that comes by taking i numbers -/
def gdB (zs : List Int) (i : Nat) : Bool := (lmat (rot zs i)).2 && (rtr (rot zs i) == rtr zs)
/-- all of them have one trace -/
def rnB (zs : List Int) : Bool := lsB zs && (lmat zs).2 && decide (∀ i, i < zs.length → gdB zs i = true)
theorem rnB_no1 {zs : List Int} (h : lsB zs = false) : rnB zs = false := by simp [rnB, h]
theorem rnB_no2 {zs : List Int} (h : (lmat zs).2 = false) : rnB zs = false := by simp [rnB, h]
theorem rnB_no3 {zs : List Int} {i : Nat} (h : i < zs.length) (hg : gdB zs i = false) : rnB zs = false := by
  cases hr : rnB zs
  · rfl
  · simp only [rnB, Bool.and_eq_true, decide_eq_true_eq] at hr
    have := hr.2 i h
    rw [hg] at this; cases this
theorem rnB_yes {zs : List Int} (h1 : lsB zs = true) (h2 : (lmat zs).2 = true) (h : ∀ i, i < zs.length → gdB zs i = true) : rnB zs = true := by
  simp only [rnB, h1, h2, Bool.and_self, Bool.true_and, decide_eq_true_eq]
  exact h
end Go.Proofs.YtbpaklcibkifnaaDoor

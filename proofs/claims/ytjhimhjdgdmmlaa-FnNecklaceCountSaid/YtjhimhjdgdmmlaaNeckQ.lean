
/- The program's necklaces, walked: a word of both letters, what is a necklace, the necklace of a word. Under the bound of Go's strings. -/
import Derived.Test.YtjhimhjdgdmmlaaNeckP
import Derived.Test.YtjhimhjdgdmmlaaImplW
namespace Go.Proofs.Ytjhimhjdgdmmlaa
open Go.RowKit Go.Shelf
attribute [local go_sem] Oper.semAt_some

theorem indexB (l : List UInt8) (c : UInt8) : decide (0 ≤ Lib.indexByte l c) = l.contains c := by
  induction l with
  | nil => rfl
  | cons b l ih =>
    unfold Lib.indexByte
    have hge := Lib.indexByte_ge l c
    by_cases h : b = c
    · subst h; simp
    · have h1 : (b == c) = false := by simpa using h
      have h2 : (c == b) = false := by simpa using fun e => h e.symm
      rw [List.contains_cons, h2, Bool.false_or, ← ih, h1]
      by_cases e : Lib.indexByte l c = -1
      · simp [e]
      · have e1 : (Lib.indexByte l c == -1) = false := by simpa using e
        have e2 : 0 ≤ Lib.indexByte l c := by omega
        simp [e1, e2]; omega
theorem mxB_size {s : ByteArray} (h : mxB s.data.toList = true) : s.size ≤ 40 := by
  simp only [mxB, Bool.and_eq_true, decide_eq_true_eq] at h
  have := h.1.1.2
  simpa using this
/-- what 'NecklaceIn' and 'NecklaceOf' return -/
def nin (l : List UInt8) : Bool := mxB l && (l == nk l)
def nof (l : List UInt8) : ByteArray × Bool := if mxB l then (txt (nk l), true) else (⟨#[]⟩, false)
theorem txt_inj {x y : List UInt8} : txt x = txt y ↔ x = y := ⟨fun h => by rw [← txt_list x, h, txt_list], fun h => by rw [h]⟩
end Go.Proofs.Ytjhimhjdgdmmlaa

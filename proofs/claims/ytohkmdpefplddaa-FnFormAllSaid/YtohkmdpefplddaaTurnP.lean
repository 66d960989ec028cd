
/- Lists of shifts and turns: plain. What a step makes of a matrix, the matrix of a list, where one on the way is none. No condition. -/
import Derived.Test.YtohkmdpefplddaaPlain
namespace Go.Proofs.Ytohkmdpefplddaa
open Go.RowKit

/-- the turn, the shift by x -/
def tu : M := ⟨0, -1, 1, 0⟩
def sh (x : Int) : M := ⟨1, x, 0, 1⟩
/-- a matrix times the turn and the shift by x, exact -/
def stp (m : M) (x : Int) : M := ⟨m.b, m.b * x - m.a, m.d, m.d * x - m.c⟩
def thB (x : Int) : Bool := decide (-1000 ≤ x) && decide (x ≤ 1000)
theorem thB_iff {x : Int} : thB x = true ↔ -1000 ≤ x ∧ x ≤ 1000 := by simp [thB]
/-- a list -/
def lsB (l : List Int) : Bool := decide (1 ≤ l.length) && decide (l.length ≤ 20) && l.all thB
theorem lsB_iff {l : List Int} : lsB l = true ↔ (1 ≤ l.length ∧ l.length ≤ 20) ∧ ∀ x ∈ l, -1000 ≤ x ∧ x ≤ 1000 := by
  simp only [lsB, Bool.and_eq_true, decide_eq_true_eq, List.all_eq_true, thB_iff]
theorem xd_stp (m : M) (x : Int) : xd (stp m x) = xd m := by
  obtain ⟨a, b, c, d⟩ := m
  simp only [xd, stp, Int.mul_sub, Int.sub_mul]
  have e : b * (d * x) = b * x * d := by rw [Int.mul_comm d x, Int.mul_assoc]
  rw [e, Int.mul_comm a d]
  omega
theorem xd_sh (x : Int) : xd (sh x) = 1 := by simp [xd, sh]
theorem mul3 {x y : Int} (hx : -1000000 ≤ x ∧ x ≤ 1000000) (hy : -1000 ≤ y ∧ y ≤ 1000) : -1000000000 ≤ x * y ∧ x * y ≤ 1000000000 := by
  have := mul_bd hx hy; omega
theorem tu_tm {m : M} (hm : inB m = true) : tm m tu = ⟨m.b, -m.a, m.d, -m.c⟩ := by
  obtain ⟨h1, h2, h3, h4⟩ := inB_iff.1 hm
  rw [tm_x hm (by decide)]
  simp [xm, tu]
theorem tu_in {m : M} (hm : inB m = true) : inB (⟨m.b, -m.a, m.d, -m.c⟩ : M) = true := by
  obtain ⟨h1, h2, h3, h4⟩ := inB_iff.1 hm
  exact inB_iff.2 ⟨h2, by dsimp only; omega, h4, by dsimp only; omega⟩
theorem sh_in {x : Int} (hx : -1000 ≤ x ∧ x ≤ 1000) : inB (sh x) = true := inB_iff.2 ⟨by simp [sh], by simp [sh]; omega, by simp [sh], by simp [sh]⟩
/-- what the program makes of a step -/
theorem step_x {m : M} {x : Int} (hm : inB m = true) (hx : -1000 ≤ x ∧ x ≤ 1000) : tm (tm m tu) (sh x) = stp m x := by
  rw [tu_tm hm, tm_x (tu_in hm) (sh_in hx)]
  simp only [xm, sh, stp]
  apply M.ext' <;> simp <;> omega
/-- what the model makes of it -/
theorem step_s {m : M} {x : Int} (hm : inB m = true) (hx : -1000 ≤ x ∧ x ≤ 1000) :
    (⟨m.b, wrap64 (wrap64 (m.b * x) + wrap64 (0 - m.a)), m.d, wrap64 (wrap64 (m.d * x) + wrap64 (0 - m.c))⟩ : M) = stp m x := by
  obtain ⟨h1, h2, h3, h4⟩ := inB_iff.1 hm
  have e1 := mul3 h2 hx
  have e2 := mul3 h4 hx
  have e3 : wrap64 (0 - m.a) = 0 - m.a := wrap_mid (by omega)
  have e4 : wrap64 (0 - m.c) = 0 - m.c := wrap_mid (by omega)
  rw [e3, e4, wrap_mid (x := m.b * x) (by omega), wrap_mid (x := m.d * x) (by omega), wrap_mid (by omega), wrap_mid (by omega)]
  simp only [stp]
  apply M.ext' <;> simp <;> omega
/-- a step's numbers are far from where int wraps, so that the determinant is told -/
theorem stp_ev {m : M} {x : Int} (h : inB (stp m x) = true) (hd : xd m = 1) : evB (stp m x) = true := by
  rw [evB_iff h, xd_stp, hd]
theorem sh_ev {x : Int} (hx : -1000 ≤ x ∧ x ≤ 1000) : evB (sh x) = true := (evB_iff (sh_in hx)).2 (xd_sh x)
/-- the matrix from m on by the steps of a list, and true; at the first one that is none: this one -/
def matF : M → List Int → M × Bool
  | m, [] => (m, true)
  | m, x :: l => if inB (stp m x) then matF (stp m x) l else (stp m x, false)
theorem matF_yes {m : M} {x : Int} {l : List Int} (h : inB (stp m x) = true) : matF m (x :: l) = matF (stp m x) l := by simp [matF, h]
theorem matF_no {m : M} {x : Int} {l : List Int} (h : inB (stp m x) = false) : matF m (x :: l) = (stp m x, false) := by simp [matF, h]
theorem matF_in : ∀ {l : List Int} {m : M}, inB m = true → xd m = 1 → (matF m l).2 = true → inB (matF m l).1 = true ∧ xd (matF m l).1 = 1
  | [], m, h1, h2, _ => ⟨h1, h2⟩
  | x :: l, m, h1, h2, h3 => by
    cases h : inB (stp m x)
    · rw [matF_no h] at h3; cases h3
    · rw [matF_yes h] at h3 ⊢
      exact matF_in h (by rw [xd_stp, h2]) h3
/-- the matrix of a list that is not empty, made from its first number on, and whether all on the way are matrices -/
def lmat (l : List Int) : M × Bool := matF (sh (l.headD 0)) l.tail
/-- the matrix of a list, and true, if all on the way are matrices -/
def tof (l : List Int) : M × Bool := if lsB l && (lmat l).2 then ((lmat l).1, true) else (zm, false)
theorem tof_no {l : List Int} (h : lsB l = false) : tof l = (zm, false) := by simp [tof, h]
theorem tof_ls {l : List Int} (h : lsB l = true) : tof l = if (lmat l).2 then ((lmat l).1, true) else (zm, false) := by simp [tof, h]
theorem lmat_in {l : List Int} (h : lsB l = true) (h2 : (lmat l).2 = true) : inB (lmat l).1 = true ∧ xd (lmat l).1 = 1 := by
  obtain ⟨⟨h3, _⟩, h4⟩ := lsB_iff.1 h
  cases l with
  | nil => simp at h3
  | cons x l =>
    have hx := h4 x List.mem_cons_self
    exact matF_in (sh_in hx) (xd_sh x) h2
/-- the trace of a list's matrix, if it is told -/
def ttr (zs : List Int) : Int × Bool := if (tof zs).2 then (tr (tof zs).1, true) else (0, false)
end Go.Proofs.Ytohkmdpefplddaa

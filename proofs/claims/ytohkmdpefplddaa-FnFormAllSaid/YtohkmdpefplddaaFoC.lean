
/- Forms moved by even matrices, walked: FormMoved. And FormIn, FormValue, FormDisc. No condition. -/
import Derived.Test.YtohkmdpefplddaaFoB
namespace Go.Proofs.Ytohkmdpefplddaa
open Go.RowKit

def xI (x : Int) : Bool := decide (-1000 ≤ x) && decide (x ≤ 1000)
theorem xI_iff {x : Int} : xI x = true ↔ -1000 ≤ x ∧ x ≤ 1000 := by simp [xI]
def fVal (f : F3) (x y : Int) : Int × Bool := if inF f && (xI x && xI y) then (vF f x y, true) else (0, false)
def fDsc (f : F3) : Int × Bool := if inF f then (dF f, true) else (0, false)
theorem FormDisc_ (a b c : Int) (w : World) : Calls Try.prog 10 #[.agg #[.int .i64 a, .int .i64 b, .int .i64 c]] w (fun E' W' => E' = .returned (.tuple #[.int .i64 (fDsc ⟨a, b, c⟩).1, .bool (fDsc ⟨a, b, c⟩).2]) ∧ Below w.heap.size w W') := by
  cases h1 : inF ⟨a, b, c⟩
  · have q1 := fun W => fIn_ a b c W
    rw [h1] at q1
    have hM := mem_nil w; have hB := Below.refl w.heap.size w; have hC := True.intro
    go_enter Try.func10, Try.ntmps10
    go_wp2_with (first | (go_at_call 19; refine (q1 _).mono ?_; rintro e w' ⟨rfl, hb⟩; apply after_call (w := w) hb; (focus ((repeat' (first | (with_reducible exact hM) | (with_reducible apply mem_alloc) | (with_reducible apply mem_set) | (with_reducible apply mem_drew) | (with_reducible apply mem_drewN))); done)); (focus ((repeat' (first | (with_reducible exact hB) | (with_reducible exact Below.refl _ _) | (with_reducible refine Below.alloc ?_ ?_ _) | (with_reducible refine Below.setCell ?_ ?_ _) | (with_reducible refine Below.drew ?_) | (with_reducible refine below_drewN ?_ _) | (with_reducible exact Nat.le_refl _) | (with_reducible exact hB.size) | (simp [go_sem]; done) | (have := hB.size; simp [go_sem]; omega))); done)); (focus ((repeat' (first | (with_reducible exact hB) | (with_reducible exact Below.refl _ _) | (with_reducible refine Below.alloc ?_ ?_ _) | (with_reducible refine Below.setCell ?_ ?_ _) | (with_reducible refine Below.drew ?_) | (with_reducible refine below_drewN ?_ _) | (with_reducible exact Nat.le_refl _) | (with_reducible exact hB.size) | (simp [go_sem]; done) | (have := hB.size; simp [go_sem]; omega))); done)); clear hM hB hb; intro hM hB; (try clear hC); have hC := mem_facts hM; simp at hC))
    go_ret2
    exact ⟨by simp [fDsc, h1], by (repeat' (first | (with_reducible exact hB) | (with_reducible exact Below.refl _ _) | (with_reducible refine Below.alloc ?_ ?_ _) | (with_reducible refine Below.setCell ?_ ?_ _) | (with_reducible refine Below.drew ?_) | (with_reducible refine below_drewN ?_ _) | (with_reducible exact Nat.le_refl _) | (with_reducible exact hB.size) | (simp [go_sem]; done) | (have := hB.size; simp [go_sem]; omega)))⟩
  · have q1 := fun W => fIn_ a b c W
    have q2 := fun W => fDisc1_ a b c h1 W
    rw [h1] at q1
    have hM := mem_nil w; have hB := Below.refl w.heap.size w; have hC := True.intro
    go_enter Try.func10, Try.ntmps10
    go_wp2_with (first | (go_at_call 19; refine (q1 _).mono ?_; rintro e w' ⟨rfl, hb⟩; apply after_call (w := w) hb; (focus ((repeat' (first | (with_reducible exact hM) | (with_reducible apply mem_alloc) | (with_reducible apply mem_set) | (with_reducible apply mem_drew) | (with_reducible apply mem_drewN))); done)); (focus ((repeat' (first | (with_reducible exact hB) | (with_reducible exact Below.refl _ _) | (with_reducible refine Below.alloc ?_ ?_ _) | (with_reducible refine Below.setCell ?_ ?_ _) | (with_reducible refine Below.drew ?_) | (with_reducible refine below_drewN ?_ _) | (with_reducible exact Nat.le_refl _) | (with_reducible exact hB.size) | (simp [go_sem]; done) | (have := hB.size; simp [go_sem]; omega))); done)); (focus ((repeat' (first | (with_reducible exact hB) | (with_reducible exact Below.refl _ _) | (with_reducible refine Below.alloc ?_ ?_ _) | (with_reducible refine Below.setCell ?_ ?_ _) | (with_reducible refine Below.drew ?_) | (with_reducible refine below_drewN ?_ _) | (with_reducible exact Nat.le_refl _) | (with_reducible exact hB.size) | (simp [go_sem]; done) | (have := hB.size; simp [go_sem]; omega))); done)); clear hM hB hb; intro hM hB; (try clear hC); have hC := mem_facts hM; simp at hC) | (go_at_call 22; refine (q2 _).mono ?_; rintro e w' ⟨rfl, hb⟩; apply after_call (w := w) hb; (focus ((repeat' (first | (with_reducible exact hM) | (with_reducible apply mem_alloc) | (with_reducible apply mem_set) | (with_reducible apply mem_drew) | (with_reducible apply mem_drewN))); done)); (focus ((repeat' (first | (with_reducible exact hB) | (with_reducible exact Below.refl _ _) | (with_reducible refine Below.alloc ?_ ?_ _) | (with_reducible refine Below.setCell ?_ ?_ _) | (with_reducible refine Below.drew ?_) | (with_reducible refine below_drewN ?_ _) | (with_reducible exact Nat.le_refl _) | (with_reducible exact hB.size) | (simp [go_sem]; done) | (have := hB.size; simp [go_sem]; omega))); done)); (focus ((repeat' (first | (with_reducible exact hB) | (with_reducible exact Below.refl _ _) | (with_reducible refine Below.alloc ?_ ?_ _) | (with_reducible refine Below.setCell ?_ ?_ _) | (with_reducible refine Below.drew ?_) | (with_reducible refine below_drewN ?_ _) | (with_reducible exact Nat.le_refl _) | (with_reducible exact hB.size) | (simp [go_sem]; done) | (have := hB.size; simp [go_sem]; omega))); done)); clear hM hB hb; intro hM hB; (try clear hC); have hC := mem_facts hM; simp at hC))
    go_ret2
    exact ⟨by simp [fDsc, h1], by (repeat' (first | (with_reducible exact hB) | (with_reducible exact Below.refl _ _) | (with_reducible refine Below.alloc ?_ ?_ _) | (with_reducible refine Below.setCell ?_ ?_ _) | (with_reducible refine Below.drew ?_) | (with_reducible refine below_drewN ?_ _) | (with_reducible exact Nat.le_refl _) | (with_reducible exact hB.size) | (simp [go_sem]; done) | (have := hB.size; simp [go_sem]; omega)))⟩
def zF : F3 := ⟨0, 0, 0⟩
/-- a form moved by an even matrix, and true; else nothing -/
def fMv (f : F3) (m : M) : F3 × Bool := if inF f && (inB m && evB m) && inF (mvF f m) then (mvF f m, true) else (zF, false)
theorem mvF_bd {f : F3} {m : M} (hf : inF f = true) (hm : inB m = true) : (-4000000000000000000 ≤ (mvF f m).a ∧ (mvF f m).a ≤ 4000000000000000000) ∧ (-4000000000000000000 ≤ (mvF f m).b ∧ (mvF f m).b ≤ 4000000000000000000) ∧ (-4000000000000000000 ≤ (mvF f m).c ∧ (mvF f m).c ≤ 4000000000000000000) := by
  obtain ⟨k1, k2, k3, k4⟩ := inB_iff.1 hm
  have h := inF_iff.1 hf
  have p1 := vF_bd (K := 10000) (L := 1000000) h k1 k3
  have p2 := vF_bd (K := 10000) (L := 1000000) h k2 k4
  have p3 := vF_bd (K := 10000) (L := 2000000) (x := m.a + m.b) (y := m.c + m.d) h (by omega) (by omega)
  rw [f3_eta] at p1 p2 p3
  simp only [mvF]
  omega
end Go.Proofs.Ytohkmdpefplddaa


/- The program's lengths and short bases, walked: ShortLength, ShortBase, ShortIs, ShortLeast. No condition. -/
import Derived.Test.YtnbbgfcnbgjahaaShC
namespace Go.Proofs.Ytnbbgfcnbgjahaa
open Go.RowKit

def zP : P2 := ⟨0, 0⟩
def mLen (p : P2) : Int × Bool := if pB p then (dotP p p, true) else (0, false)
def mBase (p q : P2) : (P2 × P2) × Bool := if baP p q && (pB (shP p q).1 && pB (shP p q).2) then (shP p q, true) else ((zP, zP), false)
def mIs (p q : P2) : Bool := baP p q && siP p q
def mLeast (p q : P2) : Int × Bool := if baP p q then (dotP (shP p q).1 (shP p q).1, true) else (0, false)
theorem ShortLength_ (a b : Int) (w : World) : Calls Try.prog 9 #[.agg #[.int .i64 a, .int .i64 b]] w (fun E' W' => E' = .returned (.tuple #[.int .i64 (mLen ⟨a, b⟩).1, .bool (mLen ⟨a, b⟩).2]) ∧ Below w.heap.size w W') := by
  have c1 := fun W => in7_ a b W
  cases h : pB ⟨a, b⟩
  · rw [h] at c1
    have HE := Lib.hid (show mLen ⟨a, b⟩ = (0, false) by simp [mLen, h])
    have hM := mem_nil w; have hB := Below.refl w.heap.size w; have hC := True.intro
    go_enter Try.func9, Try.ntmps9
    go_wp2_with (go_at_call 27; refine (c1 _).mono ?_; rintro e w' ⟨rfl, hb⟩; apply after_call (w := w) hb; (focus ((repeat' (first | (with_reducible exact hM) | (with_reducible apply mem_alloc) | (with_reducible apply mem_set) | (with_reducible apply mem_drew) | (with_reducible apply mem_drewN))); done)); (focus ((repeat' (first | (with_reducible exact hB) | (with_reducible exact Below.refl _ _) | (with_reducible refine Below.alloc ?_ ?_ _) | (with_reducible refine Below.setCell ?_ ?_ _) | (with_reducible refine Below.drew ?_) | (with_reducible refine below_drewN ?_ _) | (with_reducible exact Nat.le_refl _) | (with_reducible exact hB.size) | (simp [go_sem]; done) | (have := hB.size; simp [go_sem]; omega))); done)); (focus ((repeat' (first | (with_reducible exact hB) | (with_reducible exact Below.refl _ _) | (with_reducible refine Below.alloc ?_ ?_ _) | (with_reducible refine Below.setCell ?_ ?_ _) | (with_reducible refine Below.drew ?_) | (with_reducible refine below_drewN ?_ _) | (with_reducible exact Nat.le_refl _) | (with_reducible exact hB.size) | (simp [go_sem]; done) | (have := hB.size; simp [go_sem]; omega))); done)); clear hM hB hb; intro hM hB; (try clear hC); have hC := mem_facts hM; simp at hC)
    go_ret2
    exact ⟨by rw [HE.out]; rfl, by (repeat' (first | (with_reducible exact hB) | (with_reducible exact Below.refl _ _) | (with_reducible refine Below.alloc ?_ ?_ _) | (with_reducible refine Below.setCell ?_ ?_ _) | (with_reducible refine Below.drew ?_) | (with_reducible refine below_drewN ?_ _) | (with_reducible exact Nat.le_refl _) | (with_reducible exact hB.size) | (simp [go_sem]; done) | (have := hB.size; simp [go_sem]; omega)))⟩
  · rw [h] at c1
    obtain ⟨k1, k2⟩ := pB_iff.1 h
    dsimp only at k1 k2
    have HE := Lib.hid (show mLen ⟨a, b⟩ = (dotP ⟨a, b⟩ ⟨a, b⟩, true) by simp [mLen, h])
    have c2 := fun W => len7_ a b (by omega) (by omega) W
    clear k1 k2
    generalize dotP ⟨a, b⟩ ⟨a, b⟩ = N at *
    have hM := mem_nil w; have hB := Below.refl w.heap.size w; have hC := True.intro
    go_enter Try.func9, Try.ntmps9
    go_wp2_with (first | (go_at_call 27; refine (c1 _).mono ?_; rintro e w' ⟨rfl, hb⟩; apply after_call (w := w) hb; (focus ((repeat' (first | (with_reducible exact hM) | (with_reducible apply mem_alloc) | (with_reducible apply mem_set) | (with_reducible apply mem_drew) | (with_reducible apply mem_drewN))); done)); (focus ((repeat' (first | (with_reducible exact hB) | (with_reducible exact Below.refl _ _) | (with_reducible refine Below.alloc ?_ ?_ _) | (with_reducible refine Below.setCell ?_ ?_ _) | (with_reducible refine Below.drew ?_) | (with_reducible refine below_drewN ?_ _) | (with_reducible exact Nat.le_refl _) | (with_reducible exact hB.size) | (simp [go_sem]; done) | (have := hB.size; simp [go_sem]; omega))); done)); (focus ((repeat' (first | (with_reducible exact hB) | (with_reducible exact Below.refl _ _) | (with_reducible refine Below.alloc ?_ ?_ _) | (with_reducible refine Below.setCell ?_ ?_ _) | (with_reducible refine Below.drew ?_) | (with_reducible refine below_drewN ?_ _) | (with_reducible exact Nat.le_refl _) | (with_reducible exact hB.size) | (simp [go_sem]; done) | (have := hB.size; simp [go_sem]; omega))); done)); clear hM hB hb; intro hM hB; (try clear hC); have hC := mem_facts hM; simp at hC) | (go_at_call 28; refine (c2 _).mono ?_; rintro e w' ⟨rfl, hb⟩; apply after_call (w := w) hb; (focus ((repeat' (first | (with_reducible exact hM) | (with_reducible apply mem_alloc) | (with_reducible apply mem_set) | (with_reducible apply mem_drew) | (with_reducible apply mem_drewN))); done)); (focus ((repeat' (first | (with_reducible exact hB) | (with_reducible exact Below.refl _ _) | (with_reducible refine Below.alloc ?_ ?_ _) | (with_reducible refine Below.setCell ?_ ?_ _) | (with_reducible refine Below.drew ?_) | (with_reducible refine below_drewN ?_ _) | (with_reducible exact Nat.le_refl _) | (with_reducible exact hB.size) | (simp [go_sem]; done) | (have := hB.size; simp [go_sem]; omega))); done)); (focus ((repeat' (first | (with_reducible exact hB) | (with_reducible exact Below.refl _ _) | (with_reducible refine Below.alloc ?_ ?_ _) | (with_reducible refine Below.setCell ?_ ?_ _) | (with_reducible refine Below.drew ?_) | (with_reducible refine below_drewN ?_ _) | (with_reducible exact Nat.le_refl _) | (with_reducible exact hB.size) | (simp [go_sem]; done) | (have := hB.size; simp [go_sem]; omega))); done)); clear hM hB hb; intro hM hB; (try clear hC); have hC := mem_facts hM; simp at hC))
    go_ret2
    exact ⟨by rw [HE.out]; rfl, by (repeat' (first | (with_reducible exact hB) | (with_reducible exact Below.refl _ _) | (with_reducible refine Below.alloc ?_ ?_ _) | (with_reducible refine Below.setCell ?_ ?_ _) | (with_reducible refine Below.drew ?_) | (with_reducible refine below_drewN ?_ _) | (with_reducible exact Nat.le_refl _) | (with_reducible exact hB.size) | (simp [go_sem]; done) | (have := hB.size; simp [go_sem]; omega)))⟩
end Go.Proofs.Ytnbbgfcnbgjahaa

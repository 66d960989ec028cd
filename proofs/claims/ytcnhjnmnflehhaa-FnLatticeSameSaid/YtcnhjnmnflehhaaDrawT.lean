
/- The draws of two matrices, and of a matrix and a point, for every slice of bytes. -/
import Derived.Test.YtcnhjnmnflehhaaDrawG
import Derived.Deep.DeepCutAuto
namespace Go.Proofs.Ytcnhjnmnflehhaa
open Go.RowKit

def MatsPost (w : World) (e : Ending) (w' : World) : Prop := ∃ a b c d k l m n : Int, e = .returned (.tuple #[.agg #[.int .i64 a, .int .i64 b, .int .i64 c, .int .i64 d], .agg #[.int .i64 k, .int .i64 l, .int .i64 m, .int .i64 n]]) ∧ Below w.heap.size w w'
theorem mats_use {R B q : Nat} {w W : World} {L : List (Nat × Array Value × TypeId)} {v : Value} (h : Inv R B q w W L) (k : Inv R B q w W L → MatsPost w (.returned v) W) : MatsPost w (.returned v) W := k h
theorem use_matsrow {P : Program} {f : FuncId} {w W : World} {a : Option Addr} {len cap : Nat} {zs : List Int} {Q : Ending → World → Prop} (hRow : RowB .u8 w w.heap.size a len cap zs)
    (hc : ∀ W : World, RowB .u8 W W.heap.size a len cap zs → Calls P f #[.slice a len cap] W (MatsPost W)) (hB : Below w.heap.size w W) (hs : w.heap.size ≤ W.heap.size)
    (h : ∀ a b c d k l m n w', Below W.heap.size W w' → Q (.returned (.tuple #[.agg #[.int .i64 a, .int .i64 b, .int .i64 c, .int .i64 d], .agg #[.int .i64 k, .int .i64 l, .int .i64 m, .int .i64 n]])) w') : Calls P f #[.slice a len cap] W Q :=
  (hc W (hRow.at_ hB hs)).mono fun e w' ⟨a, b, c, d, k, l, m, n, he, hb⟩ => by rw [he]; exact h a b c d k l m n w' hb
theorem inv_step {R B q : Nat} {w W : World} {L : List (Nat × Array Value × TypeId)} (h : Inv R B q w W L) (p : Int) (hp : 0 ≤ p ∧ p ≤ q) : Inv R B q w (W.setCell ⟨R, 1, none⟩ (.int .i64 p)) L := by
  obtain ⟨h1, h2, h3, h4, h5, h6⟩ := h
  have hsame : Since R W (W.setCell ⟨R, 1, none⟩ (.int .i64 p)) := (Since.refl R W).setCell (.inl rfl) _
  refine ⟨mem_since hsame h1 (fun r hr => (h2 r hr).2), h2, h3.trans hsame, ?_, by simpa [World.setCell] using h5, h6⟩
  obtain ⟨A, n, c, p0, z, k1, k2, k3, k4, k5, k6, k7⟩ := h4
  refine ⟨A, n, c, p, z, ?_, hp.1, hp.2, k4, k5, k6, fun hn => ?_⟩
  · have m1 := (mem_set (L := [(R, #[.slice A n c, .int .i64 p0], 66)]) R 1 (.int .i64 p) ⟨fun r hr => by simp at hr; subst hr; exact k1, by simp⟩).1
    simpa [setL] using m1
  · obtain ⟨b, off, e, hb, hc⟩ := k7 hn
    exact ⟨b, off, e, hb, fun i hi => (World.cell?_of_block (Below.heap_setCell W ⟨R, 1, none⟩ _ b (by have := hb.1; dsimp only; omega))).trans (hc i hi)⟩
def MatPtPost (w : World) (e : Ending) (w' : World) : Prop := ∃ a b c d k l : Int, e = .returned (.tuple #[.agg #[.int .i64 a, .int .i64 b, .int .i64 c, .int .i64 d], .int .i64 k, .int .i64 l]) ∧ Below w.heap.size w w'
theorem matpt_use {R B q : Nat} {w W : World} {L : List (Nat × Array Value × TypeId)} {v : Value} (h : Inv R B q w W L) (k : Inv R B q w W L → MatPtPost w (.returned v) W) : MatPtPost w (.returned v) W := k h
end Go.Proofs.Ytcnhjnmnflehhaa

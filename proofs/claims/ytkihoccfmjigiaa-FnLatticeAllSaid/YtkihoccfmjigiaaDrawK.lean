
/- The draws of one number, for every slice of bytes. -/
import Derived.Test.YtkihoccfmjigiaaDrawG
namespace Go.Proofs.Ytkihoccfmjigiaa
open Go.RowKit

/-- a number from -100 to 100 -/
def OnePost (w : World) (e : Ending) (w' : World) : Prop := ∃ t : Int, e = .returned (.int .i64 t) ∧ -100 ≤ t ∧ t ≤ 100 ∧ Below w.heap.size w w'
theorem one_use {R B q : Nat} {w W : World} {L : List (Nat × Array Value × TypeId)} {v : Value} (h : Inv R B q w W L) (k : Inv R B q w W L → OnePost w (.returned v) W) : OnePost w (.returned v) W := k h
theorem use_onerow {P : Program} {f : FuncId} {w W : World} {a : Option Addr} {len cap : Nat} {zs : List Int} {Q : Ending → World → Prop} (hRow : RowB .u8 w w.heap.size a len cap zs)
    (hc : ∀ W : World, RowB .u8 W W.heap.size a len cap zs → Calls P f #[.slice a len cap] W (OnePost W)) (hB : Below w.heap.size w W) (hs : w.heap.size ≤ W.heap.size)
    (h : ∀ t w', -100 ≤ t → t ≤ 100 → Below W.heap.size W w' → Q (.returned (.int .i64 t)) w') : Calls P f #[.slice a len cap] W Q :=
  (hc W (hRow.at_ hB hs)).mono fun e w' ⟨t, he, h0, h1, hb⟩ => by rw [he]; exact h t w' h0 h1 hb
theorem quo24 {y : Int} (h0 : 0 ≤ y) (h1 : y < 24) : 0 ≤ y.tdiv 23 ∧ y.tdiv 23 ≤ 1 := by
  rw [Int.tdiv_eq_ediv_of_nonneg h0]; omega
end Go.Proofs.Ytkihoccfmjigiaa

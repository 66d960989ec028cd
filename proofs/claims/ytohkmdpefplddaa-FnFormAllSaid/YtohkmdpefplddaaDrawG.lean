
/- The draws of matrices, for every slice of bytes: each returns some matrix, and changes nothing that was there. -/
import Derived.Test.YtohkmdpefplddaaDrawF
namespace Go.Proofs.Ytohkmdpefplddaa
open Go.RowKit

theorem use_open {w W : World} {L : List (Nat × Array Value × TypeId)} {a : Option Addr} {len cap : Nat} {zs : List Int} {Q : Ending → World → Prop} (hRow : RowB .u8 w w.heap.size a len cap zs)
    (hm : Mem W L) (hB : Below w.heap.size w W) (hs : w.heap.size ≤ W.heap.size) (ho : ∀ p ∈ L, w.heap.size ≤ p.1)
    (h : ∀ R w', Inv R w.heap.size 0 w w' L → w.heap.size ≤ R → Q (.returned (.pointer (some ⟨R, 0, none⟩))) w') : Calls Try.prog 14 #[.slice a len cap] W Q := by
  refine (open_ _ a len cap zs W (hRow.below hB)).mono ?_
  rintro e w' ⟨R, rfl, hr, hb, hR⟩
  refine h R w' ⟨mem_below hb hm, fun p hp => ⟨ho p hp, ?_⟩, Since.of_below (hB.trans (hb.mono hs)), hr, Nat.le_trans hs hb.size, Nat.le_refl _⟩ (Nat.le_trans hs hR)
  have := mem_lt (hm.1 p hp)
  omega
theorem mp_use {R B q : Nat} {w W : World} {L : List (Nat × Array Value × TypeId)} {v : Value} (h : Inv R B q w W L) (k : Inv R B q w W L → MatPost w (.returned v) W) : MatPost w (.returned v) W := k h
theorem use_matpost {P : Program} {f : FuncId} {args : Array Value} {W : World} {Q : Ending → World → Prop}
    (hc : Calls P f args W (MatPost W)) (h : ∀ a b c d w', Below W.heap.size W w' → Q (.returned (.agg #[.int .i64 a, .int .i64 b, .int .i64 c, .int .i64 d])) w') : Calls P f args W Q :=
  hc.mono fun e w' ⟨a, b, c, d, he, hb⟩ => by rw [he]; exact h a b c d w' hb

theorem RowB.at_ {w W : World} {a : Option Addr} {len cap : Nat} {zs : List Int} (h : RowB .u8 w w.heap.size a len cap zs) (hb : Below w.heap.size w W) (hs : w.heap.size ≤ W.heap.size) : RowB .u8 W W.heap.size a len cap zs :=
  ⟨(h.below hb).1, fun x hx hc => Nat.lt_of_lt_of_le (h.2 x hx hc) hs⟩
theorem use_matrow {P : Program} {f : FuncId} {w W : World} {a : Option Addr} {len cap : Nat} {zs : List Int} {Q : Ending → World → Prop} (hRow : RowB .u8 w w.heap.size a len cap zs)
    (hc : ∀ W : World, RowB .u8 W W.heap.size a len cap zs → Calls P f #[.slice a len cap] W (MatPost W)) (hB : Below w.heap.size w W) (hs : w.heap.size ≤ W.heap.size)
    (h : ∀ a b c d w', Below W.heap.size W w' → Q (.returned (.agg #[.int .i64 a, .int .i64 b, .int .i64 c, .int .i64 d])) w') : Calls P f #[.slice a len cap] W Q := use_matpost (hc W (hRow.at_ hB hs)) h
end Go.Proofs.Ytohkmdpefplddaa


/- The draws of words and of two numbers, for every slice of bytes. -/
import Derived.Test.YtpalgnfimelioaaGreatDoorDrawG
import Derived.Test.YtpalgnfimelioaaGreatDoorSpecX
import Derived.Deep.DeepCutAuto
namespace Go.Proofs.YtpalgnfimelioaaGreatDoor
open Go.RowKit

/-- a text of at most 100 letters; nothing that was there has changed -/
def TextPost (w : World) (e : Ending) (w' : World) : Prop := ∃ s : ByteArray, e = .returned (.string s) ∧ s.size ≤ 100 ∧ Below w.heap.size w w'
def NumsPost (w : World) (e : Ending) (w' : World) : Prop := ∃ p q : Int, e = .returned (.tuple #[.int .i64 p, .int .i64 q]) ∧ Below w.heap.size w w'
theorem word14 (R B q : Nat) (w : World) (hB : B ≤ w.heap.size) (hR : Rdr w R B q) (hq : q ≤ 800000) : Calls Tryz.prog 17 #[.pointer (some ⟨R, 0, none⟩), .int .i64 14] w (DPost (IsText 100) R B (q + 60) w) := l91Word_ R B q 14 w (by decide) hB hR hq
theorem word12 (R B q : Nat) (w : World) (hB : B ≤ w.heap.size) (hR : Rdr w R B q) (hq : q ≤ 800000) : Calls Tryz.prog 17 #[.pointer (some ⟨R, 0, none⟩), .int .i64 12] w (DPost (IsText 100) R B (q + 60) w) := l91Word_ R B q 12 w (by decide) hB hR hq
theorem use_textrow {P : Program} {f : FuncId} {w W : World} {a : Option Addr} {len cap : Nat} {zs : List Int} {Q : Ending → World → Prop} (hRow : RowB .u8 w w.heap.size a len cap zs)
    (hc : ∀ W : World, RowB .u8 W W.heap.size a len cap zs → Calls P f #[.slice a len cap] W (TextPost W)) (hB : Below w.heap.size w W) (hs : w.heap.size ≤ W.heap.size)
    (h : ∀ s w', s.size ≤ 100 → Below W.heap.size W w' → Q (.returned (.string s)) w') : Calls P f #[.slice a len cap] W Q :=
  (hc W (hRow.at_ hB hs)).mono fun e w' ⟨s, he, h1, hb⟩ => by rw [he]; exact h s w' h1 hb
theorem use_numsrow {P : Program} {f : FuncId} {w W : World} {a : Option Addr} {len cap : Nat} {zs : List Int} {Q : Ending → World → Prop} (hRow : RowB .u8 w w.heap.size a len cap zs)
    (hc : ∀ W : World, RowB .u8 W W.heap.size a len cap zs → Calls P f #[.slice a len cap] W (NumsPost W)) (hB : Below w.heap.size w W) (hs : w.heap.size ≤ W.heap.size)
    (h : ∀ p q w', Below W.heap.size W w' → Q (.returned (.tuple #[.int .i64 p, .int .i64 q])) w') : Calls P f #[.slice a len cap] W Q :=
  (hc W (hRow.at_ hB hs)).mono fun e w' ⟨p, q, he, hb⟩ => by rw [he]; exact h p q w' hb
end Go.Proofs.YtpalgnfimelioaaGreatDoor

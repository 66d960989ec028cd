
/- A slice of whole numbers that came in as an argument. No condition. -/
import Derived.Test.YtpalgnfimelioaaGreatDoorBase
import Derived.OpenShut
namespace Go.Proofs.YtpalgnfimelioaaGreatDoor
open Go.RowKit

/-- a slice of whole numbers that came in -/
def IsRow (k : IntKind) (w : World) (a : Option Addr) (len cap : Nat) (zs : List Int) : Prop :=
  (a = none ∧ len = 0 ∧ cap = 0 ∧ zs = []) ∨
  ∃ x, a = some x ∧ len ≤ cap ∧ cap ≤ maxLen ∧ zs.length = cap ∧ (∀ i, i < zs.length → w.cell? (x.add i) = some (.int k (zs.getD i 0))) ∧ ∀ n ∈ zs, (Lit.int k n).wf = true
theorem IsRow.below {k : IntKind} {w w' : World} {a : Option Addr} {len cap : Nat} {zs : List Int} (h : IsRow k w a len cap zs) (hb : Below w.heap.size w w') : IsRow k w' a len cap zs := by
  rcases h with h | ⟨x, rfl, h1, h2, h3, h4, h5⟩
  · exact .inl h
  · refine .inr ⟨x, rfl, h1, h2, h3, fun i hi => ?_, h5⟩
    have := h4 i hi
    have hx : (x.add i).block < w.heap.size := World.block_lt_of_cell? w _ this
    rw [hb.cell hx]; exact this
/-- .. that lies in a block below B -/
def RowB (k : IntKind) (w : World) (B : Nat) (a : Option Addr) (len cap : Nat) (zs : List Int) : Prop := IsRow k w a len cap zs ∧ ∀ x, a = some x → 0 < cap → x.block < B
theorem rowB {k : IntKind} {w : World} {a : Option Addr} {len cap : Nat} {zs : List Int} (h : IsRow k w a len cap zs) : RowB k w w.heap.size a len cap zs := by
  refine ⟨h, fun x hx hc => ?_⟩
  rcases h with ⟨rfl, _⟩ | ⟨y, rfl, h1, h2, h3, h4, h5⟩
  · cases hx
  · injection hx with hx
    subst hx
    have := World.block_lt_of_cell? w _ (h4 0 (by omega))
    rw [show y.add 0 = y from rfl] at this
    exact this
theorem RowB.below {k : IntKind} {w w' : World} {B : Nat} {a : Option Addr} {len cap : Nat} {zs : List Int} (h : RowB k w B a len cap zs) (hb : Below w.heap.size w w') : RowB k w' B a len cap zs := ⟨h.1.below hb, h.2⟩
end Go.Proofs.YtpalgnfimelioaaGreatDoor


/- The first pair that is one point with a pair: plain; the program's, walked. No condition. -/
import Derived.Test.YtkallllpjkkhhaaMoI
namespace Go.Proofs.Ytkallllpjkkhhaa
open Go.RowKit Go.Shelf
attribute [local go_sem] Oper.semAt_some

def oneP (k x y : Nat) (q : Nat × Nat) : Bool := saB k x y q.1 q.2 && ptB k q.1 q.2
def fstP (k x y : Nat) : Nat × Nat := ((prs k).find? (oneP k x y)).getD (x, y)
theorem kf {B : Nat} {W W' : World} (h : KeepsOthers W W') : KeepsFrom B W W' := h.from B
theorem mem_cons' {w : World} {L : List (Nat × Array Value × TypeId)} {b : Nat} {cs : Array Value} {t : TypeId} (h : Mem w L) (k : Mem w [(b, cs, t)]) (hb : ∀ q ∈ L, q.1 < b) : Mem w ((b, cs, t) :: L) :=
  ⟨fun p hp => by
    rcases List.mem_cons.1 hp with rfl | hp
    · exact k.1 _ List.mem_cons_self
    · exact h.1 p hp, List.pairwise_cons.2 ⟨fun q hq => hb q hq, h.2⟩⟩
theorem mem_tail' {w : World} {L : List (Nat × Array Value × TypeId)} {p : Nat × Array Value × TypeId} (h : Mem w (p :: L)) : Mem w L := ⟨fun q hq => h.1 q (List.mem_cons_of_mem _ hq), (List.pairwise_cons.1 h.2).2⟩
theorem mem_head' {w : World} {L : List (Nat × Array Value × TypeId)} {p : Nat × Array Value × TypeId} (h : Mem w (p :: L)) : Mem w [p] := ⟨fun q hq => by
  obtain rfl := List.mem_singleton.1 hq
  exact h.1 _ List.mem_cons_self, List.pairwise_singleton _ _⟩

end Go.Proofs.Ytkallllpjkkhhaa

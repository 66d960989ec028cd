
/- Appends of more than one element onto a slice of the call's own, beside other blocks of the walk's own. -/
import Derived.Test.YthpbdcookhpdaaaTurnC
import Derived.Deep.RegionLaw
namespace Go.Proofs.Ythpbdcookhpdaaa
open Go.RowKit

/-- an append onto a slice of the call's own, as a step of a region that draws: of nothing, too -/
theorem step_append_any {P : Program} {w : World} {ops : Array Oper} {o : Oper} {a : Act} {K : Act → World → Prop} {Q : Exit → Act → World → Prop} {E : Prop} (hgd : o.guard = none) (s x : Operand) (t : TypeId)
    (ho : o.op = .call { callee := .builtin .append, args := #[s, x], argTypes := #[t, t] })
    (base : Nat) (e : TypeId) (i : TypeInfo) (z : Value) (size bytes : Nat) (ht : P.underlying t = some (.slice e)) (hi : P.info? e = some i) (hz : i.zero = some z)
    (hsize : i.size = size) (hby : i.bytes = bytes) (hzs : z.cells.size = size) (hsz : 0 < size)
    (v : Value) (n : Nat) (xs : List Value) (hs : a.eval s = v) (hown : w.ownsRow base e size v n xs)
    (ad : Addr) (m c : Nat) (news : List Value) (hx : a.eval x = .slice (some ad) m c) (hl : news.length = m * size) (hnews : ∀ j u, news[j]? = some u → w.cell? (ad.add j) = some u) (h1 : ∀ u ∈ news, u.oneCell' = true)
    (h63 : n + m ≤ maxLen) (hbytes : (n + m) * bytes ≤ 140737488355328) (hbase : base ≤ w.heap.size)
    (h : ∀ v' w', w'.ownsRow base e size v' (n + m) (xs ++ news) → w.grownBy w' v.ownBlock → K (a.put o.dst v') w') :
    if Region.wanted o (yielded ops a.tmps) = true then Oper.wp P o a w K Q else E := by
  have hw : Region.wanted o (yielded ops a.tmps) = true := by simp [Region.wanted, hgd]
  rw [if_pos hw]
  obtain ⟨v', w', hrun, hown', hgrow, _⟩ := run_append_own (P := P) w base t o.type e i z size bytes ht hi hz hsize hby hzs hsz v n xs hown ad m c news hl hnews h1 h63 hbytes hbase
  unfold Oper.wp
  simp [execOp, ho, resolve, invoke, builtin, hs, hx, hrun, Result.andThen]
  exact h _ _ hown' hgrow
theorem filt_m (b : Nat) (cs : Array Value) (L : List (Nat × Array Value × TypeId)) : List.filter (fun p => p.2.2 != 3) ((b, cs, 31) :: L) = (b, cs, 31) :: List.filter (fun p => p.2.2 != 3) L := rfl
theorem filt_i (b : Nat) (cs : Array Value) (L : List (Nat × Array Value × TypeId)) : List.filter (fun p => p.2.2 != 3) ((b, cs, 3) :: L) = List.filter (fun p => p.2.2 != 3) L := rfl
theorem mem_filter' {W : World} {L : List (Nat × Array Value × TypeId)} (f : Nat × Array Value × TypeId → Bool) (h : Mem W L) : Mem W (L.filter f) :=
  ⟨fun p hp => h.1 p (List.mem_filter.1 hp).1, h.2.filter f⟩
theorem after_app2 {w W w1 : World} {L : List (Nat × Array Value × TypeId)} {e : TypeId} {v : Value} {k : Nat} {xs : List Value} {G : Prop} (hgrow : W.grownBy w1 v.ownBlock) (hrow : W.ownsRow w.heap.size e 1 v k xs) (hm : Mem W L)
    (hB : Below w.heap.size w W) (hs : w.heap.size ≤ W.heap.size) (g : Mem w1 (L.filter fun p => p.2.2 != e) → Below w.heap.size w w1 → G) : G :=
  after_app (A := W) hgrow hrow (mem_filter' _ hm) (fun p hp => by have := (List.mem_filter.1 hp).2; simpa using this) hB hs (KeepsOthers.refl W) fun h1 h2 _ => g h1 h2
end Go.Proofs.Ythpbdcookhpdaaa

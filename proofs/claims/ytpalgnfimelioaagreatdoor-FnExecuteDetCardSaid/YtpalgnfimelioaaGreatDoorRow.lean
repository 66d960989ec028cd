
/- A slice of the call's own beside the walk's own blocks: what an append leaves of them; a text out of a slice of bytes. -/
import Derived.Test.YtpalgnfimelioaaGreatDoorIter
import Derived.RangeFuncBox
import Derived.RangeFuncWrites
import Derived.Maps.AppendAt
import Derived.Laws.IdiomStrings
import Derived.Laws.OwnMore
namespace Go.Proofs.YtpalgnfimelioaaGreatDoor
open Go.RowKit Go.Shelf

theorem mem_grown' {W W' : World} {L : List (Nat × Array Value × TypeId)} {row : Option Nat} (h : Mem W L) (hg : W.grownBy W' row) (hr : ∀ p ∈ L, some p.1 ≠ row) : Mem W' L :=
  ⟨fun p hp => (hg.block p.1 (mem_lt (h.1 p hp)) (hr p hp)).trans (h.1 p hp), h.2⟩
theorem mem_alloc0 {W : World} {L : List (Nat × Array Value × TypeId)} (h : Mem W L) (o : Obj) : Mem (W.alloc o) L := mem_grown' h (World.grownBy_alloc W o none) (fun _ _ => by simp)
theorem row_ne {W : World} {L : List (Nat × Array Value × TypeId)} {base : Nat} {e : TypeId} {k : Nat} {v : Value} {xs : List Value} (h : Mem W L) (hr : W.ownsRow base e 1 v k xs) (he : ∀ p ∈ L, p.2.2 ≠ e) : ∀ p ∈ L, some p.1 ≠ v.ownBlock := by
  intro p hp
  rcases hr.2 with ⟨rfl, _⟩ | ⟨g, cap, cur, rfl, _, hgb, _⟩
  · simp [Value.ownBlock]
  · intro e'
    obtain rfl : p.1 = g := by simpa [Value.ownBlock] using e'
    have := (h.1 p hp).symm.trans hgb
    simp at this
    exact he p hp this.2
theorem row_set {W : World} {L : List (Nat × Array Value × TypeId)} {base : Nat} {e : TypeId} {k : Nat} {v : Value} {xs : List Value} (hr : W.ownsRow base e 1 v k xs) (h : Mem W L) (he : ∀ p ∈ L, p.2.2 ≠ e) {b i : Nat} (hb : b ∈ L.map (fun p => p.1)) (u : Value) :
    (W.setCell ⟨b, i, none⟩ u).ownsRow base e 1 v k xs := by
  obtain ⟨p, hp, rfl⟩ := List.mem_map.1 hb
  refine hr.kept ⟨rfl, rfl, rfl, by simp [World.setCell], fun j _ hj => Below.heap_setCell W ⟨p.1, i, none⟩ u j (fun e => hj (by rw [e]))⟩ (.inr (row_ne h hr he p hp).symm)
/-- behind an append onto a slice of the call's own -/
theorem after_app {w W w1 A : World} {L : List (Nat × Array Value × TypeId)} {e : TypeId} {v : Value} {k : Nat} {xs : List Value} {G : Prop} (hgrow : W.grownBy w1 v.ownBlock) (hrow : W.ownsRow w.heap.size e 1 v k xs) (hm : Mem W L) (hL : ∀ p ∈ L, p.2.2 ≠ e)
    (hB : Below w.heap.size w W) (hs : w.heap.size ≤ W.heap.size) (hK : KeepsOthers A W) (g : Mem w1 L → Below w.heap.size w w1 → KeepsOthers A w1 → G) : G := by
  refine g (mem_grown' hm hgrow (row_ne hm hrow hL)) (hB.grown hgrow hs fun j ej => ?_) (hK.trans (KeepsOthers.of_grownBy hgrow fun j o ej hj => ?_))
  · rcases hrow.2 with ⟨rfl, _⟩ | ⟨g, cap, cur, rfl, hb, _, _⟩
    · simp [Value.ownBlock] at ej
    · obtain rfl : g = j := by simpa [Value.ownBlock] using ej
      exact hb
  · rcases hrow.2 with ⟨rfl, _⟩ | ⟨g, cap, cur, rfl, _, hgb, _⟩
    · simp [Value.ownBlock] at ej
    · obtain rfl : g = j := by simpa [Value.ownBlock] using ej
      rw [hgb] at hj; cases hj; rfl
/-- behind a make: nothing that was there has changed -/
theorem after_make {w W w1 : World} {L : List (Nat × Array Value × TypeId)} {G : Prop} (hgrow : W.grownBy w1 none) (hm : Mem W L) (hB : Below w.heap.size w W) (hs : w.heap.size ≤ W.heap.size)
    (g : Mem w1 L → Below w.heap.size w w1 → W.heap.size ≤ w1.heap.size → G) : G :=
  g (mem_grown' hm hgrow (fun _ _ => by simp)) (hB.grown hgrow hs fun j ej => by cases ej) hgrow.size
/-- a loop's invariant: the walk's own blocks, one of which holds a slice of the call's own; nothing else has changed -/
def MR {β : Type} (w : World) (e : TypeId) (L : β → Value → List (Nat × Array Value × TypeId)) (f : β → List Value) (s : β) (W : World) : Prop :=
  ∃ v, Mem W (L s v) ∧ W.ownsRow w.heap.size e 1 v (f s).length (f s) ∧ Below w.heap.size w W
theorem mr_own {β : Type} {w : World} {B : Nat} (hB : w.heap.size ≤ B) (e : TypeId) (L : β → Value → List (Nat × Array Value × TypeId)) (f : β → List Value) : OwnFrom B (MR w e L f) := by
  rintro s X Y row ⟨v, hm, hr, hb⟩ hg hrow
  refine ⟨v, mem_grown hm hg (fun r e => (hrow r e).2), hr.kept hg ?_, ownFrom_below (Nat.le_refl _) hB s X Y row hb hg hrow⟩
  rcases hr.2 with ⟨rfl, _⟩ | ⟨g, cap, cur, rfl, _, hgb, _⟩
  · exact .inl rfl
  · refine .inr fun e' => ?_
    obtain ⟨_, o, ho, hc⟩ := hrow g (by simpa [Value.ownBlock] using e'.symm)
    rw [hgb] at ho; cases ho; cases hc
theorem row_form {W : World} {base : Nat} {e : TypeId} {k : Nat} {v : Value} {xs : List Value} (h : W.ownsRow base e 1 v k xs) : ∃ ao cap, v = .slice ao k cap := by
  rcases h.2 with ⟨rfl, rfl⟩ | ⟨g, cap, cur, rfl, _⟩
  · exact ⟨none, 0, rfl⟩
  · exact ⟨_, cap, rfl⟩
/-- an append that the walk's simp does not open: for a region that draws ('attribute [local go_sem ↓] app_held') -/
def heldApp (ts : Array TypeId) (ty : TypeId) (args : Array Value) : Sem Value := Builtin.append_ ts ty args
theorem app_held (ts : Array TypeId) (ty : TypeId) (args : Array Value) : Builtin.append_ ts ty args = heldApp ts ty args := rfl
def byteV (c : UInt8) : Value := .int .u8 (c.toNat : Int)
theorem run_text {P : Program} {W : World} {src dst e : TypeId} (hs : P.underlying src = some (.slice e)) (he : P.underlying e = some (.int .u8)) (hd : P.underlying dst = some .string) {base : Nat} {v : Value} {l : List UInt8}
    (h : W.ownsRow base e 1 v l.length (l.map byteV)) : (convert src dst v).run P W = .ok (.string (txt l)) W := by
  rcases h.2 with ⟨rfl, h0⟩ | ⟨g, cap, cur, rfl, _, hg, _, _, _, htake⟩
  · obtain rfl : l = [] := List.eq_nil_of_length_eq_zero h0
    rw [run_convert_bytes_string W src dst e none 0 0 hs he hd]
    rfl
  · refine run_convert_bytes_back W src dst e ⟨g, 0, none⟩ cap l hs he hd fun j hj => ?_
    have := h.cells (g := g) rfl j (byteV l[j]) (by simp [hj])
    exact this
theorem infoI64 : (Tryz.prog.info? 3).map (fun i => (i.zero, i.size, i.bytes)) = some (some (.int .i64 0), 1, 8) := by kernel_rfl
/-- a slice of whole numbers of the call's own -/
def IntRow (base : Nat) (W : World) (v : Value) (zs : List Int) : Prop := W.ownsRow base 3 1 v (zs.map (Value.int .i64)).length (zs.map (Value.int .i64))
end Go.Proofs.YtpalgnfimelioaaGreatDoor


/- Plain words for worlds and the numbers of matrices: contracts end in 'Below' (nothing that was there has changed); each Go function's answer as a Lean function with the wraps of int. No condition. -/
import Derived.Test.YtpalgnfimelioaaGreatDoorRows
import Derived.WalkKit
import Derived.WalkLawsBesides
import Derived.WalkSpells
import Derived.Outline
import Derived.Lib.Hide
import Derived.Below
import Derived.BigQuiet
import Derived.Deep.QuietTactic
import Derived.IntWalk
import Derived.Handy
import Derived.Deep.RegionWith
import Derived.Deep.RegionHeld3
import Derived.RegionTactic
namespace Go.Proofs.YtpalgnfimelioaaGreatDoor
open Go.RowKit

theorem bcell {W w1 : World} (hb : Below W.heap.size W w1) : (∀ b o, b < W.heap.size → w1.cell? ⟨b, o, none⟩ = W.cell? ⟨b, o, none⟩) ∧ (∀ b o, b < W.heap.size → w1.frozen? ⟨b, o, none⟩ = W.frozen? ⟨b, o, none⟩) :=
  ⟨fun b o h => hb.cell (p := ⟨b, o, none⟩) h, fun b o h => hb.frozen (p := ⟨b, o, none⟩) h⟩
theorem below_call {B : Nat} {w0 W w1 : World} (h : Below B w0 W) (hB : B ≤ W.heap.size) (hb : Below W.heap.size W w1) : Below B w0 w1 := h.trans (hb.mono hB)
theorem below_drewN {B : Nat} {a w : World} (h : Below B a w) (n : Nat) : Below B a (w.drewN n) := ⟨h.os, h.tape, h.output, h.size, h.block⟩


/-- what the walk knows of its own blocks, the newest first: block p.1 holds just the cells p.2.1 of type p.2.2 -/
def Mem (w : World) (L : List (Nat × Array Value × TypeId)) : Prop := (∀ p ∈ L, w.heap[p.1]? = some (.cells p.2.1 p.2.2 (0, 0))) ∧ L.Pairwise (fun p q => q.1 < p.1)
theorem mem_nil (w : World) : Mem w [] := ⟨(fun p h => by cases h), .nil⟩
theorem mem_lt {w : World} {b : Nat} {o : Obj} (h : w.heap[b]? = some o) : b < w.heap.size := by
  rcases Nat.lt_or_ge b w.heap.size with hlt | hge
  · exact hlt
  · rw [Array.getElem?_eq_none hge] at h; cases h
theorem mem_below {W w' : World} {L : List (Nat × Array Value × TypeId)} (hb : Below W.heap.size W w') (h : Mem W L) : Mem w' L :=
  ⟨fun p hp => (hb.block p.1 (mem_lt (h.1 p hp))).trans (h.1 p hp), h.2⟩
theorem mem_alloc {w : World} {L : List (Nat × Array Value × TypeId)} (h : Mem w L) (cs : Array Value) (t : TypeId) : Mem (w.alloc (.cells cs t)) ((w.heap.size, cs, t) :: L) := by
  refine ⟨fun p hp => ?_, List.pairwise_cons.2 ⟨fun q hq => mem_lt (h.1 q hq), h.2⟩⟩
  rcases List.mem_cons.1 hp with rfl | hp
  · exact heap_alloc_new w _
  · exact (Below.heap_alloc w _ p.1 (mem_lt (h.1 p hp))).trans (h.1 p hp)
theorem mem_drew {w : World} {L : List (Nat × Array Value × TypeId)} (h : Mem w L) : Mem w.drew L := h
theorem mem_drewN {w : World} {L : List (Nat × Array Value × TypeId)} (n : Nat) (h : Mem w L) : Mem (w.drewN n) L := h
/-- the same behind a store: the block that is stored into -/
def setL (b i : Nat) (v : Value) : List (Nat × Array Value × TypeId) → List (Nat × Array Value × TypeId)
  | [] => []
  | (c, cs, t) :: L => (if c = b then (c, cs.setIfInBounds i v, t) else (c, cs, t)) :: setL b i v L
theorem setL_mem {b i : Nat} {v : Value} : ∀ {L : List (Nat × Array Value × TypeId)} {p : Nat × Array Value × TypeId}, p ∈ setL b i v L →
    ∃ q ∈ L, p.1 = q.1 ∧ p.2.2 = q.2.2 ∧ p.2.1 = if q.1 = b then q.2.1.setIfInBounds i v else q.2.1
  | [], p, h => by cases h
  | (c, cs, t) :: L, p, h => by
    rcases List.mem_cons.1 h with rfl | h
    · refine ⟨(c, cs, t), List.mem_cons_self, ?_⟩
      by_cases e : c = b <;> simp [e]
    · obtain ⟨q, hq, h3⟩ := setL_mem h
      exact ⟨q, List.mem_cons_of_mem _ hq, h3⟩
theorem setL_pair {b i : Nat} {v : Value} : ∀ {L : List (Nat × Array Value × TypeId)}, L.Pairwise (fun p q => q.1 < p.1) → (setL b i v L).Pairwise (fun p q => q.1 < p.1)
  | [], _ => .nil
  | (c, cs, t) :: L, h => by
    obtain ⟨h1, h2⟩ := List.pairwise_cons.1 h
    refine List.pairwise_cons.2 ⟨fun q hq => ?_, setL_pair h2⟩
    obtain ⟨r, hr, e, _, _⟩ := setL_mem hq
    rw [e]
    have := h1 r hr
    by_cases e : c = b <;> simpa [e] using this
theorem mem_set {w : World} {L : List (Nat × Array Value × TypeId)} (b i : Nat) (v : Value) (h : Mem w L) : Mem (w.setCell ⟨b, i, none⟩ v) (setL b i v L) := by
  refine ⟨fun p hp => ?_, setL_pair h.2⟩
  obtain ⟨q, hq, h1, h2, h3⟩ := setL_mem hp
  have hw := h.1 q hq
  rw [h1, h2, h3]
  by_cases e : q.1 = b
  · rw [if_pos e]; rw [e] at hw ⊢; simp [World.setCell, Array.getElem?_modify, hw]
  · rw [if_neg e]; exact (Below.heap_setCell w ⟨b, i, none⟩ v q.1 e).trans hw
theorem mem_drop {w : World} {L L' : List (Nat × Array Value × TypeId)} (n : Nat) (h : Mem w L) (e : L.drop n = L') : Mem w L' := by
  subst e; exact ⟨fun p hp => h.1 p (List.mem_of_mem_drop hp), h.2.sublist (List.drop_sublist n L)⟩
/-- block b is none of those of L -/
def NeL (b : Nat) : List (Nat × Array Value × TypeId) → Prop
  | [] => True
  | p :: L => ((b = p.1) = False ∧ (p.1 = b) = False ∧ p.1 < b ∧ p.1 ≤ b) ∧ NeL b L
theorem neL_of {b : Nat} : ∀ {L : List (Nat × Array Value × TypeId)}, (∀ q ∈ L, q.1 < b) → NeL b L
  | [], _ => trivial
  | p :: L, h => by
    have := h p List.mem_cons_self
    refine ⟨⟨?_, ?_, this, Nat.le_of_lt this⟩, neL_of fun q hq => h q (List.mem_cons_of_mem _ hq)⟩
    all_goals simp
    all_goals omega
/-- the same as rules for the walk -/
def MemF (w : World) : List (Nat × Array Value × TypeId) → Prop
  | [] => True
  | (b, cs, _) :: L => ((∀ o, w.cell? ⟨b, o, none⟩ = cs[o]?) ∧ (∀ o, w.frozen? ⟨b, o, none⟩ = false) ∧ b < w.heap.size ∧ b ≤ w.heap.size ∧ (∀ k, (b < w.heap.size + k) = True) ∧ (b < w.heap.size + 1 + 1) ∧ (b < w.heap.size + 1 + 1 + 1)
      ∧ (b = w.heap.size) = False ∧ (w.heap.size = b) = False ∧ (∀ k, (b = w.heap.size + k) = False) ∧ (∀ k, (w.heap.size + k = b) = False) ∧ NeL b L) ∧ MemF w L
attribute [simp] MemF setL NeL
theorem mem_facts {w : World} : ∀ {L : List (Nat × Array Value × TypeId)}, Mem w L → MemF w L
  | [], _ => trivial
  | (b, cs, t) :: L, h => by
    have hw : w.heap[b]? = some (.cells cs t (0, 0)) := h.1 (b, cs, t) List.mem_cons_self
    have hl := mem_lt hw
    obtain ⟨p1, p2⟩ := List.pairwise_cons.1 h.2
    refine ⟨⟨fun o => cell_of_row w b o cs t (0, 0) hw, fun o => by simp [World.frozen?, hw], hl, Nat.le_of_lt hl, fun k => ?_, by omega, by omega, ?_, ?_, fun k => ?_, fun k => ?_, neL_of p1⟩, mem_facts ⟨fun p hp => h.1 p (List.mem_cons_of_mem _ hp), p2⟩⟩
    all_goals simp
    all_goals omega

/-- behind a call: what was known of the walk's own blocks stands -/
theorem after_call {w W w' : World} {L : List (Nat × Array Value × TypeId)} {G : Prop} (hb : Below W.heap.size W w') (hm : Mem W L) (hB : Below w.heap.size w W) (hs : w.heap.size ≤ W.heap.size)
    (k : Mem w' L → Below w.heap.size w w' → G) : G := k (mem_below hb hm) (below_call hB hs hb)

/-- four whole numbers, the rows a, b and c, d -/
structure M where
  a : Int
  b : Int
  c : Int
  d : Int

theorem M.ext' {m n : M} (h1 : m.a = n.a) (h2 : m.b = n.b) (h3 : m.c = n.c) (h4 : m.d = n.d) : m = n := by
  cases m; cases n; cases h1; cases h2; cases h3; cases h4; rfl

def numB (x : Int) : Bool := decide (-1000000 ≤ x) && decide (x ≤ 1000000)
def inB (m : M) : Bool := numB m.a && numB m.b && numB m.c && numB m.d
/-- the product, as int wraps -/
def tm (m n : M) : M :=
  ⟨wrap64 (wrap64 (m.a * n.a) + wrap64 (m.b * n.c)), wrap64 (wrap64 (m.a * n.b) + wrap64 (m.b * n.d)),
   wrap64 (wrap64 (m.c * n.a) + wrap64 (m.d * n.c)), wrap64 (wrap64 (m.c * n.b) + wrap64 (m.d * n.d))⟩
def zm : M := ⟨0, 0, 0, 0⟩
/-- a matrix that is one, and true; else nothing -/
def ck (m : M) : M × Bool := if inB m then (m, true) else (zm, false)
def mt (m n : M) : M × Bool := if inB m && inB n then ck (tm m n) else (zm, false)
def dt (m : M) : Int := wrap64 (wrap64 (m.a * m.d) - wrap64 (m.b * m.c))
def tr (m : M) : Int := wrap64 (m.a + m.d)
def mdet (m : M) : Int × Bool := if inB m then (dt m, true) else (0, false)
def mtr (m : M) : Int × Bool := if inB m then (tr m, true) else (0, false)
def tn (m : M) : M := ⟨m.a, m.c, m.b, m.d⟩
def mtn (m : M) : M × Bool := if inB m then (tn m, true) else (zm, false)
def evB (m : M) : Bool := dt m == 1
def whB (m : M) : Bool := evB m || dt m == -1
def neg64 (x : Int) : Int := wrap64 (-x)
def mi (m : M) : M := ⟨m.d, wrap64 (-m.b), wrap64 (-m.c), m.a⟩
def mmi (m : M) : M × Bool := if inB m then (mi m, true) else (zm, false)
def unitM : M := ⟨1, 0, 0, 1⟩
/-- powers, one factor at a time; whether all of them till here are matrices -/
def pw (m : M) : Nat → M
  | 0 => unitM
  | n + 1 => tm m (pw m n)
def pok (m : M) : Nat → Bool
  | 0 => true
  | n + 1 => pok m n && inB (pw m (n + 1))
def mpw (m : M) (n : Nat) : M × Bool := if pok m n then (pw m n, true) else (zm, false)
end Go.Proofs.YtpalgnfimelioaaGreatDoor


/- Chapter 9's table of commands: what allCommands lays, how a word is looked up. No condition. -/
import Derived.Test.YtpalgnfimelioaaGreatDoorStrP
import Derived.Laws.NewBlocks
import Derived.WideMake
import Derived.Carry
namespace Go.Proofs.YtpalgnfimelioaaGreatDoor
open Go.RowKit

/-- a map whose keys are texts, as the calls lay it: the words and the functions' numbers, in order -/
def mkMap (l : List (List UInt8 × Nat)) : Array MapEntry := (l.mapIdx fun i p => ({ key := .string (tx p.1), val := .func (.func p.2) #[] #[], born := i } : MapEntry)).toArray
def findW (k : List UInt8) : List (List UInt8 × Nat) → Option Nat
  | [] => none
  | p :: l => if k = p.1 then some p.2 else findW k l
theorem same_tx (k l : List UInt8) : Instr.sameNow .string (.string (tx k)) (.string (tx l)) = some (decide (k = l)) := by
  show some ((tx k).data == (tx l).data) = _
  congr 1
  by_cases h : k = l
  · subst h; simp
  · simp [tx, h]
theorem find_tx (k : List UInt8) : ∀ (l : List (List UInt8 × Nat)) (f : Nat → Nat) (i : Nat),
    ∃ j, Instr.findNow .string (.string (tx k)) (l.mapIdx fun i p => ({ key := .string (tx p.1), val := .func (.func p.2) #[] #[], born := f i } : MapEntry)) i = some ((findW k l).map fun n => (j, .func (.func n) #[] #[]))
  | [], f, i => ⟨0, rfl⟩
  | p :: l, f, i => by
    simp only [List.mapIdx_cons, Instr.findNow, same_tx, findW]
    by_cases h : k = p.1
    · exact ⟨i, by simp [h]⟩
    · obtain ⟨j, hj⟩ := find_tx k l (fun n => f (n + 1)) (i + 1)
      exact ⟨j, by simp [h]; exact hj⟩
section
variable {P : Program} {t kt et : TypeId}
theorem run_put (hm : P.underlying t = some (.map kt et)) (hk : P.underlying kt = some .string) (w : World) (l : List (List UInt8 × Nat)) (k : List UInt8) (n : Nat) (hn : findW k l = none) :
    (Instr.mapUpdate t (.map (some w.heap.size)) (.string (tx k)) (.func (.func n) #[] #[])).run P (w.alloc (.map (mkMap l) l.length)) = .ok () (w.alloc (.map (mkMap (l ++ [(k, n)])) (l ++ [(k, n)]).length)) := by
  have hb : (w.alloc (.map (mkMap l) l.length)).heap[w.heap.size]? = some (.map (mkMap l) l.length) := World.alloc_heap_new w _
  obtain ⟨j, hj⟩ := find_tx k l id 0
  rw [hn] at hj
  have hf : Instr.findNow .string (.string (tx k)) (mkMap l).toList 0 = some none := by simpa [mkMap] using hj
  have hc : (Instr.checkKey false 10000 kt (.string (tx k))).run P (w.alloc (.map (mkMap l) l.length)) = .ok () _ := MapKept.run_checkKey (k := .string (tx k)) hk (by simp [MapKept.IsKey]) false 9999
  simp [Instr.mapUpdate, run_underlying hm, MapKept.run_getObj_map hb, hc, MapKept.run_findKey hk hf, MapKept.run_setObj_map _ hb, Result.andThen]
  have e : ∀ a b : Obj, (w.heap.push a).setIfInBounds w.heap.size b = w.heap.push b := fun a b => by apply Array.ext'; simp
  rw [← World.alloc_eq, ← World.alloc_eq]
  simp [mkMap, List.mapIdx_append, e]
theorem run_look (hm : P.underlying t = some (.map kt et)) (hk : P.underlying kt = some .string) (hz : ∀ w, (zeroValue et).run P w = .ok (.nilFunc) w) (w : World) (b : Nat) (l : List (List UInt8 × Nat)) (c : Nat) (k : List UInt8)
    (hb : w.heap[b]? = some (.map (mkMap l) c)) :
    (Instr.lookup t (.map (some b)) (.string (tx k)) true).run P w = .ok (match findW k l with | some n => .tuple #[.func (.func n) #[] #[], .bool true] | none => .tuple #[.nilFunc, .bool false]) w := by
  obtain ⟨j, hj⟩ := find_tx k l id 0
  have hf : Instr.findNow .string (.string (tx k)) (mkMap l).toList 0 = some ((findW k l).map fun n => (j, .func (.func n) #[] #[])) := by simpa [mkMap] using hj
  have hc : ∀ e, (Instr.checkKey e 10000 kt (.string (tx k))).run P w = .ok () w := fun e => MapKept.run_checkKey (k := .string (tx k)) hk (by simp [MapKept.IsKey]) e 9999
  cases h : findW k l with
  | none =>
    rw [h] at hf
    simp [Instr.lookup, run_underlying hm, MapKept.run_getObj_map hb, hc, MapKept.run_findKey hk hf, Result.andThen, hz]
  | some n =>
    rw [h] at hf
    simp [Instr.lookup, run_underlying hm, MapKept.run_getObj_map hb, hc, MapKept.run_findKey hk hf, Result.andThen]
end
/-- the map as an object -/
def mapO (l : List (List UInt8 × Nat)) : Obj := .map (mkMap l) l.length
def aloneL : List (List UInt8 × Nat) :=
  [([116, 117, 114, 110, 101, 100], 44), ([98, 97, 99, 107], 45), ([109, 105, 114, 114, 111, 114], 46), ([102, 111, 114, 109], 47), ([115, 104, 111, 119], 48), ([100, 101, 116], 49),
   ([116, 114, 97, 99, 101], 31), ([108, 101, 116, 116, 101, 114, 115], 50), ([116, 117, 114, 110, 115], 51), ([111, 114, 100, 101, 114], 52), ([110, 101, 99, 107, 108, 97, 99, 101], 53), ([100, 111, 117, 98, 108, 101], 54)]
def restedL : List (List UInt8 × Nat) :=
  [([109, 97, 116], 55), ([119, 111, 114, 100], 56), ([108, 105, 115, 116], 57), ([116, 105, 109, 101, 115], 58), ([112, 111, 119, 101, 114], 59), ([114, 101, 115, 116, 115], 60), ([109, 111, 118, 101], 61), ([116, 111], 62),
   ([110, 101, 99, 107, 108, 97, 99, 101, 115], 63), ([112, 101, 114, 105, 111, 100], 64), ([111, 114, 98, 105, 116, 115], 65), ([104, 97, 115], 66), ([103, 99, 100], 67), ([102, 111, 114, 109, 115], 68), ([115, 104, 111, 114, 116], 69)]
/-- the two maps lie in blocks p and q -/
def MapsAt (p q : Nat) (w : World) : Prop := w.heap[p]? = some (mapO aloneL) ∧ w.heap[q]? = some (mapO restedL)
set_option maxHeartbeats 4000000 in
set_option maxRecDepth 100000 in
theorem allCommands_ (w : World) : Calls Tryz.prog 26 #[] w fun e w' => ∃ p q, e = .returned (.agg #[.map (some p), .map (some q)]) ∧ MapsAt p q w' ∧ w.heap.size ≤ p ∧ w.heap.size ≤ q ∧ Below w.heap.size w w' := by
  have hm1 : ∀ w, (Instr.makeMap 47 none).run Tryz.prog w = .ok (.map (some w.heap.size)) (w.alloc (mapO [])) := fun w => rfl
  have hm2 : ∀ w, (Instr.makeMap 48 none).run Tryz.prog w = .ok (.map (some w.heap.size)) (w.alloc (mapO [])) := fun w => rfl
  have hp1 : ∀ (w : World) (b : Nat) (l : List (List UInt8 × Nat)) (k : List UInt8) (n : Nat), b = w.heap.size → findW k l = none → (Instr.mapUpdate 47 (.map (some b)) (.string ⟨k.toArray⟩) (.func (.func n) #[] #[])).run Tryz.prog (w.alloc (mapO l)) = .ok () (w.alloc (mapO (l ++ [(k, n)]))) :=
    fun w b l k n e h => by subst e; exact run_put Tryz.underlying47 Tryz.underlying9 w l k n h
  have hp2 : ∀ (w : World) (b : Nat) (l : List (List UInt8 × Nat)) (k : List UInt8) (n : Nat), b = w.heap.size → findW k l = none → (Instr.mapUpdate 48 (.map (some b)) (.string ⟨k.toArray⟩) (.func (.func n) #[] #[])).run Tryz.prog (w.alloc (mapO l)) = .ok () (w.alloc (mapO (l ++ [(k, n)]))) :=
    fun w b l k n e h => by subst e; exact run_put Tryz.underlying48 Tryz.underlying9 w l k n h
  have hf0 : ∀ k, findW k [] = none := fun _ => rfl
  have hf1 : ∀ k p l, findW k (p :: l) = if k = p.1 then some p.2 else findW k l := fun _ _ _ => rfl
  have hM := mem_nil w; have hB := Below.refl w.heap.size w; have hC := True.intro
  go_enter Tryz.func26, Tryz.ntmps26
  go_wp2
  go_returns
  refine ⟨w.heap.size + 1, w.heap.size + 1 + 1, rfl, ⟨?_, ?_⟩, by omega, by omega, by (repeat' (first | (with_reducible exact hB) | (with_reducible exact Below.refl _ _) | (with_reducible refine Below.alloc ?_ ?_ _) | (with_reducible refine Below.setCell ?_ ?_ _) | (with_reducible refine Below.drew ?_) | (with_reducible refine below_drewN ?_ _) | (with_reducible exact Nat.le_refl _) | (with_reducible exact hB.size) | (simp [go_sem]; done) | (have := hB.size; simp [go_sem]; omega)))⟩
  · refine (Below.heap_alloc _ _ _ (by simp)).trans ?_
    have := World.alloc_heap_new (w.alloc (.cells #[.map (some (w.heap.size + 1)), .map (some (w.heap.size + 1 + 1))] 50)) (mapO aloneL)
    rwa [World.size_alloc] at this
  · have := World.alloc_heap_new ((w.alloc (.cells #[.map (some (w.heap.size + 1)), .map (some (w.heap.size + 1 + 1))] 50)).alloc (mapO aloneL)) (mapO restedL)
    rwa [World.size_alloc, World.size_alloc] at this
theorem MapsAt.below {p q : Nat} {w w' : World} (h : MapsAt p q w) (hb : Below w.heap.size w w') : MapsAt p q w' :=
  ⟨(hb.block p (mem_lt h.1)).trans h.1, (hb.block q (mem_lt h.2)).trans h.2⟩
end Go.Proofs.YtpalgnfimelioaaGreatDoor

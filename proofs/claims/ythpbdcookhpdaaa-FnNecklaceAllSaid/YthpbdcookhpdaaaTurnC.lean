
/- A list of whole numbers copied by the laws, walked. No condition. -/
import Derived.Test.YthpbdcookhpdaaaTurnR
import Derived.Test.YthpbdcookhpdaaaInts
import Derived.Deep.OwnRows
namespace Go.Proofs.Ythpbdcookhpdaaa
open Go.RowKit

theorem IntRow.rdO {base : Nat} {W : World} {v : Value} {zs : List Int} (h : IntRow base W v zs) : RdO W v zs := by
  have h' := h
  rcases h.2 with ⟨rfl, h0⟩ | ⟨g, cap, cur, rfl, _, _, hc, _⟩
  · have : zs = [] := by simpa using h0
    subst this
    exact ⟨none, 0, rfl, Nat.le_refl _, fun j hj => absurd hj (by simp)⟩
  · refine ⟨some ⟨g, 0, none⟩, cap, by rw [List.length_map], by simpa using hc, fun j hj => ⟨g, 0, rfl, ?_⟩⟩
    rw [Nat.zero_add, h'.cellAt j (by simpa using hj)]
    simp [List.getD, hj]
/-- a copy of k numbers, the others still 0 -/
def cpy (zs : List Int) (k : Nat) : List Int := zs.take k ++ List.replicate (zs.length - k) 0
theorem cpy_len (zs : List Int) {k : Nat} (h : k ≤ zs.length) : (cpy zs k).length = zs.length := by simp [cpy]; omega
theorem cpy_step {zs : List Int} {k : Nat} (h : k < zs.length) : ((cpy zs k).map (Value.int .i64)).set k (Value.int .i64 (zs.getD k 0)) = (cpy zs (k + 1)).map (Value.int .i64) := by
  have e : zs.take (k + 1) = zs.take k ++ [zs.getD k 0] := by rw [List.take_succ_eq_append_getElem h]; simp [List.getD, h]
  have hl : ((zs.take k).map (Value.int .i64)).length = k := by simp; omega
  rw [cpy, cpy, List.map_append, List.set_append_right _ _ (by omega), hl, Nat.sub_self, show zs.length - k = (zs.length - (k + 1)) + 1 from by omega, List.replicate_succ, e]
  simp only [List.map_append, List.map_cons, List.set_cons_zero, List.append_assoc, List.cons_append, List.nil_append]
theorem cpy_end (zs : List Int) : cpy zs zs.length = zs := by simp [cpy]
/-- the cells of a slice that holds just the numbers zs -/
def ics (zs : List Int) : Array Value := (zs.map (Value.int .i64)).toArray
theorem ics_get (zs : List Int) {j : Nat} (h : j < zs.length) : (ics zs)[j]? = some (.int .i64 (zs.getD j 0)) := by simp [ics, List.getD, h]
theorem rdO_mem {W : World} {L : List (Nat × Array Value × TypeId)} {g : Nat} {zs : List Int} {t : TypeId} (h : Mem W L) (hin : (g, ics zs, t) ∈ L) : RdO W (.slice (some ⟨g, 0, none⟩) zs.length zs.length) zs := by
  refine ⟨_, _, rfl, Nat.le_refl _, fun j hj => ⟨g, 0, rfl, ?_⟩⟩
  rw [Nat.zero_add, cell_of_row W g j _ _ _ (h.1 _ hin), ics_get zs hj]
theorem readsI_mem {W : World} {L : List (Nat × Array Value × TypeId)} {g : Nat} {zs : List Int} {t : TypeId} (h : Mem W L) (hin : (g, ics zs, t) ∈ L) : ReadsI W (.slice (some ⟨g, 0, none⟩) zs.length zs.length) zs := by
  refine ⟨_, _, rfl, fun j hj => ⟨g, rfl, ?_⟩⟩
  rw [cell_of_row W g j _ _ _ (h.1 _ hin), ics_get zs hj]
/-- behind a call that leaves one new block of its own, the first one that it made -/
theorem after_new {w W w' : World} {L : List (Nat × Array Value × TypeId)} {cs : Array Value} {t : TypeId} {G : Prop} (hb : Below W.heap.size W w') (hn : w'.heap[W.heap.size]? = some (.cells cs t (0, 0))) (hm : Mem W L) (hB : Below w.heap.size w W) (hs : w.heap.size ≤ W.heap.size)
    (k : Mem w' ((W.heap.size, cs, t) :: L) → Below w.heap.size w w' → G) : G := by
  refine k ⟨fun p hp => ?_, List.pairwise_cons.2 ⟨fun q hq => mem_lt (hm.1 q hq), hm.2⟩⟩ (below_call hB hs hb)
  rcases List.mem_cons.1 hp with rfl | hp
  · exact hn
  · exact (mem_below hb hm).1 p hp
/-- a new slice with the numbers zs, in the first new block -/
def NewI (w : World) (zs : List Int) (e : Ending) (W' : World) : Prop := e = .returned (.slice (some ⟨w.heap.size, 0, none⟩) zs.length zs.length) ∧ W'.heap[w.heap.size]? = some (.cells (ics zs) 3 (0, 0)) ∧ Below w.heap.size w W'
theorem row_new {base g : Nat} {W : World} {zs : List Int} (h : IntRow base W (.slice (some ⟨g, 0, none⟩) zs.length zs.length) zs) : W.heap[g]? = some (.cells (ics zs) 3 (0, 0)) := by
  rcases h.2 with ⟨h1, _⟩ | ⟨g', cap, cur, h1, _, h2, _, _, h5, h6⟩
  · simp at h1
  · simp at h1
    obtain ⟨rfl, rfl⟩ := h1
    rw [List.take_of_length_le (by simp; omega)] at h6
    rw [h2, ics, ← h6]
end Go.Proofs.Ythpbdcookhpdaaa

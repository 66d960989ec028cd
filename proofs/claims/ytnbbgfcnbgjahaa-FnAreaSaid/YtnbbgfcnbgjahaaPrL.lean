
/- Lists of pairs in memory of the call's own: how they lie, appended to, beside each other. No condition. -/
import Derived.Test.YtnbbgfcnbgjahaaShH
import Derived.Deep.AppendLies
namespace Go.Proofs.Ytnbbgfcnbgjahaa
open Go.RowKit

def c2 (p : Pr2) : List Value := [.int .i64 p.x, .int .i64 p.y]
def cs2 (ps : List Pr2) : List Value := ps.flatMap c2
theorem cs2_len (ps : List Pr2) : (cs2 ps).length = ps.length * 2 := by
  induction ps with
  | nil => rfl
  | cons m ms ih => simp only [cs2, List.flatMap_cons, List.length_append, List.length_cons] at ih ⊢; rw [ih]; simp [c2]; omega
theorem cs2_append (xs ys : List Pr2) : cs2 (xs ++ ys) = cs2 xs ++ cs2 ys := by simp [cs2]
theorem cs2_get : ∀ {ps : List Pr2} {k : Nat}, k < ps.length → ∀ i, i < 2 → (cs2 ps)[k * 2 + i]? = (c2 (atP ps k))[i]?
  | m :: ms, 0, _, i, hi => by
    simp only [cs2, List.flatMap_cons, Nat.zero_mul, Nat.zero_add]
    rw [List.getElem?_append_left (by simp [c2]; omega)]
    rfl
  | m :: ms, k + 1, h, i, hi => by
    have := cs2_get (ps := ms) (k := k) (by simpa using h) i hi
    simp only [cs2, List.flatMap_cons]
    rw [List.getElem?_append_right (by simp [c2]; omega)]
    have e : (k + 1) * 2 + i - (c2 m).length = k * 2 + i := by simp [c2]; omega
    rw [e]
    exact this
theorem infoPair : (Try.prog.info? 24).map (fun i => (i.zero, i.size, i.bytes)) = some (some (.agg #[.int .i64 0, .int .i64 0]), 2, 16) := by kernel_rfl
theorem info_parts2 {o : Option TypeInfo} {z : Option Value} {s b : Nat} (h : o.map (fun i => (i.zero, i.size, i.bytes)) = some (z, s, b)) : ∃ i, o = some i ∧ i.zero = z ∧ i.size = s ∧ i.bytes = b := by
  cases o with
  | none => cases h
  | some i => simp only [Option.map_some, Option.some.injEq, Prod.mk.injEq] at h; exact ⟨i, rfl, h.1, h.2.1, h.2.2⟩
/-- a slice of pairs of the call's own -/
def PRow (base : Nat) (W : World) (v : Value) (ps : List Pr2) : Prop := W.ownsRow base 24 2 v ps.length (cs2 ps)
theorem row_form2 {W : World} {base : Nat} {e : TypeId} {k : Nat} {v : Value} {xs : List Value} (h : W.ownsRow base e 2 v k xs) : ∃ ao cap, v = .slice ao k cap := by
  rcases h.2 with ⟨rfl, rfl⟩ | ⟨g, cap, cur, rfl, _⟩
  · exact ⟨none, 0, rfl⟩
  · exact ⟨_, cap, rfl⟩
theorem row_cell2 {base g n cap : Nat} {W : World} {ps : List Pr2} (h : W.ownsRow base 24 2 (.slice (some ⟨g, 0, none⟩) n cap) n (cs2 ps)) {j : Nat} (hj : j < n) (hn : n = ps.length) : Cell2 W g (j * 2) (atP ps j) := by
  subst hn
  have e := fun i hi => (h.cellAt (j * 2 + i) (by omega)).trans (cs2_get hj i hi)
  exact ⟨e 0 (by decide), e 1 (by decide)⟩
theorem row_reads2 {base n : Nat} {W : World} {v : Value} {ps : List Pr2} (h : W.ownsRow base 24 2 v n (cs2 ps)) (hn : n = ps.length) : ReadsP W v ps := by
  subst hn
  have h' := h
  rcases h.2 with ⟨rfl, h0⟩ | ⟨g, cap, cur, rfl, _⟩
  · have : ps = [] := by simpa using h0
    subst this
    exact ⟨none, 0, rfl, fun j hj => absurd hj (by simp)⟩
  · exact ⟨some ⟨g, 0, none⟩, cap, rfl, fun j hj => ⟨g, rfl, row_cell2 h' hj rfl⟩⟩
theorem cell_two_new (w : World) (a b : Value) (t : TypeId) : ∀ j u, [a, b][j]? = some u → (w.alloc (.cells #[a, b] t)).cell? ((⟨w.heap.size, 0, none⟩ : Addr).add j) = some u := by
  intro j u h
  match j, h with
  | 0, h => simpa [go_sem, Addr.add] using h
  | 1, h => simpa [go_sem, Addr.add] using h
  | j + 2, h => simp at h
theorem row_mt2 {W : World} {base g : Nat} (h : W.heap[g]? = some (.cells #[] 24 (0, 0))) (hb : base ≤ g) : W.ownsRow base 24 2 (.slice (some ⟨g, 0, none⟩) 0 0) 0 [] :=
  ⟨rfl, .inr ⟨g, 0, #[], rfl, hb, h, Nat.le_refl _, Nat.zero_le _, rfl, rfl⟩⟩
theorem row_cur2 {W : World} {base g n cap : Nat} {e : TypeId} {xs : List Value} (h : W.ownsRow base e 2 (.slice (some ⟨g, 0, none⟩) n cap) n xs) :
    ∃ cur, W.heap[g]? = some (.cells cur e (0, 0)) ∧ base ≤ g ∧ ∀ W' : World, W'.heap[g]? = some (.cells cur e (0, 0)) → W'.ownsRow base e 2 (.slice (some ⟨g, 0, none⟩) n cap) n xs := by
  have h1 := h.1
  rcases h.2 with ⟨h2, _⟩ | ⟨g', cap', cur, h2, h3, h4, h5⟩
  · simp at h2
  · simp at h2
    obtain ⟨rfl, rfl⟩ := h2
    exact ⟨cur, h4, h3, fun W' hW => ⟨h1, .inr ⟨g, cap, cur, rfl, h3, hW, h5⟩⟩⟩
theorem row_other2 {base ga gb n cap : Nat} {W w1 : World} {e : TypeId} {xs : List Value} (h : W.ownsRow base e 2 (.slice (some ⟨gb, 0, none⟩) n cap) n xs) (hg : W.grownBy w1 (some ga)) (hne : ga ≠ gb) : w1.ownsRow base e 2 (.slice (some ⟨gb, 0, none⟩) n cap) n xs := by
  obtain ⟨cur, h1, h2, h3⟩ := row_cur2 h
  exact h3 w1 ((hg.block gb (mem_lt h1) (by intro e; injection e with e; exact hne e.symm)).trans h1)
end Go.Proofs.Ytnbbgfcnbgjahaa

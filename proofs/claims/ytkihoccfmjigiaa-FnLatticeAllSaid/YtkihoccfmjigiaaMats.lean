
/- What the exact laws use besides on lists of matrices: two of them compared, one of them marked, and looked at again. -/
import Derived.Test.YtkihoccfmjigiaaRow
import Derived.Test.YtkihoccfmjigiaaLawT
import Derived.Test.YtkihoccfmjigiaaHeld
namespace Go.Proofs.Ytkihoccfmjigiaa
open Go.RowKit

def c4 (m : M) : List Value := [.int .i64 m.a, .int .i64 m.b, .int .i64 m.c, .int .i64 m.d]
def cs4 (ms : List M) : List Value := ms.flatMap c4
theorem cs4_len (ms : List M) : (cs4 ms).length = ms.length * 4 := by
  induction ms with
  | nil => rfl
  | cons m ms ih => simp only [cs4, List.flatMap_cons, List.length_append, List.length_cons] at ih ⊢; rw [ih]; simp [c4]; omega
theorem cs4_append (xs ys : List M) : cs4 (xs ++ ys) = cs4 xs ++ cs4 ys := by simp [cs4]
theorem cs4_get : ∀ {ms : List M} {k : Nat}, k < ms.length → ∀ i, i < 4 → (cs4 ms)[k * 4 + i]? = (c4 (ms.getD k zm))[i]?
  | m :: ms, 0, _, i, hi => by
    simp only [cs4, List.flatMap_cons, Nat.zero_mul, Nat.zero_add]
    rw [List.getElem?_append_left (by simp [c4]; omega)]
    rfl
  | m :: ms, k + 1, h, i, hi => by
    have := cs4_get (ms := ms) (k := k) (by simpa using h) i hi
    simp only [cs4, List.flatMap_cons]
    rw [List.getElem?_append_right (by simp [c4]; omega)]
    have e : (k + 1) * 4 + i - (c4 m).length = k * 4 + i := by simp [c4]; omega
    rw [e]
    exact this
/-- a slice of matrices of the call's own -/
def MatRow (base : Nat) (W : World) (v : Value) (ms : List M) : Prop := W.ownsRow base 29 4 v ms.length (cs4 ms)
/-- the four cells of a matrix -/
def Cell4 (W : World) (g o : Nat) (m : M) : Prop := W.cell? ⟨g, o, none⟩ = some (.int .i64 m.a) ∧ W.cell? ⟨g, o + 1, none⟩ = some (.int .i64 m.b) ∧ W.cell? ⟨g, o + 2, none⟩ = some (.int .i64 m.c) ∧ W.cell? ⟨g, o + 3, none⟩ = some (.int .i64 m.d)
/-- the slice v reads as the matrices ms -/
def ReadsM (W : World) (v : Value) (ms : List M) : Prop := ∃ ao cap, v = .slice ao ms.length cap ∧ ∀ j (_ : j < ms.length), ∃ g, ao = some ⟨g, 0, none⟩ ∧ Cell4 W g (j * 4) (ms.getD j zm)
theorem row_form4 {W : World} {base : Nat} {e : TypeId} {k : Nat} {v : Value} {xs : List Value} (h : W.ownsRow base e 4 v k xs) : ∃ ao cap, v = .slice ao k cap := by
  rcases h.2 with ⟨rfl, rfl⟩ | ⟨g, cap, cur, rfl, _⟩
  · exact ⟨none, 0, rfl⟩
  · exact ⟨_, cap, rfl⟩
theorem row_cell4 {base g n cap : Nat} {W : World} {ms : List M} (h : W.ownsRow base 29 4 (.slice (some ⟨g, 0, none⟩) n cap) n (cs4 ms)) {j : Nat} (hj : j < n) (hn : n = ms.length) : Cell4 W g (j * 4) (ms.getD j zm) := by
  subst hn
  have e := fun i hi => (h.cellAt (j * 4 + i) (by omega)).trans (cs4_get hj i hi)
  exact ⟨e 0 (by decide), e 1 (by decide), e 2 (by decide), e 3 (by decide)⟩
theorem MatRow.reads {base : Nat} {W : World} {v : Value} {ms : List M} (h : MatRow base W v ms) : ReadsM W v ms := by
  have h' := h
  rcases h.2 with ⟨rfl, h0⟩ | ⟨g, cap, cur, rfl, _⟩
  · have : ms = [] := by simpa using h0
    subst this
    exact ⟨none, 0, rfl, fun j hj => absurd hj (by simp)⟩
  · exact ⟨some ⟨g, 0, none⟩, cap, rfl, fun j hj => ⟨g, rfl, row_cell4 h' hj rfl⟩⟩
theorem Cell4.below {W W' : World} {g o : Nat} {m : M} (h : Cell4 W g o m) (hb : Below W.heap.size W W') : Cell4 W' g o m := by
  obtain ⟨h1, h2, h3, h4⟩ := h
  have hl := World.block_lt_of_cell? W _ h1
  exact ⟨by rw [hb.cell (p := ⟨g, o, none⟩) hl]; exact h1, by rw [hb.cell (p := ⟨g, o + 1, none⟩) hl]; exact h2, by rw [hb.cell (p := ⟨g, o + 2, none⟩) hl]; exact h3, by rw [hb.cell (p := ⟨g, o + 3, none⟩) hl]; exact h4⟩
theorem ReadsM.below {W W' : World} {v : Value} {ms : List M} (h : ReadsM W v ms) (hb : Below W.heap.size W W') : ReadsM W' v ms := by
  obtain ⟨ao, cap, rfl, hc⟩ := h
  refine ⟨ao, cap, rfl, fun j hj => ?_⟩
  obtain ⟨g, e, h1⟩ := hc j hj
  exact ⟨g, e, h1.below hb⟩
theorem MatRow.below {base : Nat} {W W' : World} {v : Value} {ms : List M} (h : MatRow base W v ms) (hb : Below W.heap.size W W') : MatRow base W' v ms := by
  refine h.kept (row := none) ⟨hb.os, hb.tape, hb.output, hb.size, fun k hk _ => hb.block k hk⟩ ?_
  cases hv : v.ownBlock
  · exact .inl rfl
  · exact .inr (by simp)
/-- the marks from 1 on -/
def mkM (j : Nat) : M := ⟨4 * (j : Int) + 1, 4 * (j : Int) + 2, 4 * (j : Int) + 3, 4 * (j : Int) + 4⟩
def upM (n : Nat) : List M := (List.range n).map mkM
theorem upM_len (n : Nat) : (upM n).length = n := by simp [upM]
theorem upM_get {n j : Nat} (h : j < n) : (upM n).getD j zm = mkM j := by simp [upM, List.getD, h]
theorem upM_succ (n : Nat) : upM (n + 1) = upM n ++ [mkM n] := by simp [upM, List.range_succ]
/-- four cells stored one after the other -/
theorem cs4_set {ms : List M} {k : Nat} (h : k < ms.length) : (((((cs4 (upM k ++ ms.drop k)).set (k * 4) (.int .i64 (mkM k).a)).set (k * 4 + 1) (.int .i64 (mkM k).b)).set (k * 4 + 2) (.int .i64 (mkM k).c)).set (k * 4 + 3) (.int .i64 (mkM k).d)) = cs4 (upM (k + 1) ++ ms.drop (k + 1)) := by
  have hl : (cs4 (upM k)).length = k * 4 := by rw [cs4_len, upM_len]
  rw [List.drop_eq_getElem_cons h, upM_succ, cs4_append, cs4_append, cs4_append]
  simp only [cs4, List.flatMap_cons] at hl ⊢
  rw [List.set_append_right _ _ (by omega), hl, Nat.sub_self]
  rw [List.set_append_right _ _ (by omega), hl, Nat.add_sub_cancel_left]
  rw [List.set_append_right _ _ (by omega), hl, Nat.add_sub_cancel_left]
  rw [List.set_append_right _ _ (by omega), hl, Nat.add_sub_cancel_left]
  simp [c4]
def MarkM (base : Nat) (v : Value) (n : Nat) (w : World) (e : Ending) (W' : World) : Prop := e = .returned (.int .i64 (4 * (n : Int) + 1)) ∧ MatRow base W' v (upM n) ∧ w.grownBy W' v.ownBlock
theorem grown_trans {w W W' : World} {row : Option Nat} (h1 : w.grownBy W row) (h2 : W.grownBy W' row) : w.grownBy W' row :=
  ⟨h2.os.trans h1.os, h2.tape.trans h1.tape, h2.output.trans h1.output, Nat.le_trans h1.size h2.size, fun j hj hne => (h2.block j (Nat.lt_of_lt_of_le hj h1.size) hne).trans (h1.block j hj hne)⟩
/-- a matrix of the row is stored anew -/
theorem row_mark {base g n cap : Nat} {W : World} {ms : List M} {k : Nat} (hk : k < ms.length) (hn : n = ms.length) (h : W.ownsRow base 29 4 (.slice (some ⟨g, 0, none⟩) n cap) n (cs4 (upM k ++ ms.drop k))) :
    ((((W.setCell ⟨g, k * 4, none⟩ (.int .i64 (mkM k).a)).setCell ⟨g, k * 4 + 1, none⟩ (.int .i64 (mkM k).b)).setCell ⟨g, k * 4 + 2, none⟩ (.int .i64 (mkM k).c)).setCell ⟨g, k * 4 + 3, none⟩ (.int .i64 (mkM k).d)).ownsRow base 29 4 (.slice (some ⟨g, 0, none⟩) n cap) n (cs4 (upM (k + 1) ++ ms.drop (k + 1))) ∧
    W.grownBy ((((W.setCell ⟨g, k * 4, none⟩ (.int .i64 (mkM k).a)).setCell ⟨g, k * 4 + 1, none⟩ (.int .i64 (mkM k).b)).setCell ⟨g, k * 4 + 2, none⟩ (.int .i64 (mkM k).c)).setCell ⟨g, k * 4 + 3, none⟩ (.int .i64 (mkM k).d)) (Value.slice (some ⟨g, 0, none⟩) n cap).ownBlock := by
  subst hn
  have s1 := h.stored (k * 4) (.int .i64 (mkM k).a)
  have s2 := s1.1.stored (k * 4 + 1) (.int .i64 (mkM k).b)
  have s3 := s2.1.stored (k * 4 + 2) (.int .i64 (mkM k).c)
  have s4 := s3.1.stored (k * 4 + 3) (.int .i64 (mkM k).d)
  have e := s4.1
  rw [cs4_set hk] at e
  exact ⟨e, grown_trans (grown_trans (grown_trans s1.2 s2.2) s3.2) s4.2⟩
end Go.Proofs.Ytkihoccfmjigiaa

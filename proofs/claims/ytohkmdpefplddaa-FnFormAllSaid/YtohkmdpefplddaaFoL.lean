
/- What the exact laws use besides on lists of forms: two of them compared, one of them marked, and looked at again. -/
import Derived.Test.YtohkmdpefplddaaRow
import Derived.Test.YtohkmdpefplddaaFoC
namespace Go.Proofs.Ytohkmdpefplddaa
open Go.RowKit

def c3 (m : F3) : List Value := [.int .i64 m.a, .int .i64 m.b, .int .i64 m.c]
def cs3 (ms : List F3) : List Value := ms.flatMap c3
theorem cs3_len (ms : List F3) : (cs3 ms).length = ms.length * 3 := by
  induction ms with
  | nil => rfl
  | cons m ms ih => simp only [cs3, List.flatMap_cons, List.length_append, List.length_cons] at ih ⊢; rw [ih]; simp [c3]; omega
theorem cs3_append (xs ys : List F3) : cs3 (xs ++ ys) = cs3 xs ++ cs3 ys := by simp [cs3]
theorem cs3_get : ∀ {ms : List F3} {k : Nat}, k < ms.length → ∀ i, i < 3 → (cs3 ms)[k * 3 + i]? = (c3 (ms.getD k zF))[i]?
  | m :: ms, 0, _, i, hi => by
    simp only [cs3, List.flatMap_cons, Nat.zero_mul, Nat.zero_add]
    rw [List.getElem?_append_left (by simp [c3]; omega)]
    rfl
  | m :: ms, k + 1, h, i, hi => by
    have := cs3_get (ms := ms) (k := k) (by simpa using h) i hi
    simp only [cs3, List.flatMap_cons]
    rw [List.getElem?_append_right (by simp [c3]; omega)]
    have e : (k + 1) * 3 + i - (c3 m).length = k * 3 + i := by simp [c3]; omega
    rw [e]
    exact this
/-- a slice of forms of the call's own -/
def FormRow (base : Nat) (W : World) (v : Value) (ms : List F3) : Prop := W.ownsRow base 29 3 v ms.length (cs3 ms)
/-- the three cells of a form -/
def Cell3 (W : World) (g o : Nat) (m : F3) : Prop := W.cell? ⟨g, o, none⟩ = some (.int .i64 m.a) ∧ W.cell? ⟨g, o + 1, none⟩ = some (.int .i64 m.b) ∧ W.cell? ⟨g, o + 2, none⟩ = some (.int .i64 m.c)
/-- the slice v reads as the forms ms -/
def ReadsF (W : World) (v : Value) (ms : List F3) : Prop := ∃ ao cap, v = .slice ao ms.length cap ∧ ∀ j (_ : j < ms.length), ∃ g, ao = some ⟨g, 0, none⟩ ∧ Cell3 W g (j * 3) (ms.getD j zF)
theorem row_form3 {W : World} {base : Nat} {e : TypeId} {k : Nat} {v : Value} {xs : List Value} (h : W.ownsRow base e 3 v k xs) : ∃ ao cap, v = .slice ao k cap := by
  rcases h.2 with ⟨rfl, rfl⟩ | ⟨g, cap, cur, rfl, _⟩
  · exact ⟨none, 0, rfl⟩
  · exact ⟨_, cap, rfl⟩
theorem row_cell3 {base g n cap : Nat} {W : World} {ms : List F3} (h : W.ownsRow base 29 3 (.slice (some ⟨g, 0, none⟩) n cap) n (cs3 ms)) {j : Nat} (hj : j < n) (hn : n = ms.length) : Cell3 W g (j * 3) (ms.getD j zF) := by
  subst hn
  have e := fun i hi => (h.cellAt (j * 3 + i) (by omega)).trans (cs3_get hj i hi)
  exact ⟨e 0 (by decide), e 1 (by decide), e 2 (by decide)⟩
theorem FormRow.reads {base : Nat} {W : World} {v : Value} {ms : List F3} (h : FormRow base W v ms) : ReadsF W v ms := by
  have h' := h
  rcases h.2 with ⟨rfl, h0⟩ | ⟨g, cap, cur, rfl, _⟩
  · have : ms = [] := by simpa using h0
    subst this
    exact ⟨none, 0, rfl, fun j hj => absurd hj (by simp)⟩
  · exact ⟨some ⟨g, 0, none⟩, cap, rfl, fun j hj => ⟨g, rfl, row_cell3 h' hj rfl⟩⟩
theorem Cell3.below {W W' : World} {g o : Nat} {m : F3} (h : Cell3 W g o m) (hb : Below W.heap.size W W') : Cell3 W' g o m := by
  obtain ⟨h1, h2, h3⟩ := h
  have hl := World.block_lt_of_cell? W _ h1
  exact ⟨by rw [hb.cell (p := ⟨g, o, none⟩) hl]; exact h1, by rw [hb.cell (p := ⟨g, o + 1, none⟩) hl]; exact h2, by rw [hb.cell (p := ⟨g, o + 2, none⟩) hl]; exact h3⟩
theorem ReadsF.below {W W' : World} {v : Value} {ms : List F3} (h : ReadsF W v ms) (hb : Below W.heap.size W W') : ReadsF W' v ms := by
  obtain ⟨ao, cap, rfl, hc⟩ := h
  refine ⟨ao, cap, rfl, fun j hj => ?_⟩
  obtain ⟨g, e, h1⟩ := hc j hj
  exact ⟨g, e, h1.below hb⟩
theorem FormRow.below {base : Nat} {W W' : World} {v : Value} {ms : List F3} (h : FormRow base W v ms) (hb : Below W.heap.size W W') : FormRow base W' v ms := by
  refine h.kept (row := none) ⟨hb.os, hb.tape, hb.output, hb.size, fun k hk _ => hb.block k hk⟩ ?_
  cases hv : v.ownBlock
  · exact .inl rfl
  · exact .inr (by simp)
/-- the marks from 1 on -/
def mkF (j : Nat) : F3 := ⟨3 * (j : Int) + 1, 3 * (j : Int) + 2, 3 * (j : Int) + 3⟩
def upF (n : Nat) : List F3 := (List.range n).map mkF
theorem upF_len (n : Nat) : (upF n).length = n := by simp [upF]
theorem upF_get {n j : Nat} (h : j < n) : (upF n).getD j zF = mkF j := by simp [upF, List.getD, h]
theorem upF_succ (n : Nat) : upF (n + 1) = upF n ++ [mkF n] := by simp [upF, List.range_succ]
/-- three cells stored one after the other -/
theorem cs3_set {ms : List F3} {k : Nat} (h : k < ms.length) : ((((cs3 (upF k ++ ms.drop k)).set (k * 3) (.int .i64 (mkF k).a)).set (k * 3 + 1) (.int .i64 (mkF k).b)).set (k * 3 + 2) (.int .i64 (mkF k).c)) = cs3 (upF (k + 1) ++ ms.drop (k + 1)) := by
  have hl : (cs3 (upF k)).length = k * 3 := by rw [cs3_len, upF_len]
  rw [List.drop_eq_getElem_cons h, upF_succ, cs3_append, cs3_append, cs3_append]
  simp only [cs3, List.flatMap_cons] at hl ⊢
  rw [List.set_append_right _ _ (by omega), hl, Nat.sub_self]
  rw [List.set_append_right _ _ (by omega), hl, Nat.add_sub_cancel_left]
  rw [List.set_append_right _ _ (by omega), hl, Nat.add_sub_cancel_left]
  simp [c3]
def MarkF (base : Nat) (v : Value) (n : Nat) (w : World) (e : Ending) (W' : World) : Prop := e = .returned (.int .i64 (3 * (n : Int) + 1)) ∧ FormRow base W' v (upF n) ∧ w.grownBy W' v.ownBlock
theorem grownF_trans {w W W' : World} {row : Option Nat} (h1 : w.grownBy W row) (h2 : W.grownBy W' row) : w.grownBy W' row :=
  ⟨h2.os.trans h1.os, h2.tape.trans h1.tape, h2.output.trans h1.output, Nat.le_trans h1.size h2.size, fun j hj hne => (h2.block j (Nat.lt_of_lt_of_le hj h1.size) hne).trans (h1.block j hj hne)⟩
/-- a form of the row is stored anew -/
theorem row_markF {base g n cap : Nat} {W : World} {ms : List F3} {k : Nat} (hk : k < ms.length) (hn : n = ms.length) (h : W.ownsRow base 29 3 (.slice (some ⟨g, 0, none⟩) n cap) n (cs3 (upF k ++ ms.drop k))) :
    (((W.setCell ⟨g, k * 3, none⟩ (.int .i64 (mkF k).a)).setCell ⟨g, k * 3 + 1, none⟩ (.int .i64 (mkF k).b)).setCell ⟨g, k * 3 + 2, none⟩ (.int .i64 (mkF k).c)).ownsRow base 29 3 (.slice (some ⟨g, 0, none⟩) n cap) n (cs3 (upF (k + 1) ++ ms.drop (k + 1))) ∧
    W.grownBy (((W.setCell ⟨g, k * 3, none⟩ (.int .i64 (mkF k).a)).setCell ⟨g, k * 3 + 1, none⟩ (.int .i64 (mkF k).b)).setCell ⟨g, k * 3 + 2, none⟩ (.int .i64 (mkF k).c)) (Value.slice (some ⟨g, 0, none⟩) n cap).ownBlock := by
  subst hn
  have s1 := h.stored (k * 3) (.int .i64 (mkF k).a)
  have s2 := s1.1.stored (k * 3 + 1) (.int .i64 (mkF k).b)
  have s3 := s2.1.stored (k * 3 + 2) (.int .i64 (mkF k).c)
  have e := s3.1
  rw [cs3_set hk] at e
  exact ⟨e, grownF_trans (grownF_trans s1.2 s2.2) s3.2⟩
end Go.Proofs.Ytohkmdpefplddaa

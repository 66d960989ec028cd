
/- What the exact laws use besides on lists of forms: two of them compared, one of them marked, and looked at again. -/
import Derived.Test.YtflcgokibpimlaaRow
import Derived.Test.YtflcgokibpimlaaFoC
namespace Go.Proofs.Ytflcgokibpimlaa
open Go.RowKit

theorem toForm_ (a b c : Int) (w : World) : Calls Try.prog 12 #[.agg #[.int .i64 a, .int .i64 b, .int .i64 c]] w (fun E' W' => E' = .returned (.agg #[.int .i64 a, .int .i64 b, .int .i64 c]) ∧ Below w.heap.size w W') := by
  have hM := mem_nil w; have hB := Below.refl w.heap.size w; have hC := True.intro
  go_enter Try.func12, Try.ntmps12
  go_wp2
  refine bodyPost_ret (by (simp [results, Try.results12, go_sem, *]; try rfl)) rfl ?_
  exact ⟨rfl, by (repeat' (first | (with_reducible exact hB) | (with_reducible exact Below.refl _ _) | (with_reducible refine Below.alloc ?_ ?_ _) | (with_reducible refine Below.setCell ?_ ?_ _) | (with_reducible refine Below.drew ?_) | (with_reducible refine below_drewN ?_ _) | (with_reducible exact Nat.le_refl _) | (with_reducible exact hB.size) | (simp [go_sem]; done) | (have := hB.size; simp [go_sem]; omega)))⟩
theorem eqForm_same (a b c : Int) (w : World) : Calls Try.prog 21 #[.agg #[.int .i64 a, .int .i64 b, .int .i64 c], .agg #[.int .i64 a, .int .i64 b, .int .i64 c]] w (fun E' W' => E' = .returned (.bool true) ∧ Below w.heap.size w W') := by
  have hM := mem_nil w; have hB := Below.refl w.heap.size w; have hC := True.intro
  go_enter Try.func21, Try.ntmps21
  go_wp2
  go_ret
  exact ⟨rfl, by (repeat' (first | (with_reducible exact hB) | (with_reducible exact Below.refl _ _) | (with_reducible refine Below.alloc ?_ ?_ _) | (with_reducible refine Below.setCell ?_ ?_ _) | (with_reducible refine Below.drew ?_) | (with_reducible refine below_drewN ?_ _) | (with_reducible exact Nat.le_refl _) | (with_reducible exact hB.size) | (simp [go_sem]; done) | (have := hB.size; simp [go_sem]; omega)))⟩
def c3 (m : F3) : List Value := [.int .i64 m.a, .int .i64 m.b, .int .i64 m.c]
def cs3 (ms : List F3) : List Value := ms.flatMap c3
theorem cs3_len (ms : List F3) : (cs3 ms).length = ms.length * 3 := by
  induction ms with
  | nil => rfl
  | cons m ms ih => simp only [cs3, List.flatMap_cons, List.length_append, List.length_cons] at ih ⊢; rw [ih]; simp [c3]; omega
theorem cs3_append (xs ys : List F3) : cs3 (xs ++ ys) = cs3 xs ++ cs3 ys := by simp [cs3]
theorem cs3_get : ∀ {ms : List F3} {k : Nat}, k < ms.length → ∀ i, i < 3 → (cs3 ms)[k * 3 + i]? = (c3 (ms.getD k zF))[i]?
  | m :: ms, 0, _, i, hi => by
    simp only [cs3, List.flatMap_cons, Nat.zero_mul, Nat.zero_add]
    rw [List.getElem?_append_left (by simp [c3]; omega)]
    rfl
  | m :: ms, k + 1, h, i, hi => by
    have := cs3_get (ms := ms) (k := k) (by simpa using h) i hi
    simp only [cs3, List.flatMap_cons]
    rw [List.getElem?_append_right (by simp [c3]; omega)]
    have e : (k + 1) * 3 + i - (c3 m).length = k * 3 + i := by simp [c3]; omega
    rw [e]
    exact this
/-- a slice of forms of the call's own -/
def FormRow (base : Nat) (W : World) (v : Value) (ms : List F3) : Prop := W.ownsRow base 25 3 v ms.length (cs3 ms)
/-- the three cells of a form -/
def Cell3 (W : World) (g o : Nat) (m : F3) : Prop := W.cell? ⟨g, o, none⟩ = some (.int .i64 m.a) ∧ W.cell? ⟨g, o + 1, none⟩ = some (.int .i64 m.b) ∧ W.cell? ⟨g, o + 2, none⟩ = some (.int .i64 m.c)
/-- the slice v reads as the forms ms -/
def ReadsF (W : World) (v : Value) (ms : List F3) : Prop := ∃ ao cap, v = .slice ao ms.length cap ∧ ∀ j (_ : j < ms.length), ∃ g, ao = some ⟨g, 0, none⟩ ∧ Cell3 W g (j * 3) (ms.getD j zF)
theorem row_form3 {W : World} {base : Nat} {e : TypeId} {k : Nat} {v : Value} {xs : List Value} (h : W.ownsRow base e 3 v k xs) : ∃ ao cap, v = .slice ao k cap := by
  rcases h.2 with ⟨rfl, rfl⟩ | ⟨g, cap, cur, rfl, _⟩
  · exact ⟨none, 0, rfl⟩
  · exact ⟨_, cap, rfl⟩
theorem row_cell3 {base g n cap : Nat} {W : World} {ms : List F3} (h : W.ownsRow base 25 3 (.slice (some ⟨g, 0, none⟩) n cap) n (cs3 ms)) {j : Nat} (hj : j < n) (hn : n = ms.length) : Cell3 W g (j * 3) (ms.getD j zF) := by
  subst hn
  have e := fun i hi => (h.cellAt (j * 3 + i) (by omega)).trans (cs3_get hj i hi)
  exact ⟨e 0 (by decide), e 1 (by decide), e 2 (by decide)⟩
theorem FormRow.reads {base : Nat} {W : World} {v : Value} {ms : List F3} (h : FormRow base W v ms) : ReadsF W v ms := by
  have h' := h
  rcases h.2 with ⟨rfl, h0⟩ | ⟨g, cap, cur, rfl, _⟩
  · have : ms = [] := by simpa using h0
    subst this
    exact ⟨none, 0, rfl, fun j hj => absurd hj (by simp)⟩
  · exact ⟨some ⟨g, 0, none⟩, cap, rfl, fun j hj => ⟨g, rfl, row_cell3 h' hj rfl⟩⟩
theorem Cell3.below {W W' : World} {g o : Nat} {m : F3} (h : Cell3 W g o m) (hb : Below W.heap.size W W') : Cell3 W' g o m := by
  obtain ⟨h1, h2, h3⟩ := h
  have hl := World.block_lt_of_cell? W _ h1
  exact ⟨by rw [hb.cell (p := ⟨g, o, none⟩) hl]; exact h1, by rw [hb.cell (p := ⟨g, o + 1, none⟩) hl]; exact h2, by rw [hb.cell (p := ⟨g, o + 2, none⟩) hl]; exact h3⟩
theorem ReadsF.below {W W' : World} {v : Value} {ms : List F3} (h : ReadsF W v ms) (hb : Below W.heap.size W W') : ReadsF W' v ms := by
  obtain ⟨ao, cap, rfl, hc⟩ := h
  refine ⟨ao, cap, rfl, fun j hj => ?_⟩
  obtain ⟨g, e, h1⟩ := hc j hj
  exact ⟨g, e, h1.below hb⟩
theorem FormRow.below {base : Nat} {W W' : World} {v : Value} {ms : List F3} (h : FormRow base W v ms) (hb : Below W.heap.size W W') : FormRow base W' v ms := by
  refine h.kept (row := none) ⟨hb.os, hb.tape, hb.output, hb.size, fun k hk _ => hb.block k hk⟩ ?_
  cases hv : v.ownBlock
  · exact .inl rfl
  · exact .inr (by simp)
set_option maxHeartbeats 2000000 in
theorem eqFormS_same (v u : Value) (ms : List F3) (hz : ms.length ≤ 1000000) (w : World) (hv : ReadsF w v ms) (hu : ReadsF w u ms) : Calls Try.prog 28 #[v, u] w (fun E' W' => E' = .returned (.bool true) ∧ Below w.heap.size w W') := by
  obtain ⟨ao, cap, rfl, hc⟩ := hv
  obtain ⟨bo, cap', rfl, hd⟩ := hu
  have HC := Lib.hid hc
  have HD := Lib.hid hd
  clear hc hd
  have hM := mem_nil w; have hB := Below.refl w.heap.size w; have hC := True.intro
  go_enter Try.func28, Try.ntmps28
  go_wp2
  go_loopw [5] (fun i wr => ∃ k : Nat, k ≤ ms.length ∧ i = .int .i64 k ∧ Below w.heap.size w wr) (fun i _ => ms.length - (intOf i).toNat)
  case atStart => exact ⟨0, Nat.zero_le _, rfl, by (repeat' (first | (with_reducible exact hB) | (with_reducible exact Below.refl _ _) | (with_reducible refine Below.alloc ?_ ?_ _) | (with_reducible refine Below.setCell ?_ ?_ _) | (with_reducible refine Below.drew ?_) | (with_reducible refine below_drewN ?_ _) | (with_reducible exact Nat.le_refl _) | (with_reducible exact hB.size) | (simp [go_sem]; done) | (have := hB.size; simp [go_sem]; omega)))⟩
  case round =>
    obtain ⟨k, hk, rfl, hB'⟩ := hrel
    clear hB hM hC
    have hB := hB'
    clear hB'
    by_cases hlt : k < ms.length
    · obtain ⟨g, rfl, h1⟩ := HC.out k hlt
      obtain ⟨g', rfl, h2⟩ := HD.out k hlt
      generalize ms.getD k zF = m at h1 h2
      obtain ⟨p, q, r⟩ := m
      have HQ := Lib.hid (show ∀ W' : World, Below w.heap.size w W' → (W'.cell? ⟨g, k * 3, none⟩ = some (.int .i64 p) ∧ W'.cell? ⟨g, k * 3 + 1, none⟩ = some (.int .i64 q) ∧ W'.cell? ⟨g, k * 3 + 2, none⟩ = some (.int .i64 r)) ∧ (W'.cell? ⟨g', k * 3, none⟩ = some (.int .i64 p) ∧ W'.cell? ⟨g', k * 3 + 1, none⟩ = some (.int .i64 q) ∧ W'.cell? ⟨g', k * 3 + 2, none⟩ = some (.int .i64 r)) from fun W' hb => ⟨h1.below hb, h2.below hb⟩)
      clear h1 h2
      obtain ⟨⟨a1, a2, a3⟩, b1, b2, b3⟩ := HQ.out _ hB
      have hM := mem_nil wr
      have hC := True.intro
      go_wp2_with fail
      (refine wp_region_T2 (fun W' => (W'.cell? ⟨g, k * 3, none⟩ = some (.int .i64 p) ∧ W'.cell? ⟨g, k * 3 + 1, none⟩ = some (.int .i64 q) ∧ W'.cell? ⟨g, k * 3 + 2, none⟩ = some (.int .i64 r)) ∧ (W'.cell? ⟨g', k * 3, none⟩ = some (.int .i64 p) ∧ W'.cell? ⟨g', k * 3 + 1, none⟩ = some (.int .i64 q) ∧ W'.cell? ⟨g', k * 3 + 2, none⟩ = some (.int .i64 r))) 100 (by kernel_rfl) ?_ ?_; (focus (simp [*, go_sem]; done)); intro hS)
      (refine wpT_take (i := 0) (oi := ?_) (v := ?_) hS ?_ ?_ ?_ ?_ ?_ ?_; rotate_left 2; (focus (simp only [List.getElem?_toArray, List.getElem?_cons_zero]; exact rfl)); (focus (kernel_rfl)); (focus (rfl)); (focus (intro w' hW; (try dsimp only at hW); go_simp; (try with_reducible rfl); done)); (focus (exact fun _ _ _ h => h)); (try simp only [Act.put, List.setIfInBounds_toArray, List.set_cons_zero, List.set_cons_succ])); (refine wpT_take (i := 1) (oi := ?_) (v := ?_) hS ?_ ?_ ?_ ?_ ?_ ?_; rotate_left 2; (focus (simp only [List.getElem?_toArray, List.getElem?_cons_zero, List.getElem?_cons_succ]; exact rfl)); (focus (kernel_rfl)); (focus (rfl)); (focus (intro w' hW; (try dsimp only at hW); go_simp; (try with_reducible rfl); done)); (focus (exact fun _ _ _ h => h)); (try simp only [Act.put, List.setIfInBounds_toArray, List.set_cons_zero, List.set_cons_succ])); (refine wpT_take (i := 2) (oi := ?_) (v := ?_) hS ?_ ?_ ?_ ?_ ?_ ?_; rotate_left 2; (focus (simp only [List.getElem?_toArray, List.getElem?_cons_zero, List.getElem?_cons_succ]; exact rfl)); (focus (kernel_rfl)); (focus (rfl)); (focus (intro w' hW; (try dsimp only at hW); go_simp; (try with_reducible rfl); done)); (focus (exact fun _ _ _ h => h)); (try simp only [Act.put, List.setIfInBounds_toArray, List.set_cons_zero, List.set_cons_succ])); (refine wpT_take (i := 3) (oi := ?_) (v := ?_) hS ?_ ?_ ?_ ?_ ?_ ?_; rotate_left 2; (focus (simp only [List.getElem?_toArray, List.getElem?_cons_zero, List.getElem?_cons_succ]; exact rfl)); (focus (kernel_rfl)); (focus (rfl)); (focus (intro w' hW; (try dsimp only at hW); go_simp; (try with_reducible rfl); done)); (focus (exact fun _ _ _ h => h)); (try simp only [Act.put, List.setIfInBounds_toArray, List.set_cons_zero, List.set_cons_succ])); (refine wpT_take (i := 4) (oi := ?_) (v := ?_) hS ?_ ?_ ?_ ?_ ?_ ?_; rotate_left 2; (focus (simp only [List.getElem?_toArray, List.getElem?_cons_zero, List.getElem?_cons_succ]; exact rfl)); (focus (kernel_rfl)); (focus (rfl)); (focus (intro w' hW; (try dsimp only at hW); go_simp; (try with_reducible rfl); done)); (focus (exact fun _ _ _ h => h)); (try simp only [Act.put, List.setIfInBounds_toArray, List.set_cons_zero, List.set_cons_succ])); (refine wpT_take (i := 5) (oi := ?_) (v := ?_) hS ?_ ?_ ?_ ?_ ?_ ?_; rotate_left 2; (focus (simp only [List.getElem?_toArray, List.getElem?_cons_zero, List.getElem?_cons_succ]; exact rfl)); (focus (kernel_rfl)); (focus (rfl)); (focus (intro w' hW; (try dsimp only at hW); go_simp; (try with_reducible rfl); done)); (focus (exact fun _ _ _ h => h)); (try simp only [Act.put, List.setIfInBounds_toArray, List.set_cons_zero, List.set_cons_succ])); (refine wpT_take (i := 6) (oi := ?_) (v := ?_) hS ?_ ?_ ?_ ?_ ?_ ?_; rotate_left 2; (focus (simp only [List.getElem?_toArray, List.getElem?_cons_zero, List.getElem?_cons_succ]; exact rfl)); (focus (kernel_rfl)); (focus (rfl)); (focus (intro w' hW; (try dsimp only at hW); go_simp; (try with_reducible rfl); done)); (focus (exact fun _ _ _ h => h)); (try simp only [Act.put, List.setIfInBounds_toArray, List.set_cons_zero, List.set_cons_succ])); (refine wpT_take (i := 7) (oi := ?_) (v := ?_) hS ?_ ?_ ?_ ?_ ?_ ?_; rotate_left 2; (focus (simp only [List.getElem?_toArray, List.getElem?_cons_zero, List.getElem?_cons_succ]; exact rfl)); (focus (kernel_rfl)); (focus (rfl)); (focus (intro w' hW; (try dsimp only at hW); go_simp; (try with_reducible rfl); done)); (focus (exact fun _ _ _ h => h)); (try simp only [Act.put, List.setIfInBounds_toArray, List.set_cons_zero, List.set_cons_succ]))
      (refine wpT_one (i := 8) (oi := ?_) ?_ ?_ ?_ ?_; rotate_left 1; (focus (kernel_rfl)); (focus (simp only [List.getElem?_toArray, List.getElem?_cons_zero, List.getElem?_cons_succ]; exact rfl)); (focus (rfl)); go_simp)
      (go_at_call 21; refine (eqForm_same _ _ _ _).mono ?_; rintro e w' ⟨rfl, hb⟩; apply after_call (w := w) hb; (focus ((repeat' (first | (with_reducible exact hM) | (with_reducible apply mem_alloc) | (with_reducible apply mem_set) | (with_reducible apply mem_drew) | (with_reducible apply mem_drewN))); done)); (focus ((repeat' (first | (with_reducible exact hB) | (with_reducible exact Below.refl _ _) | (with_reducible refine Below.alloc ?_ ?_ _) | (with_reducible refine Below.setCell ?_ ?_ _) | (with_reducible refine Below.drew ?_) | (with_reducible refine below_drewN ?_ _) | (with_reducible exact Nat.le_refl _) | (with_reducible exact hB.size) | (simp [go_sem]; done) | (have := hB.size; simp [go_sem]; omega))); done)); (focus ((repeat' (first | (with_reducible exact hB) | (with_reducible exact Below.refl _ _) | (with_reducible refine Below.alloc ?_ ?_ _) | (with_reducible refine Below.setCell ?_ ?_ _) | (with_reducible refine Below.drew ?_) | (with_reducible refine below_drewN ?_ _) | (with_reducible exact Nat.le_refl _) | (with_reducible exact hB.size) | (simp [go_sem]; done) | (have := hB.size; simp [go_sem]; omega))); done)); clear hM hB hb; intro hM hB; (try clear hC); have hC := mem_facts hM; simp at hC)
      have q2 := HQ.out _ hB
      (first | (with_reducible refine wpT_hold ?_ ?_; (focus (simp [*, go_sem]; done)); clear hS; intro hS; (try dsimp only at hS)) | (refine held_intro ?_ ?_; (focus (simp [*, go_sem]; done)); clear hS; intro hS))
      (refine wpT_take (i := 9) (oi := ?_) (v := ?_) hS ?_ ?_ ?_ ?_ ?_ ?_; rotate_left 2; (focus (simp only [List.getElem?_toArray, List.getElem?_cons_zero, List.getElem?_cons_succ]; exact rfl)); (focus (kernel_rfl)); (focus (rfl)); (focus (intro w' hW; (try dsimp only at hW); go_simp; (try with_reducible rfl); done)); (focus (exact fun _ _ _ h => h)); (try simp only [Act.put, List.setIfInBounds_toArray, List.set_cons_zero, List.set_cons_succ]))
      refine wpT_done (by kernel_rfl) ?_ _
      go_wp2_with fail
      go_roundw
      case rel => exact ⟨k + 1, by omega, by go_num, by (repeat' (first | (with_reducible exact hB) | (with_reducible exact Below.refl _ _) | (with_reducible refine Below.alloc ?_ ?_ _) | (with_reducible refine Below.setCell ?_ ?_ _) | (with_reducible refine Below.drew ?_) | (with_reducible refine below_drewN ?_ _) | (with_reducible exact Nat.le_refl _) | (with_reducible exact hB.size) | (simp [go_sem]; done) | (have := hB.size; simp [go_sem]; omega)))⟩
      case measure => simp [intOf]; omega
    · obtain rfl : k = ms.length := by omega
      go_wp2
      go_ret
      exact ⟨rfl, by (repeat' (first | (with_reducible exact hB) | (with_reducible exact Below.refl _ _) | (with_reducible refine Below.alloc ?_ ?_ _) | (with_reducible refine Below.setCell ?_ ?_ _) | (with_reducible refine Below.drew ?_) | (with_reducible refine below_drewN ?_ _) | (with_reducible exact Nat.le_refl _) | (with_reducible exact hB.size) | (simp [go_sem]; done) | (have := hB.size; simp [go_sem]; omega)))⟩
/-- the marks from 1 on -/
def mkF (j : Nat) : F3 := ⟨3 * (j : Int) + 1, 3 * (j : Int) + 2, 3 * (j : Int) + 3⟩
def upF (n : Nat) : List F3 := (List.range n).map mkF
theorem upF_len (n : Nat) : (upF n).length = n := by simp [upF]
theorem upF_get {n j : Nat} (h : j < n) : (upF n).getD j zF = mkF j := by simp [upF, List.getD, h]
theorem upF_succ (n : Nat) : upF (n + 1) = upF n ++ [mkF n] := by simp [upF, List.range_succ]
/-- three cells stored one after the other -/
theorem cs3_set {ms : List F3} {k : Nat} (h : k < ms.length) : ((((cs3 (upF k ++ ms.drop k)).set (k * 3) (.int .i64 (mkF k).a)).set (k * 3 + 1) (.int .i64 (mkF k).b)).set (k * 3 + 2) (.int .i64 (mkF k).c)) = cs3 (upF (k + 1) ++ ms.drop (k + 1)) := by
  have hl : (cs3 (upF k)).length = k * 3 := by rw [cs3_len, upF_len]
  rw [List.drop_eq_getElem_cons h, upF_succ, cs3_append, cs3_append, cs3_append]
  simp only [cs3, List.flatMap_cons] at hl ⊢
  rw [List.set_append_right _ _ (by omega), hl, Nat.sub_self]
  rw [List.set_append_right _ _ (by omega), hl, Nat.add_sub_cancel_left]
  rw [List.set_append_right _ _ (by omega), hl, Nat.add_sub_cancel_left]
  simp [c3]
def MarkF (base : Nat) (v : Value) (n : Nat) (w : World) (e : Ending) (W' : World) : Prop := e = .returned (.int .i64 (3 * (n : Int) + 1)) ∧ FormRow base W' v (upF n) ∧ w.grownBy W' v.ownBlock
theorem grownF_trans {w W W' : World} {row : Option Nat} (h1 : w.grownBy W row) (h2 : W.grownBy W' row) : w.grownBy W' row :=
  ⟨h2.os.trans h1.os, h2.tape.trans h1.tape, h2.output.trans h1.output, Nat.le_trans h1.size h2.size, fun j hj hne => (h2.block j (Nat.lt_of_lt_of_le hj h1.size) hne).trans (h1.block j hj hne)⟩
/-- a form of the row is stored anew -/
theorem row_markF {base g n cap : Nat} {W : World} {ms : List F3} {k : Nat} (hk : k < ms.length) (hn : n = ms.length) (h : W.ownsRow base 25 3 (.slice (some ⟨g, 0, none⟩) n cap) n (cs3 (upF k ++ ms.drop k))) :
    (((W.setCell ⟨g, k * 3, none⟩ (.int .i64 (mkF k).a)).setCell ⟨g, k * 3 + 1, none⟩ (.int .i64 (mkF k).b)).setCell ⟨g, k * 3 + 2, none⟩ (.int .i64 (mkF k).c)).ownsRow base 25 3 (.slice (some ⟨g, 0, none⟩) n cap) n (cs3 (upF (k + 1) ++ ms.drop (k + 1))) ∧
    W.grownBy (((W.setCell ⟨g, k * 3, none⟩ (.int .i64 (mkF k).a)).setCell ⟨g, k * 3 + 1, none⟩ (.int .i64 (mkF k).b)).setCell ⟨g, k * 3 + 2, none⟩ (.int .i64 (mkF k).c)) (Value.slice (some ⟨g, 0, none⟩) n cap).ownBlock := by
  subst hn
  have s1 := h.stored (k * 3) (.int .i64 (mkF k).a)
  have s2 := s1.1.stored (k * 3 + 1) (.int .i64 (mkF k).b)
  have s3 := s2.1.stored (k * 3 + 2) (.int .i64 (mkF k).c)
  have e := s3.1
  rw [cs3_set hk] at e
  exact ⟨e, grownF_trans (grownF_trans s1.2 s2.2) s3.2⟩
set_option maxHeartbeats 4000000 in
theorem markFormS_ (base : Nat) (v : Value) (ms : List F3) (hz : ms.length ≤ 1000000) (w : World) (hv : FormRow base w v ms) : Calls Try.prog 29 #[v, .int .i64 1] w (MarkF base v ms.length w) := by
  obtain ⟨ao, cap, rfl⟩ := row_form3 hv
  have HV := Lib.hid hv
  clear hv
  go_enter Try.func29, Try.ntmps29
  go_wp2
  go_loopw [1, 5] (fun kk i wr => ∃ k : Nat, k ≤ ms.length ∧ i = .int .i64 k ∧ kk = .int .i64 (3 * (k : Int) + 1) ∧ wr.ownsRow base 25 3 (.slice ao ms.length cap) ms.length (cs3 (upF k ++ ms.drop k)) ∧ w.grownBy wr (Value.slice ao ms.length cap).ownBlock) (fun _ i _ => ms.length - (intOf i).toNat)
  case atStart => exact ⟨0, Nat.zero_le _, rfl, rfl, HV.out, World.grownBy.refl w _⟩
  case round =>
    obtain ⟨k, hk, rfl, rfl, hR, hg⟩ := hrel
    have HG := Lib.hid hg
    clear hg
    by_cases hlt : k < ms.length
    · have hlen : (upF k ++ ms.drop k).length = ms.length := by simp [upF_len]; omega
      obtain ⟨g, e⟩ : ∃ g, ao = some ⟨g, 0, none⟩ := by
        rcases hR.2 with ⟨h1, h2⟩ | ⟨g, c2, cur, h1, _⟩
        · omega
        · exact ⟨g, by injection h1⟩
      subst e
      obtain ⟨u1, u2, u3⟩ := row_cell3 hR hlt hlen.symm
      have hf : ∀ o, wr.frozen? ⟨g, o, none⟩ = false := fun o => hR.frozenAt _
      have HS := Lib.hid (row_markF hlt rfl hR)
      clear hR hlen
      generalize (upF k ++ ms.drop k).getD k zF = m at *
      obtain ⟨p, q, r⟩ := m
      dsimp only at u1 u2 u3
      go_wp2
      go_roundw
      case rel =>
        refine ⟨k + 1, by omega, by go_num, by go_num, ?_, ?_⟩
        · exact HS.out.1
        · exact grownF_trans HG.out HS.out.2
      case measure => simp [intOf]; omega
    · obtain rfl : k = ms.length := by omega
      rw [List.drop_of_length_le (Nat.le_refl _), List.append_nil] at hR
      have HR := Lib.hid hR
      clear hR
      go_wp2
      go_ret
      refine ⟨rfl, ?_, HG.out⟩
      have := HR.out
      unfold FormRow
      rw [upF_len]
      exact this
set_option maxHeartbeats 2000000 in
theorem heldFormS_ (v : Value) (n : Nat) (hn : n ≤ 1000000) (w : World) (hv : ReadsF w v (upF n)) : Calls Try.prog 30 #[v, .int .i64 1] w (fun E' W' => E' = .returned (.int .i64 (3 * (n : Int) + 1)) ∧ w = W') := by
  obtain ⟨ao, cap, rfl, hc⟩ := hv
  simp only [upF_len] at hc ⊢
  have HC := Lib.hid hc
  clear hc
  go_enter Try.func30, Try.ntmps30
  go_wp2
  go_loop [1, 5] (fun kk i => ∃ k : Nat, k ≤ n ∧ i = .int .i64 k ∧ kk = .int .i64 (3 * (k : Int) + 1)) (fun _ i => n - (intOf i).toNat)
  case atStart => exact ⟨0, Nat.zero_le _, rfl, rfl⟩
  case round =>
    obtain ⟨k, hk, rfl, rfl⟩ := hrel
    by_cases hlt : k < n
    · obtain ⟨g, rfl, h1⟩ := HC.out k hlt
      rw [upF_get hlt] at h1
      obtain ⟨u1, u2, u3⟩ := h1
      simp only [mkF] at u1 u2 u3
      go_wp2
      go_round
      case rel => exact ⟨k + 1, by omega, by go_num, by go_num⟩
      case measure => simp [intOf]; omega
    · obtain rfl : k = n := by omega
      go_wp2
      go_ret
      exact ⟨rfl, rfl⟩
end Go.Proofs.Ytflcgokibpimlaa

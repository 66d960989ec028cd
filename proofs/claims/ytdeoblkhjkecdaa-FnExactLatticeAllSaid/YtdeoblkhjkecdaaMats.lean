
/- What the exact laws use besides on lists of matrices: two of them compared, one of them marked, and looked at again. -/
import Derived.Test.YtdeoblkhjkecdaaRow
import Derived.Test.YtdeoblkhjkecdaaLawT
import Derived.Test.YtdeoblkhjkecdaaHeld
namespace Go.Proofs.Ytdeoblkhjkecdaa
open Go.RowKit

def c4 (m : M) : List Value := [.int .i64 m.a, .int .i64 m.b, .int .i64 m.c, .int .i64 m.d]
def cs4 (ms : List M) : List Value := ms.flatMap c4
theorem cs4_len (ms : List M) : (cs4 ms).length = ms.length * 4 := by
  induction ms with
  | nil => rfl
  | cons m ms ih => simp only [cs4, List.flatMap_cons, List.length_append, List.length_cons] at ih ⊢; rw [ih]; simp [c4]; omega
theorem cs4_append (xs ys : List M) : cs4 (xs ++ ys) = cs4 xs ++ cs4 ys := by simp [cs4]
theorem cs4_get : ∀ {ms : List M} {k : Nat}, k < ms.length → ∀ i, i < 4 → (cs4 ms)[k * 4 + i]? = (c4 (ms.getD k zm))[i]?
  | m :: ms, 0, _, i, hi => by
    simp only [cs4, List.flatMap_cons, Nat.zero_mul, Nat.zero_add]
    rw [List.getElem?_append_left (by simp [c4]; omega)]
    rfl
  | m :: ms, k + 1, h, i, hi => by
    have := cs4_get (ms := ms) (k := k) (by simpa using h) i hi
    simp only [cs4, List.flatMap_cons]
    rw [List.getElem?_append_right (by simp [c4]; omega)]
    have e : (k + 1) * 4 + i - (c4 m).length = k * 4 + i := by simp [c4]; omega
    rw [e]
    exact this
/-- a slice of matrices of the call's own -/
def MatRow (base : Nat) (W : World) (v : Value) (ms : List M) : Prop := W.ownsRow base 24 4 v ms.length (cs4 ms)
/-- the four cells of a matrix -/
def Cell4 (W : World) (g o : Nat) (m : M) : Prop := W.cell? ⟨g, o, none⟩ = some (.int .i64 m.a) ∧ W.cell? ⟨g, o + 1, none⟩ = some (.int .i64 m.b) ∧ W.cell? ⟨g, o + 2, none⟩ = some (.int .i64 m.c) ∧ W.cell? ⟨g, o + 3, none⟩ = some (.int .i64 m.d)
/-- the slice v reads as the matrices ms -/
def ReadsM (W : World) (v : Value) (ms : List M) : Prop := ∃ ao cap, v = .slice ao ms.length cap ∧ ∀ j (_ : j < ms.length), ∃ g, ao = some ⟨g, 0, none⟩ ∧ Cell4 W g (j * 4) (ms.getD j zm)
theorem row_form4 {W : World} {base : Nat} {e : TypeId} {k : Nat} {v : Value} {xs : List Value} (h : W.ownsRow base e 4 v k xs) : ∃ ao cap, v = .slice ao k cap := by
  rcases h.2 with ⟨rfl, rfl⟩ | ⟨g, cap, cur, rfl, _⟩
  · exact ⟨none, 0, rfl⟩
  · exact ⟨_, cap, rfl⟩
theorem row_cell4 {base g n cap : Nat} {W : World} {ms : List M} (h : W.ownsRow base 24 4 (.slice (some ⟨g, 0, none⟩) n cap) n (cs4 ms)) {j : Nat} (hj : j < n) (hn : n = ms.length) : Cell4 W g (j * 4) (ms.getD j zm) := by
  subst hn
  have e := fun i hi => (h.cellAt (j * 4 + i) (by omega)).trans (cs4_get hj i hi)
  exact ⟨e 0 (by decide), e 1 (by decide), e 2 (by decide), e 3 (by decide)⟩
theorem MatRow.reads {base : Nat} {W : World} {v : Value} {ms : List M} (h : MatRow base W v ms) : ReadsM W v ms := by
  have h' := h
  rcases h.2 with ⟨rfl, h0⟩ | ⟨g, cap, cur, rfl, _⟩
  · have : ms = [] := by simpa using h0
    subst this
    exact ⟨none, 0, rfl, fun j hj => absurd hj (by simp)⟩
  · exact ⟨some ⟨g, 0, none⟩, cap, rfl, fun j hj => ⟨g, rfl, row_cell4 h' hj rfl⟩⟩
theorem Cell4.below {W W' : World} {g o : Nat} {m : M} (h : Cell4 W g o m) (hb : Below W.heap.size W W') : Cell4 W' g o m := by
  obtain ⟨h1, h2, h3, h4⟩ := h
  have hl := World.block_lt_of_cell? W _ h1
  exact ⟨by rw [hb.cell (p := ⟨g, o, none⟩) hl]; exact h1, by rw [hb.cell (p := ⟨g, o + 1, none⟩) hl]; exact h2, by rw [hb.cell (p := ⟨g, o + 2, none⟩) hl]; exact h3, by rw [hb.cell (p := ⟨g, o + 3, none⟩) hl]; exact h4⟩
theorem ReadsM.below {W W' : World} {v : Value} {ms : List M} (h : ReadsM W v ms) (hb : Below W.heap.size W W') : ReadsM W' v ms := by
  obtain ⟨ao, cap, rfl, hc⟩ := h
  refine ⟨ao, cap, rfl, fun j hj => ?_⟩
  obtain ⟨g, e, h1⟩ := hc j hj
  exact ⟨g, e, h1.below hb⟩
theorem MatRow.below {base : Nat} {W W' : World} {v : Value} {ms : List M} (h : MatRow base W v ms) (hb : Below W.heap.size W W') : MatRow base W' v ms := by
  refine h.kept (row := none) ⟨hb.os, hb.tape, hb.output, hb.size, fun k hk _ => hb.block k hk⟩ ?_
  cases hv : v.ownBlock
  · exact .inl rfl
  · exact .inr (by simp)
set_option maxHeartbeats 2000000 in
theorem eqMatS_same (v u : Value) (ms : List M) (hz : ms.length ≤ 1000000) (w : World) (hv : ReadsM w v ms) (hu : ReadsM w u ms) : Calls Try.prog 20 #[v, u] w (fun E' W' => E' = .returned (.bool true) ∧ Below w.heap.size w W') := by
  obtain ⟨ao, cap, rfl, hc⟩ := hv
  obtain ⟨bo, cap', rfl, hd⟩ := hu
  have HC := Lib.hid hc
  have HD := Lib.hid hd
  clear hc hd
  have hM := mem_nil w; have hB := Below.refl w.heap.size w; have hC := True.intro
  go_enter Try.func20, Try.ntmps20
  go_wp2
  go_loopw [5] (fun i wr => ∃ k : Nat, k ≤ ms.length ∧ i = .int .i64 k ∧ Below w.heap.size w wr) (fun i _ => ms.length - (intOf i).toNat)
  case atStart => exact ⟨0, Nat.zero_le _, rfl, by (repeat' (first | (with_reducible exact hB) | (with_reducible exact Below.refl _ _) | (with_reducible refine Below.alloc ?_ ?_ _) | (with_reducible refine Below.setCell ?_ ?_ _) | (with_reducible refine Below.drew ?_) | (with_reducible refine below_drewN ?_ _) | (with_reducible exact Nat.le_refl _) | (with_reducible exact hB.size) | (simp [go_sem]; done) | (have := hB.size; simp [go_sem]; omega)))⟩
  case round =>
    obtain ⟨k, hk, rfl, hB'⟩ := hrel
    clear hB hM hC
    have hB := hB'
    clear hB'
    by_cases hlt : k < ms.length
    · obtain ⟨g, rfl, h1⟩ := HC.out k hlt
      obtain ⟨g', rfl, h2⟩ := HD.out k hlt
      generalize ms.getD k zm = m at h1 h2
      obtain ⟨p, q, r, t⟩ := m
      have HQ := Lib.hid (show ∀ W' : World, Below w.heap.size w W' → (W'.cell? ⟨g, k * 4, none⟩ = some (.int .i64 p) ∧ W'.cell? ⟨g, k * 4 + 1, none⟩ = some (.int .i64 q) ∧ W'.cell? ⟨g, k * 4 + 2, none⟩ = some (.int .i64 r) ∧ W'.cell? ⟨g, k * 4 + 3, none⟩ = some (.int .i64 t)) ∧ (W'.cell? ⟨g', k * 4, none⟩ = some (.int .i64 p) ∧ W'.cell? ⟨g', k * 4 + 1, none⟩ = some (.int .i64 q) ∧ W'.cell? ⟨g', k * 4 + 2, none⟩ = some (.int .i64 r) ∧ W'.cell? ⟨g', k * 4 + 3, none⟩ = some (.int .i64 t)) from fun W' hb => ⟨h1.below hb, h2.below hb⟩)
      clear h1 h2
      obtain ⟨⟨a1, a2, a3, a4⟩, b1, b2, b3, b4⟩ := HQ.out _ hB
      have hM := mem_nil wr
      have hC := True.intro
      go_wp2_with fail
      (refine wp_region_T2 (fun W' => (W'.cell? ⟨g, k * 4, none⟩ = some (.int .i64 p) ∧ W'.cell? ⟨g, k * 4 + 1, none⟩ = some (.int .i64 q) ∧ W'.cell? ⟨g, k * 4 + 2, none⟩ = some (.int .i64 r) ∧ W'.cell? ⟨g, k * 4 + 3, none⟩ = some (.int .i64 t)) ∧ (W'.cell? ⟨g', k * 4, none⟩ = some (.int .i64 p) ∧ W'.cell? ⟨g', k * 4 + 1, none⟩ = some (.int .i64 q) ∧ W'.cell? ⟨g', k * 4 + 2, none⟩ = some (.int .i64 r) ∧ W'.cell? ⟨g', k * 4 + 3, none⟩ = some (.int .i64 t))) 100 (by kernel_rfl) ?_ ?_; (focus (simp [*, go_sem]; done)); intro hS)
      (refine wpT_take (i := 0) (oi := ?_) (v := ?_) hS ?_ ?_ ?_ ?_ ?_ ?_; rotate_left 2; (focus (simp only [List.getElem?_toArray, List.getElem?_cons_zero]; exact rfl)); (focus (kernel_rfl)); (focus (rfl)); (focus (intro w' hW; (try dsimp only at hW); go_simp; (try with_reducible rfl); done)); (focus (exact fun _ _ _ h => h)); (try simp only [Act.put, List.setIfInBounds_toArray, List.set_cons_zero, List.set_cons_succ])); (refine wpT_take (i := 1) (oi := ?_) (v := ?_) hS ?_ ?_ ?_ ?_ ?_ ?_; rotate_left 2; (focus (simp only [List.getElem?_toArray, List.getElem?_cons_zero, List.getElem?_cons_succ]; exact rfl)); (focus (kernel_rfl)); (focus (rfl)); (focus (intro w' hW; (try dsimp only at hW); go_simp; (try with_reducible rfl); done)); (focus (exact fun _ _ _ h => h)); (try simp only [Act.put, List.setIfInBounds_toArray, List.set_cons_zero, List.set_cons_succ])); (refine wpT_take (i := 2) (oi := ?_) (v := ?_) hS ?_ ?_ ?_ ?_ ?_ ?_; rotate_left 2; (focus (simp only [List.getElem?_toArray, List.getElem?_cons_zero, List.getElem?_cons_succ]; exact rfl)); (focus (kernel_rfl)); (focus (rfl)); (focus (intro w' hW; (try dsimp only at hW); go_simp; (try with_reducible rfl); done)); (focus (exact fun _ _ _ h => h)); (try simp only [Act.put, List.setIfInBounds_toArray, List.set_cons_zero, List.set_cons_succ])); (refine wpT_take (i := 3) (oi := ?_) (v := ?_) hS ?_ ?_ ?_ ?_ ?_ ?_; rotate_left 2; (focus (simp only [List.getElem?_toArray, List.getElem?_cons_zero, List.getElem?_cons_succ]; exact rfl)); (focus (kernel_rfl)); (focus (rfl)); (focus (intro w' hW; (try dsimp only at hW); go_simp; (try with_reducible rfl); done)); (focus (exact fun _ _ _ h => h)); (try simp only [Act.put, List.setIfInBounds_toArray, List.set_cons_zero, List.set_cons_succ])); (refine wpT_take (i := 4) (oi := ?_) (v := ?_) hS ?_ ?_ ?_ ?_ ?_ ?_; rotate_left 2; (focus (simp only [List.getElem?_toArray, List.getElem?_cons_zero, List.getElem?_cons_succ]; exact rfl)); (focus (kernel_rfl)); (focus (rfl)); (focus (intro w' hW; (try dsimp only at hW); go_simp; (try with_reducible rfl); done)); (focus (exact fun _ _ _ h => h)); (try simp only [Act.put, List.setIfInBounds_toArray, List.set_cons_zero, List.set_cons_succ])); (refine wpT_take (i := 5) (oi := ?_) (v := ?_) hS ?_ ?_ ?_ ?_ ?_ ?_; rotate_left 2; (focus (simp only [List.getElem?_toArray, List.getElem?_cons_zero, List.getElem?_cons_succ]; exact rfl)); (focus (kernel_rfl)); (focus (rfl)); (focus (intro w' hW; (try dsimp only at hW); go_simp; (try with_reducible rfl); done)); (focus (exact fun _ _ _ h => h)); (try simp only [Act.put, List.setIfInBounds_toArray, List.set_cons_zero, List.set_cons_succ])); (refine wpT_take (i := 6) (oi := ?_) (v := ?_) hS ?_ ?_ ?_ ?_ ?_ ?_; rotate_left 2; (focus (simp only [List.getElem?_toArray, List.getElem?_cons_zero, List.getElem?_cons_succ]; exact rfl)); (focus (kernel_rfl)); (focus (rfl)); (focus (intro w' hW; (try dsimp only at hW); go_simp; (try with_reducible rfl); done)); (focus (exact fun _ _ _ h => h)); (try simp only [Act.put, List.setIfInBounds_toArray, List.set_cons_zero, List.set_cons_succ])); (refine wpT_take (i := 7) (oi := ?_) (v := ?_) hS ?_ ?_ ?_ ?_ ?_ ?_; rotate_left 2; (focus (simp only [List.getElem?_toArray, List.getElem?_cons_zero, List.getElem?_cons_succ]; exact rfl)); (focus (kernel_rfl)); (focus (rfl)); (focus (intro w' hW; (try dsimp only at hW); go_simp; (try with_reducible rfl); done)); (focus (exact fun _ _ _ h => h)); (try simp only [Act.put, List.setIfInBounds_toArray, List.set_cons_zero, List.set_cons_succ]))
      (refine wpT_one (i := 8) (oi := ?_) ?_ ?_ ?_ ?_; rotate_left 1; (focus (kernel_rfl)); (focus (simp only [List.getElem?_toArray, List.getElem?_cons_zero, List.getElem?_cons_succ]; exact rfl)); (focus (rfl)); go_simp)
      (go_at_call 13; refine (eqMat_same _ _ _ _ _).mono ?_; rintro e w' ⟨rfl, hb⟩; apply after_call (w := w) hb; (focus ((repeat' (first | (with_reducible exact hM) | (with_reducible apply mem_alloc) | (with_reducible apply mem_set) | (with_reducible apply mem_drew) | (with_reducible apply mem_drewN))); done)); (focus ((repeat' (first | (with_reducible exact hB) | (with_reducible exact Below.refl _ _) | (with_reducible refine Below.alloc ?_ ?_ _) | (with_reducible refine Below.setCell ?_ ?_ _) | (with_reducible refine Below.drew ?_) | (with_reducible refine below_drewN ?_ _) | (with_reducible exact Nat.le_refl _) | (with_reducible exact hB.size) | (simp [go_sem]; done) | (have := hB.size; simp [go_sem]; omega))); done)); (focus ((repeat' (first | (with_reducible exact hB) | (with_reducible exact Below.refl _ _) | (with_reducible refine Below.alloc ?_ ?_ _) | (with_reducible refine Below.setCell ?_ ?_ _) | (with_reducible refine Below.drew ?_) | (with_reducible refine below_drewN ?_ _) | (with_reducible exact Nat.le_refl _) | (with_reducible exact hB.size) | (simp [go_sem]; done) | (have := hB.size; simp [go_sem]; omega))); done)); clear hM hB hb; intro hM hB; (try clear hC); have hC := mem_facts hM; simp at hC)
      have q2 := HQ.out _ hB
      (first | (with_reducible refine wpT_hold ?_ ?_; (focus (simp [*, go_sem]; done)); clear hS; intro hS; (try dsimp only at hS)) | (refine held_intro ?_ ?_; (focus (simp [*, go_sem]; done)); clear hS; intro hS))
      (refine wpT_take (i := 9) (oi := ?_) (v := ?_) hS ?_ ?_ ?_ ?_ ?_ ?_; rotate_left 2; (focus (simp only [List.getElem?_toArray, List.getElem?_cons_zero, List.getElem?_cons_succ]; exact rfl)); (focus (kernel_rfl)); (focus (rfl)); (focus (intro w' hW; (try dsimp only at hW); go_simp; (try with_reducible rfl); done)); (focus (exact fun _ _ _ h => h)); (try simp only [Act.put, List.setIfInBounds_toArray, List.set_cons_zero, List.set_cons_succ]))
      refine wpT_done (by kernel_rfl) ?_ _
      go_wp2_with fail
      go_roundw
      case rel => exact ⟨k + 1, by omega, by go_num, by (repeat' (first | (with_reducible exact hB) | (with_reducible exact Below.refl _ _) | (with_reducible refine Below.alloc ?_ ?_ _) | (with_reducible refine Below.setCell ?_ ?_ _) | (with_reducible refine Below.drew ?_) | (with_reducible refine below_drewN ?_ _) | (with_reducible exact Nat.le_refl _) | (with_reducible exact hB.size) | (simp [go_sem]; done) | (have := hB.size; simp [go_sem]; omega)))⟩
      case measure => simp [intOf]; omega
    · obtain rfl : k = ms.length := by omega
      go_wp2
      go_ret
      exact ⟨rfl, by (repeat' (first | (with_reducible exact hB) | (with_reducible exact Below.refl _ _) | (with_reducible refine Below.alloc ?_ ?_ _) | (with_reducible refine Below.setCell ?_ ?_ _) | (with_reducible refine Below.drew ?_) | (with_reducible refine below_drewN ?_ _) | (with_reducible exact Nat.le_refl _) | (with_reducible exact hB.size) | (simp [go_sem]; done) | (have := hB.size; simp [go_sem]; omega)))⟩
/-- the marks from 1 on -/
def mkM (j : Nat) : M := ⟨4 * (j : Int) + 1, 4 * (j : Int) + 2, 4 * (j : Int) + 3, 4 * (j : Int) + 4⟩
def upM (n : Nat) : List M := (List.range n).map mkM
theorem upM_len (n : Nat) : (upM n).length = n := by simp [upM]
theorem upM_get {n j : Nat} (h : j < n) : (upM n).getD j zm = mkM j := by simp [upM, List.getD, h]
theorem upM_succ (n : Nat) : upM (n + 1) = upM n ++ [mkM n] := by simp [upM, List.range_succ]
/-- four cells stored one after the other -/
theorem cs4_set {ms : List M} {k : Nat} (h : k < ms.length) : (((((cs4 (upM k ++ ms.drop k)).set (k * 4) (.int .i64 (mkM k).a)).set (k * 4 + 1) (.int .i64 (mkM k).b)).set (k * 4 + 2) (.int .i64 (mkM k).c)).set (k * 4 + 3) (.int .i64 (mkM k).d)) = cs4 (upM (k + 1) ++ ms.drop (k + 1)) := by
  have hl : (cs4 (upM k)).length = k * 4 := by rw [cs4_len, upM_len]
  rw [List.drop_eq_getElem_cons h, upM_succ, cs4_append, cs4_append, cs4_append]
  simp only [cs4, List.flatMap_cons] at hl ⊢
  rw [List.set_append_right _ _ (by omega), hl, Nat.sub_self]
  rw [List.set_append_right _ _ (by omega), hl, Nat.add_sub_cancel_left]
  rw [List.set_append_right _ _ (by omega), hl, Nat.add_sub_cancel_left]
  rw [List.set_append_right _ _ (by omega), hl, Nat.add_sub_cancel_left]
  simp [c4]
def MarkM (base : Nat) (v : Value) (n : Nat) (w : World) (e : Ending) (W' : World) : Prop := e = .returned (.int .i64 (4 * (n : Int) + 1)) ∧ MatRow base W' v (upM n) ∧ w.grownBy W' v.ownBlock
theorem grown_trans {w W W' : World} {row : Option Nat} (h1 : w.grownBy W row) (h2 : W.grownBy W' row) : w.grownBy W' row :=
  ⟨h2.os.trans h1.os, h2.tape.trans h1.tape, h2.output.trans h1.output, Nat.le_trans h1.size h2.size, fun j hj hne => (h2.block j (Nat.lt_of_lt_of_le hj h1.size) hne).trans (h1.block j hj hne)⟩
/-- a matrix of the row is stored anew -/
theorem row_mark {base g n cap : Nat} {W : World} {ms : List M} {k : Nat} (hk : k < ms.length) (hn : n = ms.length) (h : W.ownsRow base 24 4 (.slice (some ⟨g, 0, none⟩) n cap) n (cs4 (upM k ++ ms.drop k))) :
    ((((W.setCell ⟨g, k * 4, none⟩ (.int .i64 (mkM k).a)).setCell ⟨g, k * 4 + 1, none⟩ (.int .i64 (mkM k).b)).setCell ⟨g, k * 4 + 2, none⟩ (.int .i64 (mkM k).c)).setCell ⟨g, k * 4 + 3, none⟩ (.int .i64 (mkM k).d)).ownsRow base 24 4 (.slice (some ⟨g, 0, none⟩) n cap) n (cs4 (upM (k + 1) ++ ms.drop (k + 1))) ∧
    W.grownBy ((((W.setCell ⟨g, k * 4, none⟩ (.int .i64 (mkM k).a)).setCell ⟨g, k * 4 + 1, none⟩ (.int .i64 (mkM k).b)).setCell ⟨g, k * 4 + 2, none⟩ (.int .i64 (mkM k).c)).setCell ⟨g, k * 4 + 3, none⟩ (.int .i64 (mkM k).d)) (Value.slice (some ⟨g, 0, none⟩) n cap).ownBlock := by
  subst hn
  have s1 := h.stored (k * 4) (.int .i64 (mkM k).a)
  have s2 := s1.1.stored (k * 4 + 1) (.int .i64 (mkM k).b)
  have s3 := s2.1.stored (k * 4 + 2) (.int .i64 (mkM k).c)
  have s4 := s3.1.stored (k * 4 + 3) (.int .i64 (mkM k).d)
  have e := s4.1
  rw [cs4_set hk] at e
  exact ⟨e, grown_trans (grown_trans (grown_trans s1.2 s2.2) s3.2) s4.2⟩
set_option maxHeartbeats 4000000 in
theorem markMatS_ (base : Nat) (v : Value) (ms : List M) (hz : ms.length ≤ 1000000) (w : World) (hv : MatRow base w v ms) : Calls Try.prog 21 #[v, .int .i64 1] w (MarkM base v ms.length w) := by
  obtain ⟨ao, cap, rfl⟩ := row_form4 hv
  have HV := Lib.hid hv
  clear hv
  go_enter Try.func21, Try.ntmps21
  go_wp2
  go_loopw [1, 5] (fun kk i wr => ∃ k : Nat, k ≤ ms.length ∧ i = .int .i64 k ∧ kk = .int .i64 (4 * (k : Int) + 1) ∧ wr.ownsRow base 24 4 (.slice ao ms.length cap) ms.length (cs4 (upM k ++ ms.drop k)) ∧ w.grownBy wr (Value.slice ao ms.length cap).ownBlock) (fun _ i _ => ms.length - (intOf i).toNat)
  case atStart => exact ⟨0, Nat.zero_le _, rfl, rfl, HV.out, World.grownBy.refl w _⟩
  case round =>
    obtain ⟨k, hk, rfl, rfl, hR, hg⟩ := hrel
    have HG := Lib.hid hg
    clear hg
    by_cases hlt : k < ms.length
    · have hlen : (upM k ++ ms.drop k).length = ms.length := by simp [upM_len]; omega
      obtain ⟨g, e⟩ : ∃ g, ao = some ⟨g, 0, none⟩ := by
        rcases hR.2 with ⟨h1, h2⟩ | ⟨g, c2, cur, h1, _⟩
        · omega
        · exact ⟨g, by injection h1⟩
      subst e
      obtain ⟨u1, u2, u3, u4⟩ := row_cell4 hR hlt hlen.symm
      have hf : ∀ o, wr.frozen? ⟨g, o, none⟩ = false := fun o => hR.frozenAt _
      have HS := Lib.hid (row_mark hlt rfl hR)
      clear hR hlen
      generalize (upM k ++ ms.drop k).getD k zm = m at *
      obtain ⟨p, q, r, t⟩ := m
      dsimp only at u1 u2 u3 u4
      go_wp2
      go_roundw
      case rel =>
        refine ⟨k + 1, by omega, by go_num, by go_num, ?_, ?_⟩
        · exact HS.out.1
        · exact grown_trans HG.out HS.out.2
      case measure => simp [intOf]; omega
    · obtain rfl : k = ms.length := by omega
      rw [List.drop_of_length_le (Nat.le_refl _), List.append_nil] at hR
      have HR := Lib.hid hR
      clear hR
      go_wp2
      go_ret
      refine ⟨rfl, ?_, HG.out⟩
      have := HR.out
      unfold MatRow
      rw [upM_len]
      exact this
set_option maxHeartbeats 2000000 in
theorem heldMatS_ (v : Value) (n : Nat) (hn : n ≤ 1000000) (w : World) (hv : ReadsM w v (upM n)) : Calls Try.prog 22 #[v, .int .i64 1] w (fun E' W' => E' = .returned (.int .i64 (4 * (n : Int) + 1)) ∧ w = W') := by
  obtain ⟨ao, cap, rfl, hc⟩ := hv
  simp only [upM_len] at hc ⊢
  have HC := Lib.hid hc
  clear hc
  go_enter Try.func22, Try.ntmps22
  go_wp2
  go_loop [1, 5] (fun kk i => ∃ k : Nat, k ≤ n ∧ i = .int .i64 k ∧ kk = .int .i64 (4 * (k : Int) + 1)) (fun _ i => n - (intOf i).toNat)
  case atStart => exact ⟨0, Nat.zero_le _, rfl, rfl⟩
  case round =>
    obtain ⟨k, hk, rfl, rfl⟩ := hrel
    by_cases hlt : k < n
    · obtain ⟨g, rfl, h1⟩ := HC.out k hlt
      rw [upM_get hlt] at h1
      obtain ⟨u1, u2, u3, u4⟩ := h1
      simp only [mkM] at u1 u2 u3 u4
      go_wp2
      go_round
      case rel => exact ⟨k + 1, by omega, by go_num, by go_num⟩
      case measure => simp [intOf]; omega
    · obtain rfl : k = n := by omega
      go_wp2
      go_ret
      exact ⟨rfl, rfl⟩
end Go.Proofs.Ytdeoblkhjkecdaa

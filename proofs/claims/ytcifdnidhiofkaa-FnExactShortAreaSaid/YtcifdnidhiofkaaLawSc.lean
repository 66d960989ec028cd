
/- The exact law of areas, walked: lists of pairs copied and compared. -/
import Derived.Test.YtcifdnidhiofkaaLawSa
import Derived.Test.YtcifdnidhiofkaaShW
import Derived.Laws.OwnMore
import Derived.Deep.SlicePairs
namespace Go.Proofs.Ytcifdnidhiofkaa
open Go.RowKit

def c2 (p : P2) : List Value := [.int .i64 p.x, .int .i64 p.y]
def cs2 (ps : List P2) : List Value := ps.flatMap c2
theorem cs2_len (ps : List P2) : (cs2 ps).length = ps.length * 2 := by
  induction ps with
  | nil => rfl
  | cons m ms ih => simp only [cs2, List.flatMap_cons, List.length_append, List.length_cons] at ih ⊢; rw [ih]; simp [c2]; omega
theorem cs2_append (xs ys : List P2) : cs2 (xs ++ ys) = cs2 xs ++ cs2 ys := by simp [cs2]
theorem cs2_get : ∀ {ps : List P2} {k : Nat}, k < ps.length → ∀ i, i < 2 → (cs2 ps)[k * 2 + i]? = (c2 (atP ps k))[i]?
  | m :: ms, 0, _, i, hi => by
    simp only [cs2, List.flatMap_cons, Nat.zero_mul, Nat.zero_add]
    rw [List.getElem?_append_left (by simp [c2]; omega)]
    rfl
  | m :: ms, k + 1, h, i, hi => by
    have := cs2_get (ps := ms) (k := k) (by simpa using h) i hi
    simp only [cs2, List.flatMap_cons]
    rw [List.getElem?_append_right (by simp [c2]; omega)]
    have e : (k + 1) * 2 + i - (c2 m).length = k * 2 + i := by simp [c2]; omega
    rw [e]
    exact this
/-- a copy of which i pairs are made -/
def partC (ps : List P2) (i : Nat) : List Value := cs2 (ps.take i) ++ List.replicate (2 * (ps.length - i)) (.int .i64 0)
theorem partC_len {ps : List P2} {i : Nat} (h : i ≤ ps.length) : (partC ps i).length = ps.length * 2 := by
  simp only [partC, List.length_append, cs2_len, List.length_take, List.length_replicate]; omega
theorem partC_set {ps : List P2} {i : Nat} (h : i < ps.length) : ((partC ps i).set (i * 2) (.int .i64 (atP ps i).x)).set (i * 2 + 1) (.int .i64 (atP ps i).y) = partC ps (i + 1) := by
  have hl : (cs2 (ps.take i)).length = i * 2 := by rw [cs2_len, List.length_take]; omega
  have e : 2 * (ps.length - i) = 2 * (ps.length - (i + 1)) + 1 + 1 := by omega
  have ht : ps.take (i + 1) = ps.take i ++ [atP ps i] := by
    rw [List.take_succ_eq_append_getElem h]
    simp [atP, List.getD, h]
  unfold partC
  rw [ht, cs2_append, List.set_append_right _ _ (by omega), hl, Nat.sub_self, List.set_append_right _ _ (by omega), hl, Nat.add_sub_cancel_left, e]
  simp [cs2, c2, List.replicate_succ]
theorem partC_all (ps : List P2) : partC ps ps.length = cs2 ps := by simp [partC]
theorem partC_at {ps : List P2} {i : Nat} (h : i < ps.length) : (partC ps i)[i * 2]? = some (.int .i64 0) ∧ (partC ps i)[i * 2 + 1]? = some (.int .i64 0) := by
  have hl : (cs2 (ps.take i)).length = i * 2 := by rw [cs2_len, List.length_take]; omega
  have e : 2 * (ps.length - i) = 2 * (ps.length - (i + 1)) + 1 + 1 := by omega
  unfold partC
  rw [List.getElem?_append_right (by omega), List.getElem?_append_right (by omega), hl, Nat.sub_self, Nat.add_sub_cancel_left, e]
  simp [List.replicate_succ]
theorem made2 (n : Nat) : (madeCells #[.int .i64 0, .int .i64 0] (n * 2)).toList = List.replicate (2 * n) (Value.int .i64 0) := by
  apply List.ext_getElem?
  intro j
  rcases Nat.lt_or_ge j (n * 2) with h | h
  · have hz : (#[Value.int .i64 0, .int .i64 0] : Array Value)[j % 2]! = .int .i64 0 := by
      have : j % 2 = 0 ∨ j % 2 = 1 := by omega
      rcases this with e | e <;> rw [e] <;> rfl
    simp only [madeCells, Array.toList_map, Array.toList_range, List.getElem?_map, List.getElem?_replicate]
    rw [List.getElem?_range h]
    simp only [Option.map_some]
    rw [if_pos (by omega)]
    exact congrArg some hz
  · rw [List.getElem?_eq_none (by rw [Array.length_toList, size_madeCells]; exact h), List.getElem?_eq_none (by rw [List.length_replicate]; omega)]
theorem infoPair : (Try.prog.info? 26).map (fun i => (i.zero, i.size, i.bytes)) = some (some (.agg #[.int .i64 0, .int .i64 0]), 2, 16) := by kernel_rfl
theorem info_parts2 {o : Option TypeInfo} {z : Option Value} {s b : Nat} (h : o.map (fun i => (i.zero, i.size, i.bytes)) = some (z, s, b)) : ∃ i, o = some i ∧ i.zero = z ∧ i.size = s ∧ i.bytes = b := by
  cases o with
  | none => cases h
  | some i => simp only [Option.map_some, Option.some.injEq, Prod.mk.injEq] at h; exact ⟨i, rfl, h.1, h.2.1, h.2.2⟩
/-- the slice v reads as the pairs ps, wherever it begins -/
def RdP (W : World) (v : Value) (ps : List P2) : Prop := ∃ ao cap, v = .slice ao ps.length cap ∧ ∀ j (_ : j < ps.length), ∃ g o, ao = some ⟨g, o, none⟩ ∧ Cell2 W g (o + j * 2) (atP ps j)
theorem RdP.below {W W' : World} {v : Value} {ps : List P2} (h : RdP W v ps) (hb : Below W.heap.size W W') : RdP W' v ps := by
  obtain ⟨ao, cap, rfl, hc⟩ := h
  refine ⟨ao, cap, rfl, fun j hj => ?_⟩
  obtain ⟨g, o, e, h1⟩ := hc j hj
  exact ⟨g, o, e, h1.below hb⟩
/-- at the head of a round of 'toPairS' -/
def ToRel (ps : List P2) (w : World) (v4 : Value) (wr : World) : Prop := ∃ i : Nat, i ≤ ps.length ∧ v4 = .int .i64 i ∧ Mem wr [(w.heap.size, (partC ps i).toArray, 26)] ∧ Below w.heap.size w wr
def ToPost (ps : List P2) (w : World) (e : Ending) (W' : World) : Prop := ∃ v, e = .returned v ∧ ReadsP W' v ps ∧ Below w.heap.size w W'
set_option maxHeartbeats 4000000 in
theorem toPairS_ (v : Value) (ps : List P2) (hz : ps.length ≤ 2000000) (w : World) (hv : RdP w v ps) : Calls Try.prog 30 #[v] w (ToPost ps w) := by
  obtain ⟨ao, cap, rfl, hc⟩ := hv
  have HC := Lib.hid hc
  clear hc
  obtain ⟨i0, hi, hz0, hz1, hz2⟩ := info_parts2 infoPair
  have hmk : ∀ W : World, (Instr.makeSlice 47 (.int .i64 (ps.length : Int)) (.int .i64 (ps.length : Int))).run Try.prog W = .ok (.slice (some ⟨W.heap.size, 0, none⟩) ps.length ps.length) (W.alloc (.cells (partC ps 0).toArray 26)) := fun W => by
    have := run_make (P := Try.prog) W 47 26 i0 (.agg #[.int .i64 0, .int .i64 0]) Try.underlying47 hi hz0 .i64 .i64 (ps.length : Int) (ps.length : Int) (by omega) (by omega) (by rw [hz2]; omega) (by omega)
    rw [this, hz1]
    simp only [Int.toNat_natCast, Value.cells]
    have e : madeCells #[.int .i64 0, .int .i64 0] (ps.length * 2) = (partC ps 0).toArray := by
      apply Array.ext'
      rw [made2]; simp [partC, cs2]
    rw [e]
  clear hi hz0 hz1 hz2
  have hM := mem_nil w; have hB := Below.refl w.heap.size w; have hC := True.intro
  go_enter Try.func30, Try.ntmps30
  go_wp2_with fail
  go_loopw [4] (fun v4 wr => ToRel ps w v4 wr) (fun v4 _ => ps.length - (intOf v4).toNat)
  case atStart =>
    refine ⟨0, Nat.zero_le _, rfl, ?_, by (repeat' (first | (with_reducible exact hB) | (with_reducible exact Below.refl _ _) | (with_reducible refine Below.alloc ?_ ?_ _) | (with_reducible refine Below.setCell ?_ ?_ _) | (with_reducible refine Below.drew ?_) | (with_reducible refine below_drewN ?_ _) | (with_reducible exact Nat.le_refl _) | (with_reducible exact hB.size) | (simp [go_sem]; done) | (have := hB.size; simp [go_sem]; omega)))⟩
    apply mem_drop 0
    · (repeat' (first | (with_reducible exact hM) | (with_reducible apply mem_alloc) | (with_reducible apply mem_set) | (with_reducible apply mem_drew) | (with_reducible apply mem_drewN)))
    · simp
  case round =>
    obtain ⟨i, hi, rfl, hM', hB'⟩ := hrel
    (try clear hC); clear hM hB; have hM := hM'; have hB := hB'; clear hM' hB'; have hC := mem_facts hM; simp at hC
    clear hmk
    by_cases hlt : i < ps.length
    · obtain ⟨g, o, rfl, h1⟩ := HC.out i hlt
      obtain ⟨h1a, h1b⟩ := h1.below hB
      obtain ⟨p1, p2⟩ := partC_at hlt
      have HS := Lib.hid (partC_set hlt)
      clear h1
      generalize partC ps i = cur at *
      generalize atP ps i = q at *
      obtain ⟨x, y⟩ := q
      dsimp only at h1a h1b
      go_wp2_with (go_at_call 12; refine (toPair_ _ _ _).mono ?_; rintro e w' ⟨rfl, hb⟩; apply after_call (w := w) hb; (focus ((repeat' (first | (with_reducible exact hM) | (with_reducible apply mem_alloc) | (with_reducible apply mem_set) | (with_reducible apply mem_drew) | (with_reducible apply mem_drewN))); done)); (focus ((repeat' (first | (with_reducible exact hB) | (with_reducible exact Below.refl _ _) | (with_reducible refine Below.alloc ?_ ?_ _) | (with_reducible refine Below.setCell ?_ ?_ _) | (with_reducible refine Below.drew ?_) | (with_reducible refine below_drewN ?_ _) | (with_reducible exact Nat.le_refl _) | (with_reducible exact hB.size) | (simp [go_sem]; done) | (have := hB.size; simp [go_sem]; omega))); done)); (focus ((repeat' (first | (with_reducible exact hB) | (with_reducible exact Below.refl _ _) | (with_reducible refine Below.alloc ?_ ?_ _) | (with_reducible refine Below.setCell ?_ ?_ _) | (with_reducible refine Below.drew ?_) | (with_reducible refine below_drewN ?_ _) | (with_reducible exact Nat.le_refl _) | (with_reducible exact hB.size) | (simp [go_sem]; done) | (have := hB.size; simp [go_sem]; omega))); done)); clear hM hB hb; intro hM hB; (try clear hC); have hC := mem_facts hM; simp at hC)
      go_roundw
      case measure => simp [intOf]; omega
      case rel =>
        refine ⟨i + 1, by omega, by go_num, ?_, by (repeat' (first | (with_reducible exact hB) | (with_reducible exact Below.refl _ _) | (with_reducible refine Below.alloc ?_ ?_ _) | (with_reducible refine Below.setCell ?_ ?_ _) | (with_reducible refine Below.drew ?_) | (with_reducible refine below_drewN ?_ _) | (with_reducible exact Nat.le_refl _) | (with_reducible exact hB.size) | (simp [go_sem]; done) | (have := hB.size; simp [go_sem]; omega)))⟩
        rw [← HS.out]
        apply mem_drop 0
        · (repeat' (first | (with_reducible exact hM) | (with_reducible apply mem_alloc) | (with_reducible apply mem_set) | (with_reducible apply mem_drew) | (with_reducible apply mem_drewN)))
        · simp
    · obtain rfl : i = ps.length := by omega
      rw [partC_all] at hM
      have HM := Lib.hid hM
      go_wp2
      go_ret
      refine ⟨_, rfl, ⟨_, _, rfl, fun j hj => ⟨_, rfl, ?_⟩⟩, by (repeat' (first | (with_reducible exact hB) | (with_reducible exact Below.refl _ _) | (with_reducible refine Below.alloc ?_ ?_ _) | (with_reducible refine Below.setCell ?_ ?_ _) | (with_reducible refine Below.drew ?_) | (with_reducible refine below_drewN ?_ _) | (with_reducible exact Nat.le_refl _) | (with_reducible exact hB.size) | (simp [go_sem]; done) | (have := hB.size; simp [go_sem]; omega)))⟩
      have hw := HM.out.1 _ List.mem_cons_self
      have e := fun i (hi : i < 2) => (cell_of_row wr w.heap.size (j * 2 + i) _ _ (0, 0) hw).trans ((by simp : (cs2 ps).toArray[j * 2 + i]? = (cs2 ps)[j * 2 + i]?).trans (cs2_get hj i hi))
      exact ⟨e 0 (by decide), e 1 (by decide)⟩
set_option maxHeartbeats 2000000 in
theorem eqPairS_same (v u : Value) (ps : List P2) (hz : ps.length ≤ 2000000) (w : World) (hv : ReadsP w v ps) (hu : ReadsP w u ps) : Calls Try.prog 32 #[v, u] w (fun E' W' => E' = .returned (.bool true) ∧ Below w.heap.size w W') := by
  obtain ⟨ao, cap, rfl, hc⟩ := hv
  obtain ⟨bo, cap', rfl, hd⟩ := hu
  have HC := Lib.hid hc
  have HD := Lib.hid hd
  clear hc hd
  have hM := mem_nil w; have hB := Below.refl w.heap.size w; have hC := True.intro
  go_enter Try.func32, Try.ntmps32
  go_wp2
  go_loopw [5] (fun i wr => ∃ k : Nat, k ≤ ps.length ∧ i = .int .i64 k ∧ Below w.heap.size w wr) (fun i _ => ps.length - (intOf i).toNat)
  case atStart => exact ⟨0, Nat.zero_le _, rfl, by (repeat' (first | (with_reducible exact hB) | (with_reducible exact Below.refl _ _) | (with_reducible refine Below.alloc ?_ ?_ _) | (with_reducible refine Below.setCell ?_ ?_ _) | (with_reducible refine Below.drew ?_) | (with_reducible refine below_drewN ?_ _) | (with_reducible exact Nat.le_refl _) | (with_reducible exact hB.size) | (simp [go_sem]; done) | (have := hB.size; simp [go_sem]; omega)))⟩
  case round =>
    obtain ⟨k, hk, rfl, hB'⟩ := hrel
    clear hB hM hC
    have hB := hB'
    clear hB'
    by_cases hlt : k < ps.length
    · obtain ⟨g, rfl, h1⟩ := HC.out k hlt
      obtain ⟨g', rfl, h2⟩ := HD.out k hlt
      generalize atP ps k = m at h1 h2
      obtain ⟨p, q⟩ := m
      have HQ := Lib.hid (show ∀ W' : World, Below w.heap.size w W' → (W'.cell? ⟨g, k * 2, none⟩ = some (.int .i64 p) ∧ W'.cell? ⟨g, k * 2 + 1, none⟩ = some (.int .i64 q)) ∧ (W'.cell? ⟨g', k * 2, none⟩ = some (.int .i64 p) ∧ W'.cell? ⟨g', k * 2 + 1, none⟩ = some (.int .i64 q)) from fun W' hb => ⟨h1.below hb, h2.below hb⟩)
      clear h1 h2
      obtain ⟨⟨a1, a2⟩, b1, b2⟩ := HQ.out _ hB
      have hM := mem_nil wr
      have hC := True.intro
      go_wp2_with fail
      (refine wp_region_T2 (fun W' => (W'.cell? ⟨g, k * 2, none⟩ = some (.int .i64 p) ∧ W'.cell? ⟨g, k * 2 + 1, none⟩ = some (.int .i64 q)) ∧ (W'.cell? ⟨g', k * 2, none⟩ = some (.int .i64 p) ∧ W'.cell? ⟨g', k * 2 + 1, none⟩ = some (.int .i64 q))) 100 (by kernel_rfl) ?_ ?_; (focus (simp [*, go_sem]; done)); intro hS)
      (refine wpT_take (i := 0) (oi := ?_) (v := ?_) hS ?_ ?_ ?_ ?_ ?_ ?_; rotate_left 2; (focus (simp only [List.getElem?_toArray, List.getElem?_cons_zero]; exact rfl)); (focus (kernel_rfl)); (focus (rfl)); (focus (intro w' hW; (try dsimp only at hW); go_simp; (try with_reducible rfl); done)); (focus (exact fun _ _ _ h => h)); (try simp only [Act.put, List.setIfInBounds_toArray, List.set_cons_zero, List.set_cons_succ])); (refine wpT_take (i := 1) (oi := ?_) (v := ?_) hS ?_ ?_ ?_ ?_ ?_ ?_; rotate_left 2; (focus (simp only [List.getElem?_toArray, List.getElem?_cons_zero, List.getElem?_cons_succ]; exact rfl)); (focus (kernel_rfl)); (focus (rfl)); (focus (intro w' hW; (try dsimp only at hW); go_simp; (try with_reducible rfl); done)); (focus (exact fun _ _ _ h => h)); (try simp only [Act.put, List.setIfInBounds_toArray, List.set_cons_zero, List.set_cons_succ])); (refine wpT_take (i := 2) (oi := ?_) (v := ?_) hS ?_ ?_ ?_ ?_ ?_ ?_; rotate_left 2; (focus (simp only [List.getElem?_toArray, List.getElem?_cons_zero, List.getElem?_cons_succ]; exact rfl)); (focus (kernel_rfl)); (focus (rfl)); (focus (intro w' hW; (try dsimp only at hW); go_simp; (try with_reducible rfl); done)); (focus (exact fun _ _ _ h => h)); (try simp only [Act.put, List.setIfInBounds_toArray, List.set_cons_zero, List.set_cons_succ])); (refine wpT_take (i := 3) (oi := ?_) (v := ?_) hS ?_ ?_ ?_ ?_ ?_ ?_; rotate_left 2; (focus (simp only [List.getElem?_toArray, List.getElem?_cons_zero, List.getElem?_cons_succ]; exact rfl)); (focus (kernel_rfl)); (focus (rfl)); (focus (intro w' hW; (try dsimp only at hW); go_simp; (try with_reducible rfl); done)); (focus (exact fun _ _ _ h => h)); (try simp only [Act.put, List.setIfInBounds_toArray, List.set_cons_zero, List.set_cons_succ])); (refine wpT_take (i := 4) (oi := ?_) (v := ?_) hS ?_ ?_ ?_ ?_ ?_ ?_; rotate_left 2; (focus (simp only [List.getElem?_toArray, List.getElem?_cons_zero, List.getElem?_cons_succ]; exact rfl)); (focus (kernel_rfl)); (focus (rfl)); (focus (intro w' hW; (try dsimp only at hW); go_simp; (try with_reducible rfl); done)); (focus (exact fun _ _ _ h => h)); (try simp only [Act.put, List.setIfInBounds_toArray, List.set_cons_zero, List.set_cons_succ])); (refine wpT_take (i := 5) (oi := ?_) (v := ?_) hS ?_ ?_ ?_ ?_ ?_ ?_; rotate_left 2; (focus (simp only [List.getElem?_toArray, List.getElem?_cons_zero, List.getElem?_cons_succ]; exact rfl)); (focus (kernel_rfl)); (focus (rfl)); (focus (intro w' hW; (try dsimp only at hW); go_simp; (try with_reducible rfl); done)); (focus (exact fun _ _ _ h => h)); (try simp only [Act.put, List.setIfInBounds_toArray, List.set_cons_zero, List.set_cons_succ])); (refine wpT_take (i := 6) (oi := ?_) (v := ?_) hS ?_ ?_ ?_ ?_ ?_ ?_; rotate_left 2; (focus (simp only [List.getElem?_toArray, List.getElem?_cons_zero, List.getElem?_cons_succ]; exact rfl)); (focus (kernel_rfl)); (focus (rfl)); (focus (intro w' hW; (try dsimp only at hW); go_simp; (try with_reducible rfl); done)); (focus (exact fun _ _ _ h => h)); (try simp only [Act.put, List.setIfInBounds_toArray, List.set_cons_zero, List.set_cons_succ])); (refine wpT_take (i := 7) (oi := ?_) (v := ?_) hS ?_ ?_ ?_ ?_ ?_ ?_; rotate_left 2; (focus (simp only [List.getElem?_toArray, List.getElem?_cons_zero, List.getElem?_cons_succ]; exact rfl)); (focus (kernel_rfl)); (focus (rfl)); (focus (intro w' hW; (try dsimp only at hW); go_simp; (try with_reducible rfl); done)); (focus (exact fun _ _ _ h => h)); (try simp only [Act.put, List.setIfInBounds_toArray, List.set_cons_zero, List.set_cons_succ]))
      (refine wpT_one (i := 8) (oi := ?_) ?_ ?_ ?_ ?_; rotate_left 1; (focus (kernel_rfl)); (focus (simp only [List.getElem?_toArray, List.getElem?_cons_zero, List.getElem?_cons_succ]; exact rfl)); (focus (rfl)); go_simp)
      (go_at_call 16; refine (eqPair_same _ _ _).mono ?_; rintro e w' ⟨rfl, hb⟩; apply after_call (w := w) hb; (focus ((repeat' (first | (with_reducible exact hM) | (with_reducible apply mem_alloc) | (with_reducible apply mem_set) | (with_reducible apply mem_drew) | (with_reducible apply mem_drewN))); done)); (focus ((repeat' (first | (with_reducible exact hB) | (with_reducible exact Below.refl _ _) | (with_reducible refine Below.alloc ?_ ?_ _) | (with_reducible refine Below.setCell ?_ ?_ _) | (with_reducible refine Below.drew ?_) | (with_reducible refine below_drewN ?_ _) | (with_reducible exact Nat.le_refl _) | (with_reducible exact hB.size) | (simp [go_sem]; done) | (have := hB.size; simp [go_sem]; omega))); done)); (focus ((repeat' (first | (with_reducible exact hB) | (with_reducible exact Below.refl _ _) | (with_reducible refine Below.alloc ?_ ?_ _) | (with_reducible refine Below.setCell ?_ ?_ _) | (with_reducible refine Below.drew ?_) | (with_reducible refine below_drewN ?_ _) | (with_reducible exact Nat.le_refl _) | (with_reducible exact hB.size) | (simp [go_sem]; done) | (have := hB.size; simp [go_sem]; omega))); done)); clear hM hB hb; intro hM hB; (try clear hC); have hC := mem_facts hM; simp at hC)
      have q2 := HQ.out _ hB
      (first | (with_reducible refine wpT_hold ?_ ?_; (focus (simp [*, go_sem]; done)); clear hS; intro hS; (try dsimp only at hS)) | (refine held_intro ?_ ?_; (focus (simp [*, go_sem]; done)); clear hS; intro hS))
      (refine wpT_take (i := 9) (oi := ?_) (v := ?_) hS ?_ ?_ ?_ ?_ ?_ ?_; rotate_left 2; (focus (simp only [List.getElem?_toArray, List.getElem?_cons_zero, List.getElem?_cons_succ]; exact rfl)); (focus (kernel_rfl)); (focus (rfl)); (focus (intro w' hW; (try dsimp only at hW); go_simp; (try with_reducible rfl); done)); (focus (exact fun _ _ _ h => h)); (try simp only [Act.put, List.setIfInBounds_toArray, List.set_cons_zero, List.set_cons_succ]))
      refine wpT_done (by kernel_rfl) ?_ _
      go_wp2_with fail
      go_roundw
      case rel => exact ⟨k + 1, by omega, by go_num, by (repeat' (first | (with_reducible exact hB) | (with_reducible exact Below.refl _ _) | (with_reducible refine Below.alloc ?_ ?_ _) | (with_reducible refine Below.setCell ?_ ?_ _) | (with_reducible refine Below.drew ?_) | (with_reducible refine below_drewN ?_ _) | (with_reducible exact Nat.le_refl _) | (with_reducible exact hB.size) | (simp [go_sem]; done) | (have := hB.size; simp [go_sem]; omega)))⟩
      case measure => simp [intOf]; omega
    · obtain rfl : k = ps.length := by omega
      go_wp2
      go_ret
      exact ⟨rfl, by (repeat' (first | (with_reducible exact hB) | (with_reducible exact Below.refl _ _) | (with_reducible refine Below.alloc ?_ ?_ _) | (with_reducible refine Below.setCell ?_ ?_ _) | (with_reducible refine Below.drew ?_) | (with_reducible refine below_drewN ?_ _) | (with_reducible exact Nat.le_refl _) | (with_reducible exact hB.size) | (simp [go_sem]; done) | (have := hB.size; simp [go_sem]; omega)))⟩
theorem szPairS_ (v : Value) (ps : List P2) (w : World) (hz : ps.length ≤ 9223372036854775807) (hv : ∃ ao cap, v = .slice ao ps.length cap) : Calls Try.prog 28 #[v, .int .i64 1048576] w (fun E' W' => E' = .returned (.int .i64 (if 1048576 < (ps.length : Int) then -1 else 1048576 - ps.length)) ∧ w = W') := by
  obtain ⟨ao, cap, rfl⟩ := hv
  by_cases h : 1048576 < (ps.length : Int)
  · rw [if_pos h]
    go_enter Try.func28, Try.ntmps28
    go_wp2
    go_ret
    exact ⟨rfl, rfl⟩
  · rw [if_neg h]
    go_enter Try.func28, Try.ntmps28
    go_wp2
    go_ret
    exact ⟨rfl, rfl⟩
set_option maxHeartbeats 2000000 in
theorem lawShortArea (v : Value) (ps : List P2) (hz : ps.length ≤ 9223372036854775807) (w : World) (hv : RdP w v ps) : Calls Try.prog 10 #[v] w (fun E' W' => E' = .returned (.bool true) ∧ Below w.heap.size w W') := by
  have cz := fun W => szPairS_ v ps W hz (by obtain ⟨ao, cap, rfl, _⟩ := hv; exact ⟨ao, cap, rfl⟩)
  have hsl : ∃ ao cap, v = .slice ao ps.length cap := by obtain ⟨ao, cap, rfl, _⟩ := hv; exact ⟨ao, cap, rfl⟩
  by_cases h : 1048576 < (ps.length : Int)
  · rw [if_pos h] at cz
    have hM := mem_nil w; have hB := Below.refl w.heap.size w; have hC := True.intro
    go_enter Try.func10, Try.ntmps10
    go_wp2_with (go_at_call 28; refine (cz _).mono ?_; rintro e w' ⟨rfl, rfl⟩)
    go_ret
    exact ⟨rfl, by (repeat' (first | (with_reducible exact hB) | (with_reducible exact Below.refl _ _) | (with_reducible refine Below.alloc ?_ ?_ _) | (with_reducible refine Below.setCell ?_ ?_ _) | (with_reducible refine Below.drew ?_) | (with_reducible refine below_drewN ?_ _) | (with_reducible exact Nat.le_refl _) | (with_reducible exact hB.size) | (simp [go_sem]; done) | (have := hB.size; simp [go_sem]; omega)))⟩
  · rw [if_neg h] at cz
    have hl : ps.length ≤ 2000000 := by omega
    have HV := Lib.hid (show ∀ W', Below w.heap.size w W' → RdP W' v ps from fun W' hb => hv.below hb)
    have HT := Lib.hid (show ∀ W', RdP W' v ps → Calls Try.prog 30 #[v] W' (ToPost ps W') from fun W' h => toPairS_ v ps hl W' h)
    clear hv hsl
    have HN : (0 : Int) ≤ 1048576 - ps.length := by omega
    generalize (1048576 : Int) - ps.length = lft at *
    have cS := fun v W h => sShortArea_ v ps hl W h
    have cI := fun v W h => ShortArea_ v ps hl W h
    generalize mArea ps = r at *
    obtain ⟨⟨A, E⟩, ok⟩ := r
    dsimp only at cS cI
    have hM := mem_nil w; have hB := Below.refl w.heap.size w; have hC := True.intro
    go_enter Try.func10, Try.ntmps10
    go_wp2_with (first | (go_at_call 28; refine (cz _).mono ?_; rintro e w' ⟨rfl, rfl⟩) | (go_at_call 30; refine (HT.out _ (HV.out _ hB)).mono ?_; rintro e w' ⟨v1, rfl, hr1, hb⟩; have hr3 := hr2.below hb; clear hr2; apply after_call (w := w) hb; (focus ((repeat' (first | (with_reducible exact hM) | (with_reducible apply mem_alloc) | (with_reducible apply mem_set) | (with_reducible apply mem_drew) | (with_reducible apply mem_drewN))); done)); (focus ((repeat' (first | (with_reducible exact hB) | (with_reducible exact Below.refl _ _) | (with_reducible refine Below.alloc ?_ ?_ _) | (with_reducible refine Below.setCell ?_ ?_ _) | (with_reducible refine Below.drew ?_) | (with_reducible refine below_drewN ?_ _) | (with_reducible exact Nat.le_refl _) | (with_reducible exact hB.size) | (simp [go_sem]; done) | (have := hB.size; simp [go_sem]; omega))); done)); (focus ((repeat' (first | (with_reducible exact hB) | (with_reducible exact Below.refl _ _) | (with_reducible refine Below.alloc ?_ ?_ _) | (with_reducible refine Below.setCell ?_ ?_ _) | (with_reducible refine Below.drew ?_) | (with_reducible refine below_drewN ?_ _) | (with_reducible exact Nat.le_refl _) | (with_reducible exact hB.size) | (simp [go_sem]; done) | (have := hB.size; simp [go_sem]; omega))); done)); clear hM hB hb; intro hM hB; (try clear hC); have hC := mem_facts hM; simp at hC) | (go_at_call 30; refine (HT.out _ (HV.out _ hB)).mono ?_; rintro e w' ⟨v1, rfl, hr1, hb⟩; apply after_call (w := w) hb; (focus ((repeat' (first | (with_reducible exact hM) | (with_reducible apply mem_alloc) | (with_reducible apply mem_set) | (with_reducible apply mem_drew) | (with_reducible apply mem_drewN))); done)); (focus ((repeat' (first | (with_reducible exact hB) | (with_reducible exact Below.refl _ _) | (with_reducible refine Below.alloc ?_ ?_ _) | (with_reducible refine Below.setCell ?_ ?_ _) | (with_reducible refine Below.drew ?_) | (with_reducible refine below_drewN ?_ _) | (with_reducible exact Nat.le_refl _) | (with_reducible exact hB.size) | (simp [go_sem]; done) | (have := hB.size; simp [go_sem]; omega))); done)); (focus ((repeat' (first | (with_reducible exact hB) | (with_reducible exact Below.refl _ _) | (with_reducible refine Below.alloc ?_ ?_ _) | (with_reducible refine Below.setCell ?_ ?_ _) | (with_reducible refine Below.drew ?_) | (with_reducible refine below_drewN ?_ _) | (with_reducible exact Nat.le_refl _) | (with_reducible exact hB.size) | (simp [go_sem]; done) | (have := hB.size; simp [go_sem]; omega))); done)); clear hM hB hb; intro hM hB; (try clear hC); have hC := mem_facts hM; simp at hC) | (((go_at_call 29; refine (cS _ _ hr1).mono ?_; rintro e w' ⟨rfl, hb⟩; apply after_call (w := w) hb; (focus ((repeat' (first | (with_reducible exact hM) | (with_reducible apply mem_alloc) | (with_reducible apply mem_set) | (with_reducible apply mem_drew) | (with_reducible apply mem_drewN))); done)); (focus ((repeat' (first | (with_reducible exact hB) | (with_reducible exact Below.refl _ _) | (with_reducible refine Below.alloc ?_ ?_ _) | (with_reducible refine Below.setCell ?_ ?_ _) | (with_reducible refine Below.drew ?_) | (with_reducible refine below_drewN ?_ _) | (with_reducible exact Nat.le_refl _) | (with_reducible exact hB.size) | (simp [go_sem]; done) | (have := hB.size; simp [go_sem]; omega))); done)); (focus ((repeat' (first | (with_reducible exact hB) | (with_reducible exact Below.refl _ _) | (with_reducible refine Below.alloc ?_ ?_ _) | (with_reducible refine Below.setCell ?_ ?_ _) | (with_reducible refine Below.drew ?_) | (with_reducible refine below_drewN ?_ _) | (with_reducible exact Nat.le_refl _) | (with_reducible exact hB.size) | (simp [go_sem]; done) | (have := hB.size; simp [go_sem]; omega))); done)); clear hM hB hb; intro hM hB; (try clear hC); have hC := mem_facts hM; simp at hC)); clear hr1) | (go_at_call 31; refine (cI _ _ hr1).mono ?_; rintro e w' ⟨rfl, hb⟩; have hr2 := hr1.below hb; clear hr1; apply after_call (w := w) hb; (focus ((repeat' (first | (with_reducible exact hM) | (with_reducible apply mem_alloc) | (with_reducible apply mem_set) | (with_reducible apply mem_drew) | (with_reducible apply mem_drewN))); done)); (focus ((repeat' (first | (with_reducible exact hB) | (with_reducible exact Below.refl _ _) | (with_reducible refine Below.alloc ?_ ?_ _) | (with_reducible refine Below.setCell ?_ ?_ _) | (with_reducible refine Below.drew ?_) | (with_reducible refine below_drewN ?_ _) | (with_reducible exact Nat.le_refl _) | (with_reducible exact hB.size) | (simp [go_sem]; done) | (have := hB.size; simp [go_sem]; omega))); done)); (focus ((repeat' (first | (with_reducible exact hB) | (with_reducible exact Below.refl _ _) | (with_reducible refine Below.alloc ?_ ?_ _) | (with_reducible refine Below.setCell ?_ ?_ _) | (with_reducible refine Below.drew ?_) | (with_reducible refine below_drewN ?_ _) | (with_reducible exact Nat.le_refl _) | (with_reducible exact hB.size) | (simp [go_sem]; done) | (have := hB.size; simp [go_sem]; omega))); done)); clear hM hB hb; intro hM hB; (try clear hC); have hC := mem_facts hM; simp at hC) | (go_at_call 32; refine (eqPairS_same _ _ _ hl _ hr3 hr1).mono ?_; rintro e w' ⟨rfl, hb⟩; apply after_call (w := w) hb; (focus ((repeat' (first | (with_reducible exact hM) | (with_reducible apply mem_alloc) | (with_reducible apply mem_set) | (with_reducible apply mem_drew) | (with_reducible apply mem_drewN))); done)); (focus ((repeat' (first | (with_reducible exact hB) | (with_reducible exact Below.refl _ _) | (with_reducible refine Below.alloc ?_ ?_ _) | (with_reducible refine Below.setCell ?_ ?_ _) | (with_reducible refine Below.drew ?_) | (with_reducible refine below_drewN ?_ _) | (with_reducible exact Nat.le_refl _) | (with_reducible exact hB.size) | (simp [go_sem]; done) | (have := hB.size; simp [go_sem]; omega))); done)); (focus ((repeat' (first | (with_reducible exact hB) | (with_reducible exact Below.refl _ _) | (with_reducible refine Below.alloc ?_ ?_ _) | (with_reducible refine Below.setCell ?_ ?_ _) | (with_reducible refine Below.drew ?_) | (with_reducible refine below_drewN ?_ _) | (with_reducible exact Nat.le_refl _) | (with_reducible exact hB.size) | (simp [go_sem]; done) | (have := hB.size; simp [go_sem]; omega))); done)); clear hM hB hb; intro hM hB; (try clear hC); have hC := mem_facts hM; simp at hC))
    go_ret
    exact ⟨rfl, by (repeat' (first | (with_reducible exact hB) | (with_reducible exact Below.refl _ _) | (with_reducible refine Below.alloc ?_ ?_ _) | (with_reducible refine Below.setCell ?_ ?_ _) | (with_reducible refine Below.drew ?_) | (with_reducible refine below_drewN ?_ _) | (with_reducible exact Nat.le_refl _) | (with_reducible exact hB.size) | (simp [go_sem]; done) | (have := hB.size; simp [go_sem]; omega)))⟩
/-- an argument that is a list of pairs reads as one -/
theorem rdP_open {H : Type} {enc : TypeId × Value → H} {W : World} {base : Nat} {spare : Nat → Bool} {held : Bool} {fuel : Nat} {a : Option Addr} {len cap : Nat} {x : DataW H × List MemPlace}
    (h : DataW.trod enc Try.prog W base spare held fuel 43 (Value.slice a len cap).cells.toList = some x) : ∃ ps : List P2, ps.length = len ∧ ps.length ≤ 9223372036854775807 ∧ RdP W (.slice a len cap) ps := by
  rcases Go.Deep.open_slice_pairs Try.underlying43 (by rw [Try.underlying23]) (by kernel_rfl) rfl rfl (by kernel_rfl) (by kernel_rfl) h with ⟨hcs, _⟩ | ⟨y, l, c, m, n, V0, V1, D0, D1, P0, P1, hcs, _, hl, hm, hmm, _, hi⟩
  · simp [Value.cells] at hcs
    obtain ⟨rfl, rfl, rfl⟩ := hcs
    exact ⟨[], rfl, by simp, none, 0, rfl, fun j hj => absurd hj (by simp)⟩
  · simp [Value.cells] at hcs
    obtain ⟨rfl, rfl, rfl⟩ := hcs
    have hlm : len ≤ m := by rw [hmm]; split <;> omega
    refine ⟨(List.range len).map fun i => ⟨intOf (V0 i), intOf (V1 i)⟩, by simp, by simp; unfold maxLen at hm; omega, some y, cap, by simp, fun j hj => ?_⟩
    have hj' : j < len := by simpa using hj
    obtain ⟨k1, k2, k3, k4⟩ := hi j (by omega)
    obtain ⟨n0, e0, _, _⟩ := DataW.trod_int Try.underlying3 k3
    obtain ⟨n1, e1, _, _⟩ := DataW.trod_int Try.underlying3 k4
    simp only [List.cons.injEq, and_true] at e0 e1
    obtain ⟨b, off, spot⟩ := y
    have hspot : spot = none := by simpa [Addr.add] using World.cell?_spot (hi 0 (by omega)).1
    subst hspot
    refine ⟨b, off, rfl, ?_⟩
    have hat : atP ((List.range len).map fun i => (⟨intOf (V0 i), intOf (V1 i)⟩ : P2)) j = ⟨n0, n1⟩ := by
      simp [atP, List.getD, hj', e0, e1, intOf]
    rw [hat]
    rw [e0, Addr.add_lit] at k1
    rw [e1, Addr.add_lit] at k2
    exact ⟨k1, k2⟩
theorem goShortArea (a : Option Addr) (len cap : Nat) (ps : List P2) (w : World) (hz : ps.length ≤ 9223372036854775807) (h : RdP w (.slice a len cap) ps) : Calls Try.prog 10 #[.slice a len cap] w (fun E' W' => E' = .returned (.bool true) ∧ Below w.heap.size w W') := lawShortArea _ ps hz w h
end Go.Proofs.Ytcifdnidhiofkaa


/- The lists that come from a list by taking numbers from the beginning to the end, as the program yields them, walked: two copies of it in one block, and pieces of it. Under bounds on its length. -/
import Derived.Test.YtbpaklcibkifnaaDoorTurnI
import Derived.Test.YtbpaklcibkifnaaDoorTurnC
import Derived.Laws.CopyOwn
namespace Go.Proofs.YtbpaklcibkifnaaDoor
open Go.RowKit Go.Shelf
attribute [local go_sem] Oper.semAt_some

/-- the cells of block g laid anew -/
def setR (g : Nat) (cs : Array Value) (L : List (Nat × Array Value × TypeId)) : List (Nat × Array Value × TypeId) := L.map fun p => if p.1 = g then (p.1, cs, p.2.2) else p
theorem mem_setRow {W : World} {L : List (Nat × Array Value × TypeId)} {g : Nat} {cs : Array Value} (h : Mem W L) : Mem (W.setRow g cs) (setR g cs L) := by
  refine ⟨fun p hp => ?_, ?_⟩
  · obtain ⟨q, hq, rfl⟩ := List.mem_map.1 hp
    by_cases e : q.1 = g
    · rw [if_pos e]
      have := h.1 q hq
      rw [e] at this
      exact setRow_heap W g q.2.1 cs q.2.2 (0, 0) this |> fun k => by rw [e]; exact k
    · rw [if_neg e]
      exact (setRow_other W g q.1 cs e).trans (h.1 q hq)
  · refine List.pairwise_map.2 (h.2.imp fun {a b} hab => ?_)
    by_cases e1 : a.1 = g <;> by_cases e2 : b.1 = g <;> simp [e1, e2] <;> omega
theorem after_row {w W : World} {L : List (Nat × Array Value × TypeId)} {g : Nat} {cs : Array Value} {G : World → Prop} (hm : Mem W L) (hB : Below w.heap.size w W) (hg : w.heap.size ≤ g)
    (k : ∀ w', Mem w' (setR g cs L) → Below w.heap.size w w' → G w') : G (W.setRow g cs) := k _ (mem_setRow hm) (below_setRow hB hg cs)
theorem rounds_size : (Tryd.prog.info? 3).map (·.size) = some 1 := by kernel_rfl
/-- what 'rounds' leaves -/
def RdsPost (w : World) (zs : List Int) (e : Ending) (W' : World) : Prop := ∃ b0 b1 b2 : Nat, e = .returned (.func (.func 59) #[] #[.pointer (some ⟨b0, 0, none⟩), .pointer (some ⟨b2, 0, none⟩)]) ∧ w.heap.size ≤ b0 ∧
  Mem W' [(b2, #[.slice (some ⟨b1, 0, none⟩) (2 * zs.length) (2 * zs.length)], 39), (b1, ics (zs ++ zs), 3), (b0, #[.int .i64 zs.length], 3)] ∧ Below w.heap.size w W'
set_option maxRecDepth 100000 in
set_option maxHeartbeats 1000000 in
theorem rounds_ (v : Value) (zs : List Int) (h1 : 1 ≤ zs.length) (h20 : zs.length ≤ 20) (w : World) (hv : RdO w v zs) : Calls Tryd.prog 43 #[v] w (RdsPost w zs) := by
  obtain ⟨ao, cap, rfl, hcap, hc⟩ := hv
  obtain ⟨g, o, rfl, hc0⟩ := hc 0 (by omega)
  have hg : g < w.heap.size := World.block_lt_of_cell? w _ hc0
  have HC := Lib.hid hc
  clear hc hc0
  have hmk : ∀ W : World, (Instr.makeSlice 39 (.int .i64 (2 * (zs.length : Int))) (.int .i64 (2 * (zs.length : Int)))).run Tryd.prog W = .ok (.slice (some ⟨W.heap.size, 0, none⟩) (2 * zs.length) (2 * zs.length)) (W.alloc (.cells (madeCells #[.int .i64 0] (2 * zs.length)) 3)) := fun W => by
    have := run_make_row' (P := Tryd.prog) 39 3 (.int .i64 0) 8 Tryd.underlying39 infoI64 rfl .i64 .i64 (2 * zs.length) (by omega) (by omega) W
    simpa using this
  have hM := mem_nil w; have hB := Below.refl w.heap.size w; have hC := True.intro
  go_enter Tryd.func43, Tryd.ntmps43
  go_upto_region 3 with fail
  obtain ⟨w1, hw1⟩ : ∃ w1 : World, w1 = (((w.alloc (.cells #[.int .i64 zs.length] 3)).alloc (.cells (madeCells #[.int .i64 0] (2 * zs.length)) 3)).alloc (.cells #[.slice (some ⟨w.heap.size + 1, 0, none⟩) (2 * zs.length) (2 * zs.length)] 39)) := ⟨_, rfl⟩
  rw [← hw1]
  have hM1 : Mem w1 [(w.heap.size + 1 + 1, #[.slice (some ⟨w.heap.size + 1, 0, none⟩) (2 * zs.length) (2 * zs.length)], 39), (w.heap.size + 1, madeCells #[.int .i64 0] (2 * zs.length), 3), (w.heap.size, #[.int .i64 zs.length], 3)] := by
    rw [hw1]
    apply mem_drop 0
    · (repeat' (first | (with_reducible exact hM) | (with_reducible apply mem_alloc) | (with_reducible apply mem_set) | (with_reducible apply mem_drew) | (with_reducible apply mem_drewN)))
    · simp
  have hB1 : Below w.heap.size w w1 := by rw [hw1]; exact by (repeat' (first | (with_reducible exact hB) | (with_reducible exact Below.refl _ _) | (with_reducible refine Below.alloc ?_ ?_ _) | (with_reducible refine Below.setCell ?_ ?_ _) | (with_reducible refine Below.drew ?_) | (with_reducible refine below_drewN ?_ _) | (with_reducible exact Nat.le_refl _) | (with_reducible exact hB.size) | (simp [go_sem]; done) | (have := hB.size; simp [go_sem]; omega)))
  clear hw1 hM hB hC hmk
  have hcs := size_madeCells #[.int .i64 0] (2 * zs.length)
  have hcl := toList_madeCells_one (.int .i64 0) (2 * zs.length)
  generalize madeCells #[.int .i64 0] (2 * zs.length) = cur at *
  have HCL := Lib.hid hcl
  clear hcl
  have hM := hM1
  have hB := hB1
  clear hM1 hB1
  have hC := mem_facts hM
  simp at hC
  have hsrc : ∀ W : World, Below w.heap.size w W → ∀ j v, (zs.map (Value.int .i64))[j]? = some v → W.cell? ((⟨g, o, none⟩ : Addr).add j) = some v := fun W hb j v hv => by
    have hj : j < zs.length := by
      have := (List.getElem?_eq_some_iff.1 hv).1
      simpa using this
    obtain ⟨g', o', e', h3⟩ := HC.out j hj
    injection e' with e'
    injection e' with e1 e2
    subst e1 e2
    rw [Addr.add_lit, hb.cell (p := ⟨g, o + j, none⟩) hg, h3]
    simp at hv
    obtain ⟨a, ha, rfl⟩ := hv
    simp [List.getD, ha]
  have HS := Lib.hid hsrc
  clear hsrc
  obtain ⟨c1, hc1⟩ : ∃ c1 : Array Value, c1 = (zs.map (Value.int .i64) ++ cur.toList.drop zs.length).toArray := ⟨_, rfl⟩
  have hcp : (Builtin.copy_ #[39, 39] 3 #[.slice (some ⟨w.heap.size + 1, 0, none⟩) (2 * zs.length) (2 * zs.length), .slice (some ⟨g, o, none⟩) zs.length cap]).run Tryd.prog w1 = .ok (goInt zs.length) (w1.setRow (w.heap.size + 1) c1) := by
    have := run_copy_row (P := Tryd.prog) w1 39 39 3 3 (w.heap.size + 1) 0 (2 * zs.length) (2 * zs.length) ⟨g, o, none⟩ zs.length cap cur 3 (zs.map (Value.int .i64)) Tryd.underlying39 rounds_size
      (hM.1 _ (List.mem_cons_of_mem _ List.mem_cons_self)) (by rw [List.length_map]; exact (Nat.min_eq_left (by omega)).symm) (HS.out _ hB) (by rw [hcs, List.length_map]; omega) (by simp [Value.oneCell'])
    rw [List.take_zero, List.nil_append, List.length_map, Nat.zero_add, ← hc1] at this
    exact this
  have HC1 := Lib.hid hc1
  clear hc1
  go_upto_region 4 with fail
  have hM1 := mem_setRow (g := w.heap.size + 1) (cs := c1) hM
  have hB1 := below_setRow hB (Nat.le_succ w.heap.size) c1
  generalize w1.setRow (w.heap.size + 1) c1 = w2 at *
  clear hM hB hC hcp
  have hM : Mem w2 [(w.heap.size + 1 + 1, #[.slice (some ⟨w.heap.size + 1, 0, none⟩) (2 * zs.length) (2 * zs.length)], 39), (w.heap.size + 1, c1, 3), (w.heap.size, #[.int .i64 zs.length], 3)] := by simpa [setR] using hM1
  have hB := hB1
  clear hM1 hB1
  have hC := mem_facts hM
  simp at hC
  have hl : (zs.map (Value.int .i64)).length = zs.length := List.length_map _
  have hc1l : c1.toList = zs.map (Value.int .i64) ++ cur.toList.drop zs.length := by rw [HC1.out]
  have hd : (cur.toList.drop zs.length).length = zs.length := by rw [List.length_drop, Array.length_toList, hcs]; omega
  have hc1s : c1.size = 2 * zs.length := by rw [← Array.length_toList, hc1l, List.length_append, hl, hd]; omega
  have hc2 : (c1.toList.take zs.length ++ zs.map (Value.int .i64) ++ c1.toList.drop (zs.length + zs.length)).toArray = ics (zs ++ zs) := by
    rw [hc1l, List.take_append_of_le_length (by omega), List.take_of_length_le (by omega), List.drop_of_length_le (by rw [List.length_append, hl, hd]; exact Nat.le_refl _), List.append_nil, ics, List.map_append]
  have hcp : (Builtin.copy_ #[39, 39] 3 #[.slice (some ⟨w.heap.size + 1, zs.length, none⟩) (2 * zs.length - zs.length) (2 * zs.length - zs.length), .slice (some ⟨g, o, none⟩) zs.length cap]).run Tryd.prog w2 = .ok (goInt zs.length) (w2.setRow (w.heap.size + 1) (ics (zs ++ zs))) := by
    have := run_copy_row (P := Tryd.prog) w2 39 39 3 3 (w.heap.size + 1) zs.length (2 * zs.length - zs.length) (2 * zs.length - zs.length) ⟨g, o, none⟩ zs.length cap c1 3 (zs.map (Value.int .i64)) Tryd.underlying39 rounds_size
      (hM.1 _ (List.mem_cons_of_mem _ List.mem_cons_self)) (by rw [hl]; exact (Nat.min_eq_left (by omega)).symm) (HS.out _ hB) (by rw [hc1s, hl]; omega) (by simp [Value.oneCell'])
    rw [hl, hc2] at this
    exact this
  clear hc2 hc1l hl hd hc1s HC1 HCL hcs
  have hM1 := mem_setRow (g := w.heap.size + 1) (cs := ics (zs ++ zs)) hM
  have hB1 := below_setRow hB (Nat.le_succ w.heap.size) (ics (zs ++ zs))
  have HM1 := Lib.hid hM1
  have HB1 := Lib.hid hB1
  clear hM1 hB1 hM hB
  go_wp2_with fail
  go_ret
  exact ⟨w.heap.size, w.heap.size + 1, w.heap.size + 1 + 1, rfl, Nat.le_refl _, by simpa [setR] using HM1.out, HB1.out⟩
end Go.Proofs.YtbpaklcibkifnaaDoor

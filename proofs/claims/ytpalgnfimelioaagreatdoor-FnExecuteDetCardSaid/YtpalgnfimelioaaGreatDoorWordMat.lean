
/- The program's matrix of a word, walked. -/
import Derived.Test.YtpalgnfimelioaaGreatDoorWordIn
import Derived.Test.YtpalgnfimelioaaGreatDoorImplB
namespace Go.Proofs.YtpalgnfimelioaaGreatDoor
open Go.RowKit Go.Shelf
attribute [local go_sem] Oper.semAt_some

theorem letMat_ (c : UInt8) (w : World) : Calls Tryz.prog 42 #[.int .u8 (c.toNat : Int)] w (fun E' W' => E' = .returned (.agg #[.int .i64 ((lm c)).a, .int .i64 ((lm c)).b, .int .i64 ((lm c)).c, .int .i64 ((lm c)).d]) ∧ Below w.heap.size w W') := by
  by_cases h : c = 76
  · subst h
    have hM := mem_nil w; have hB := Below.refl w.heap.size w; have hC := True.intro
    go_enter Tryz.func42, Tryz.ntmps42
    go_wp2
    refine bodyPost_ret (by (simp [results, Tryz.results42, go_sem, *]; try rfl)) rfl ?_
    exact ⟨by simp [lm], by (repeat' (first | (with_reducible exact hB) | (with_reducible exact Below.refl _ _) | (with_reducible refine Below.alloc ?_ ?_ _) | (with_reducible refine Below.setCell ?_ ?_ _) | (with_reducible refine Below.drew ?_) | (with_reducible refine below_drewN ?_ _) | (with_reducible exact Nat.le_refl _) | (with_reducible exact hB.size) | (simp [go_sem]; done) | (have := hB.size; simp [go_sem]; omega)))⟩
  · have h1 : ((c.toNat : Int) == 76) = false := by
      have : c.toNat ≠ 76 := fun e => h (UInt8.toNat_inj.1 e)
      simp; omega
    have hM := mem_nil w; have hB := Below.refl w.heap.size w; have hC := True.intro
    go_enter Tryz.func42, Tryz.ntmps42
    go_wp2
    refine bodyPost_ret (by (simp [results, Tryz.results42, go_sem, *]; try rfl)) rfl ?_
    exact ⟨by simp [lm, h], by (repeat' (first | (with_reducible exact hB) | (with_reducible exact Below.refl _ _) | (with_reducible refine Below.alloc ?_ ?_ _) | (with_reducible refine Below.setCell ?_ ?_ _) | (with_reducible refine Below.drew ?_) | (with_reducible refine below_drewN ?_ _) | (with_reducible exact Nat.le_refl _) | (with_reducible exact hB.size) | (simp [go_sem]; done) | (have := hB.size; simp [go_sem]; omega)))⟩

set_option maxRecDepth 100000 in
set_option maxHeartbeats 2000000 in
theorem wordMat_ (s : ByteArray) (hs : s.size ≤ 1000000000) (w : World) : Calls Tryz.prog 19 #[.string s] w (fun E' W' => E' = .returned (.agg #[.int .i64 ((im s.data.toList)).a, .int .i64 ((im s.data.toList)).b, .int .i64 ((im s.data.toList)).c, .int .i64 ((im s.data.toList)).d]) ∧ Below w.heap.size w W') := by
  refine (callsIn_wide (n := 6)).1 ?_
  refine callsIn_of_wp_marks Tryz.func19 rfl trivial ?_ rfl
  simp only [Tryz.ntmps19, List.size_toArray, List.length_cons, List.length_nil, Nat.reduceAdd, Nat.reduceSub, Array.replicate_succ, Array.replicate_zero, List.push_toArray, List.append_toArray, List.nil_append, List.cons_append]
  have hM := mem_nil w; have hB := Below.refl w.heap.size w; have hC := True.intro
  gi_wp2_with (first | (refine ⟨trivial, ?_⟩; gi_at_call 25; refine (callsIn_wide.2 (unit_ _)).mono ?_; rintro e w' ⟨rfl, hb⟩; apply after_call (w := w) hb; (focus ((repeat' (first | (with_reducible exact hM) | (with_reducible apply mem_alloc) | (with_reducible apply mem_set) | (with_reducible apply mem_drew) | (with_reducible apply mem_drewN))); done)); (focus ((repeat' (first | (with_reducible exact hB) | (with_reducible exact Below.refl _ _) | (with_reducible refine Below.alloc ?_ ?_ _) | (with_reducible refine Below.setCell ?_ ?_ _) | (with_reducible refine Below.drew ?_) | (with_reducible refine below_drewN ?_ _) | (with_reducible exact Nat.le_refl _) | (with_reducible exact hB.size) | (simp [go_sem]; done) | (have := hB.size; simp [go_sem]; omega))); done)); (focus ((repeat' (first | (with_reducible exact hB) | (with_reducible exact Below.refl _ _) | (with_reducible refine Below.alloc ?_ ?_ _) | (with_reducible refine Below.setCell ?_ ?_ _) | (with_reducible refine Below.drew ?_) | (with_reducible refine below_drewN ?_ _) | (with_reducible exact Nat.le_refl _) | (with_reducible exact hB.size) | (simp [go_sem]; done) | (have := hB.size; simp [go_sem]; omega))); done)); clear hM hB hb; intro hM hB; (try clear hC); have hC := mem_facts hM; simp at hC) | (refine ⟨trivial, ?_⟩; gi_at_call 40; refine (callsIn_wide.2 (letters_ _ _)).mono ?_; rintro e w' ⟨rfl, rfl⟩))
  obtain ⟨w1, rfl⟩ : ∃ w1 : World, w1 = w' := ⟨_, rfl⟩
  have hw1 : w.heap.size ≤ w1.heap.size := hB.size
  refine wpIn_rangeFunc_ownF rfl (by omega) (gf := 82) (lb := #[.pointer (some ⟨w1.heap.size + 1, 0, none⟩)]) rfl trivial (enters_of Tryz.func82 (by kernel_rfl) rfl)
    (letters_stops Fence.wide 5 trivial rfl (by omega) (w1.heap.size + 1) s (by omega) _ (by simp) ?cell) kc_t (kc_b (by simp)) (Below.refl _ _) (fun _ => rfl)
    (MB w (fun pre => [(w1.heap.size + 1, #[.string s], 40), (w1.heap.size, #[.int .i64 (im pre).a, .int .i64 (im pre).b, .int .i64 (im pre).c, .int .i64 (im pre).d], 25), (w.heap.size, #[.int .i64 0, .int .i64 0, .int .i64 0, .int .i64 0], 25)]))
    (fun _ _ _ => False)
    (mb_own (by simp; omega) _) (fun _ _ _ _ _ hs _ _ => hs) ?start
    (fun x => { tmps := #[.string s, undef, .pointer (some ⟨w.heap.size, 0, none⟩), .pointer (some ⟨w1.heap.size, 0, none⟩), .int .u8 (x.toNat : Int), .agg #[.int .i64 1, .int .i64 0, .int .i64 0, .int .i64 1], .string s, .func (.func 82) #[] #[.pointer (some ⟨w1.heap.size + 1, 0, none⟩)], .int .u8 (x.toNat : Int), undef, undef, undef, undef, undef], defers := [] }) ?assign ?body ?done ?stop
  case cell => simp
  case start =>
    refine ⟨?_, by (repeat' (first | (with_reducible exact hB) | (with_reducible exact Below.refl _ _) | (with_reducible refine Below.alloc ?_ ?_ _) | (with_reducible refine Below.setCell ?_ ?_ _) | (with_reducible refine Below.drew ?_) | (with_reducible refine below_drewN ?_ _) | (with_reducible exact Nat.le_refl _) | (with_reducible exact hB.size) | (simp [go_sem]; done) | (have := hB.size; simp [go_sem]; omega)))⟩
    apply mem_drop 0
    · (repeat' (first | (with_reducible exact hM) | (with_reducible apply mem_alloc) | (with_reducible apply mem_set) | (with_reducible apply mem_drew) | (with_reducible apply mem_drewN)))
    · simp [im, unitM]
  case assign =>
    intro l x W K hK
    simp only [encL]
    gi_wp2
    exact hK
  case body =>
    rintro l pre x W ⟨hM', hB'⟩ _
    (try clear hC); clear hM hB; have hM := hM'; have hB := hB'; clear hM' hB'; have hC := mem_facts hM; simp at hC
    have hK := KeepsOthers.refl W
    have hM0 := Lib.hid hM
    have hmx : Tryz.prog.follows .mixedOrders = true := by kernel_rfl
    gi_wp2
    gi_region_with_o (first | (refine ⟨trivial, ?_⟩; gi_at_call 42; refine (CallsIn.inRound l (callsIn_wide.2 (letMat_ _ _))).mono ?_; rintro e w' ⟨rfl, hb⟩; replace hK := keeps_call (A := W) (hK := (by repeat' (first | (with_reducible exact hK) | (with_reducible exact KeepsOthers.refl _) | (with_reducible apply keeps_alloc) | (with_reducible apply keeps_set) | (with_reducible apply keeps_drew) | (with_reducible apply keeps_drewN)))) hb; apply after_call (w := w) hb; (focus ((repeat' (first | (with_reducible exact hM) | (with_reducible apply mem_alloc) | (with_reducible apply mem_set) | (with_reducible apply mem_drew) | (with_reducible apply mem_drewN))); done)); (focus ((repeat' (first | (with_reducible exact hB) | (with_reducible exact Below.refl _ _) | (with_reducible refine Below.alloc ?_ ?_ _) | (with_reducible refine Below.setCell ?_ ?_ _) | (with_reducible refine Below.drew ?_) | (with_reducible refine below_drewN ?_ _) | (with_reducible exact Nat.le_refl _) | (with_reducible exact hB.size) | (simp [go_sem]; done) | (have := hB.size; simp [go_sem]; omega))); done)); (focus ((repeat' (first | (with_reducible exact hB) | (with_reducible exact Below.refl _ _) | (with_reducible refine Below.alloc ?_ ?_ _) | (with_reducible refine Below.setCell ?_ ?_ _) | (with_reducible refine Below.drew ?_) | (with_reducible refine below_drewN ?_ _) | (with_reducible exact Nat.le_refl _) | (with_reducible exact hB.size) | (simp [go_sem]; done) | (have := hB.size; simp [go_sem]; omega))); done)); clear hM hB hb; intro hM hB; (try clear hC); have hC := mem_facts hM; simp at hC) | (refine ⟨trivial, ?_⟩; gi_at_call 41; refine (CallsIn.inRound l (callsIn_wide.2 (times_ _ _ _ _ _ _ _ _ _))).mono ?_; rintro e w' ⟨rfl, hb⟩; replace hK := keeps_call (A := W) (hK := (by repeat' (first | (with_reducible exact hK) | (with_reducible exact KeepsOthers.refl _) | (with_reducible apply keeps_alloc) | (with_reducible apply keeps_set) | (with_reducible apply keeps_drew) | (with_reducible apply keeps_drewN)))) hb; apply after_call (w := w) hb; (focus ((repeat' (first | (with_reducible exact hM) | (with_reducible apply mem_alloc) | (with_reducible apply mem_set) | (with_reducible apply mem_drew) | (with_reducible apply mem_drewN))); done)); (focus ((repeat' (first | (with_reducible exact hB) | (with_reducible exact Below.refl _ _) | (with_reducible refine Below.alloc ?_ ?_ _) | (with_reducible refine Below.setCell ?_ ?_ _) | (with_reducible refine Below.drew ?_) | (with_reducible refine below_drewN ?_ _) | (with_reducible exact Nat.le_refl _) | (with_reducible exact hB.size) | (simp [go_sem]; done) | (have := hB.size; simp [go_sem]; omega))); done)); (focus ((repeat' (first | (with_reducible exact hB) | (with_reducible exact Below.refl _ _) | (with_reducible refine Below.alloc ?_ ?_ _) | (with_reducible refine Below.setCell ?_ ?_ _) | (with_reducible refine Below.drew ?_) | (with_reducible refine below_drewN ?_ _) | (with_reducible exact Nat.le_refl _) | (with_reducible exact hB.size) | (simp [go_sem]; done) | (have := hB.size; simp [go_sem]; omega))); done)); clear hM hB hb; intro hM hB; (try clear hC); have hC := mem_facts hM; simp at hC))
    all_goals
      gi_wp2
      refine ⟨(by repeat' (first | (with_reducible exact hK) | (with_reducible exact KeepsOthers.refl _) | (with_reducible apply keeps_alloc) | (with_reducible apply keeps_set) | (with_reducible apply keeps_drew) | (with_reducible apply keeps_drewN))), ?_, ?_, by (repeat' (first | (with_reducible exact hB) | (with_reducible exact Below.refl _ _) | (with_reducible refine Below.alloc ?_ ?_ _) | (with_reducible refine Below.setCell ?_ ?_ _) | (with_reducible refine Below.drew ?_) | (with_reducible refine below_drewN ?_ _) | (with_reducible exact Nat.le_refl _) | (with_reducible exact hB.size) | (simp [go_sem]; done) | (have := hB.size; simp [go_sem]; omega)))⟩
      · refine kc_mem hM0.out (L' := [(w1.heap.size + 1, #[.string s], 40), (w1.heap.size, #[.int .i64 (im (pre ++ [x])).a, .int .i64 (im (pre ++ [x])).b, .int .i64 (im (pre ++ [x])).c, .int .i64 (im (pre ++ [x])).d], 25), (w.heap.size, #[.int .i64 0, .int .i64 0, .int .i64 0, .int .i64 0], 25)]) ?_ List.mem_cons_self List.mem_cons_self
        apply mem_drop 0
        · (repeat' (first | (with_reducible exact hM) | (with_reducible apply mem_alloc) | (with_reducible apply mem_set) | (with_reducible apply mem_drew) | (with_reducible apply mem_drewN)))
        · simp [im_snoc, *]
      · apply mem_drop 0
        · (repeat' (first | (with_reducible exact hM) | (with_reducible apply mem_alloc) | (with_reducible apply mem_set) | (with_reducible apply mem_drew) | (with_reducible apply mem_drewN)))
        · simp [im_snoc, *]
  case done =>
    rintro D ys W hD rfl ⟨hM', hB'⟩ hd
    (try clear hC); clear hM hB; have hM := hM'; have hB := hB'; clear hM' hB'; have hC := mem_facts hM; simp at hC
    have hK := KeepsOthers.refl W
    gi_wp2
    refine fin_marks (w := w) hd hD (by simp; omega) (by repeat' (first | (with_reducible exact hK) | (with_reducible exact KeepsOthers.refl _) | (with_reducible apply keeps_alloc) | (with_reducible apply keeps_set) | (with_reducible apply keeps_drew) | (with_reducible apply keeps_drewN))) (L := [(w1.heap.size + 1, #[.string s], 40), (w1.heap.size, #[.int .i64 (im s.data.toList).a, .int .i64 (im s.data.toList).b, .int .i64 (im s.data.toList).c, .int .i64 (im s.data.toList).d], 25), (w.heap.size, #[.int .i64 (im s.data.toList).a, .int .i64 (im s.data.toList).b, .int .i64 (im s.data.toList).c, .int .i64 (im s.data.toList).d], 25)]) ?_ (by (repeat' (first | (with_reducible exact hB) | (with_reducible exact Below.refl _ _) | (with_reducible refine Below.alloc ?_ ?_ _) | (with_reducible refine Below.setCell ?_ ?_ _) | (with_reducible refine Below.drew ?_) | (with_reducible refine below_drewN ?_ _) | (with_reducible exact Nat.le_refl _) | (with_reducible exact hB.size) | (simp [go_sem]; done) | (have := hB.size; simp [go_sem]; omega)))) ?_
    · apply mem_drop 0
      · (repeat' (first | (with_reducible exact hM) | (with_reducible apply mem_alloc) | (with_reducible apply mem_set) | (with_reducible apply mem_drew) | (with_reducible apply mem_drewN)))
      · simp [hC]
    · intro W' hM' hB'
      have hC' := mem_facts hM'
      simp at hC'
      exact ⟨.agg #[.int .i64 ((im s.data.toList)).a, .int .i64 ((im s.data.toList)).b, .int .i64 ((im s.data.toList)).c, .int .i64 ((im s.data.toList)).d], by simp [results, Tryz.f19, go_sem, hC'], rfl, hB'⟩
  case stop =>
    rintro D c pre W hD hpre h hd
    exact h.elim
end Go.Proofs.YtpalgnfimelioaaGreatDoor

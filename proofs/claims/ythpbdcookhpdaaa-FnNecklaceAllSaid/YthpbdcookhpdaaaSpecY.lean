
/- The model's word of a matrix, walked. -/
import Derived.Test.YthpbdcookhpdaaaSpecX
namespace Go.Proofs.Ythpbdcookhpdaaa
open Go.RowKit

/-- at the head of a round of the model's 'WordOf' -/
def WoRel (m0 : M) (w : World) (v : Value) (wr : World) : Prop := ∃ (m : M) (t : ByteArray), v = .string t ∧ Mem wr [(w.heap.size, #[.int .i64 m.a, .int .i64 m.b, .int .i64 m.c, .int .i64 m.d], 31)] ∧ Below w.heap.size w wr ∧
  inB m = true ∧ nnM m ∧ xd m = 1 ∧ t.size ≤ 40 ∧ wl m0 = t.data.toList ++ wl m
open Classical in
/-- what is left of the matrix, read off the world -/
noncomputable def leftM (w wr : World) : Nat := if h : ∃ m : M, Mem wr [(w.heap.size, #[.int .i64 m.a, .int .i64 m.b, .int .i64 m.c, .int .i64 m.d], 31)] then P1 (Classical.choose h) + P2 (Classical.choose h) else 0
theorem leftM_eq {w wr : World} {m : M} (h : Mem wr [(w.heap.size, #[.int .i64 m.a, .int .i64 m.b, .int .i64 m.c, .int .i64 m.d], 31)]) : leftM w wr = P1 m + P2 m := by
  have hex : ∃ m : M, Mem wr [(w.heap.size, #[.int .i64 m.a, .int .i64 m.b, .int .i64 m.c, .int .i64 m.d], 31)] := ⟨m, h⟩
  unfold leftM
  rw [dif_pos hex]
  have h1 := (Classical.choose_spec hex).1 _ List.mem_cons_self
  have h2 := h.1 _ List.mem_cons_self
  rw [h1] at h2
  simp at h2
  obtain ⟨e1, e2, e3, e4⟩ := h2
  rw [M.ext' e1 e2 e3 e4]

theorem mat_neq {a b c d : Int} (h : ¬ (a = 1 ∧ b = 0 ∧ c = 0 ∧ d = 1)) (W : World) : (binOp .neq 31 (.agg #[.int .i64 a, .int .i64 b, .int .i64 c, .int .i64 d]) (.agg #[.int .i64 1, .int .i64 0, .int .i64 0, .int .i64 1])).run Try.prog W = .ok (.bool true) W := by
  by_cases h1 : a = 1
  · by_cases h2 : b = 0
    · by_cases h3 : c = 0
      · have h4 : ¬ d = 1 := fun h4 => h ⟨h1, h2, h3, h4⟩
        subst h1 h2 h3
        have h5 : (d == 1) = false := by simp [h4]
        go_simp
      · subst h1 h2
        have h5 : (c == 0) = false := by simp [h3]
        go_simp
    · subst h1
      have h5 : (b == 0) = false := by simp [h2]
      go_simp
  · have h5 : (a == 1) = false := by simp [h1]
    go_simp
set_option maxHeartbeats 4000000 in
theorem sWordOf_yes (a b c d : Int) (h1 : inB ⟨a, b, c, d⟩ = true) (h2 : evB ⟨a, b, c, d⟩ = true) (h3 : nnM ⟨a, b, c, d⟩) (w : World) : Calls Try.prog 28 #[.agg #[.int .i64 a, .int .i64 b, .int .i64 c, .int .i64 d]] w (fun E' W' => E' = .returned (.tuple #[.string (fwd (P1 ⟨a, b, c, d⟩) (P2 ⟨a, b, c, d⟩)).1, .bool (fwd (P1 ⟨a, b, c, d⟩) (P2 ⟨a, b, c, d⟩)).2]) ∧ Below w.heap.size w W') := by
  obtain ⟨n1, n2, n3, n4⟩ := h3
  dsimp only at n1 n2 n3 n4
  have hev : (inB ⟨a, b, c, d⟩ && evB ⟨a, b, c, d⟩) = true := by simp [h1, h2]
  have HS := Lib.hid (show xd ⟨a, b, c, d⟩ = 1 from (evB_iff h1).1 h2)
  have hM := mem_nil w; have hB := Below.refl w.heap.size w; have hC := True.intro
  go_enter Try.func28, Try.ntmps28
  go_wp2_with (go_at_call 44; refine (sMatEven_ _ _ _ _ _).mono ?_; rintro e w' ⟨rfl, hb⟩; apply after_call (w := w) hb; (focus ((repeat' (first | (with_reducible exact hM) | (with_reducible apply mem_alloc) | (with_reducible apply mem_set) | (with_reducible apply mem_drew) | (with_reducible apply mem_drewN))); done)); (focus ((repeat' (first | (with_reducible exact hB) | (with_reducible exact Below.refl _ _) | (with_reducible refine Below.alloc ?_ ?_ _) | (with_reducible refine Below.setCell ?_ ?_ _) | (with_reducible refine Below.drew ?_) | (with_reducible refine below_drewN ?_ _) | (with_reducible exact Nat.le_refl _) | (with_reducible exact hB.size) | (simp [go_sem]; done) | (have := hB.size; simp [go_sem]; omega))); done)); (focus ((repeat' (first | (with_reducible exact hB) | (with_reducible exact Below.refl _ _) | (with_reducible refine Below.alloc ?_ ?_ _) | (with_reducible refine Below.setCell ?_ ?_ _) | (with_reducible refine Below.drew ?_) | (with_reducible refine below_drewN ?_ _) | (with_reducible exact Nat.le_refl _) | (with_reducible exact hB.size) | (simp [go_sem]; done) | (have := hB.size; simp [go_sem]; omega))); done)); clear hM hB hb; intro hM hB; (try clear hC); have hC := mem_facts hM; simp at hC)
  go_loopw [4] (WoRel ⟨a, b, c, d⟩ w) (fun _ wr => leftM w wr)
  case atStart =>
    refine ⟨⟨a, b, c, d⟩, ⟨#[]⟩, rfl, ?_, by (repeat' (first | (with_reducible exact hB) | (with_reducible exact Below.refl _ _) | (with_reducible refine Below.alloc ?_ ?_ _) | (with_reducible refine Below.setCell ?_ ?_ _) | (with_reducible refine Below.drew ?_) | (with_reducible refine below_drewN ?_ _) | (with_reducible exact Nat.le_refl _) | (with_reducible exact hB.size) | (simp [go_sem]; done) | (have := hB.size; simp [go_sem]; omega))), h1, ⟨n1, n2, n3, n4⟩, HS.out, by decide, rfl⟩
    apply mem_drop 0
    · (repeat' (first | (with_reducible exact hM) | (with_reducible apply mem_alloc) | (with_reducible apply mem_set) | (with_reducible apply mem_drew) | (with_reducible apply mem_drewN)))
    · simp
  case round =>
    obtain ⟨m, t, rfl, hM', hB', hin, hnn, hxd, ht, hl⟩ := hrel
    (try clear hC); clear hM hB; have hM := hM'; have hB := hB'; clear hM' hB'; have hC := mem_facts hM; simp at hC
    have HL := Lib.hid hl
    have HI := Lib.hid hin
    have HX := Lib.hid hxd
    have HM := Lib.hid (leftM_eq hM)
    clear hl hin hxd h1 h2 hev
    obtain ⟨k1, k2, k3, k4⟩ := inB_iff.1 HI.out
    obtain ⟨o1, o2, o3, o4⟩ := hnn
    by_cases hu : m = unitM
    · subst hu
      replace hM : Mem wr [(w.heap.size, #[.int .i64 1, .int .i64 0, .int .i64 0, .int .i64 1], 31)] := hM
      clear hC
      have hC := mem_facts hM
      simp at hC
      clear k1 k2 k3 k4 o1 o2 o3 o4 HM
      go_wp2_with fail
      go_region_held3 (fun W' => W'.cell? ⟨w.heap.size, 0, none⟩ = some (.int .i64 1) ∧ W'.cell? ⟨w.heap.size, 1, none⟩ = some (.int .i64 0) ∧ W'.cell? ⟨w.heap.size, 2, none⟩ = some (.int .i64 0) ∧ W'.cell? ⟨w.heap.size, 3, none⟩ = some (.int .i64 1)) ((simp [*, go_sem]; done)) (first | (go_at_call 45; refine (l1Unit_ _).mono ?_; rintro e w' ⟨rfl, hb⟩; apply after_call (w := w) hb; (focus ((repeat' (first | (with_reducible exact hM) | (with_reducible apply mem_alloc) | (with_reducible apply mem_set) | (with_reducible apply mem_drew) | (with_reducible apply mem_drewN))); done)); (focus ((repeat' (first | (with_reducible exact hB) | (with_reducible exact Below.refl _ _) | (with_reducible refine Below.alloc ?_ ?_ _) | (with_reducible refine Below.setCell ?_ ?_ _) | (with_reducible refine Below.drew ?_) | (with_reducible refine below_drewN ?_ _) | (with_reducible exact Nat.le_refl _) | (with_reducible exact hB.size) | (simp [go_sem]; done) | (have := hB.size; simp [go_sem]; omega))); done)); (focus ((repeat' (first | (with_reducible exact hB) | (with_reducible exact Below.refl _ _) | (with_reducible refine Below.alloc ?_ ?_ _) | (with_reducible refine Below.setCell ?_ ?_ _) | (with_reducible refine Below.drew ?_) | (with_reducible refine below_drewN ?_ _) | (with_reducible exact Nat.le_refl _) | (with_reducible exact hB.size) | (simp [go_sem]; done) | (have := hB.size; simp [go_sem]; omega))); done)); clear hM hB hb; intro hM hB; (try clear hC); have hC := mem_facts hM; simp at hC))
      all_goals
        go_wp2
        go_ret2
        refine ⟨?_, by (repeat' (first | (with_reducible exact hB) | (with_reducible exact Below.refl _ _) | (with_reducible refine Below.alloc ?_ ?_ _) | (with_reducible refine Below.setCell ?_ ?_ _) | (with_reducible refine Below.drew ?_) | (with_reducible refine below_drewN ?_ _) | (with_reducible exact Nat.le_refl _) | (with_reducible exact hB.size) | (simp [go_sem]; done) | (have := hB.size; simp [go_sem]; omega)))⟩
        have hw := HL.out
        rw [wl_unit, List.append_nil] at hw
        rw [fwd_yes (t := t) hw ht]
        rfl
    · have hneq := mat_neq (a := m.a) (b := m.b) (c := m.c) (d := m.d) (fun e => hu (unit_iff.2 e))
      by_cases h40 : t.size = 40
      · have hs1 : ((t.size : Int) == 40) = true := by simp; omega
        have H40 := Lib.hid h40
        clear h40
        go_wp2_with fail
        go_region_held3 (fun W' => W'.cell? ⟨w.heap.size, 0, none⟩ = some (.int .i64 m.a) ∧ W'.cell? ⟨w.heap.size, 1, none⟩ = some (.int .i64 m.b) ∧ W'.cell? ⟨w.heap.size, 2, none⟩ = some (.int .i64 m.c) ∧ W'.cell? ⟨w.heap.size, 3, none⟩ = some (.int .i64 m.d)) ((simp [*, go_sem]; done)) (first | (go_at_call 45; refine (l1Unit_ _).mono ?_; rintro e w' ⟨rfl, hb⟩; apply after_call (w := w) hb; (focus ((repeat' (first | (with_reducible exact hM) | (with_reducible apply mem_alloc) | (with_reducible apply mem_set) | (with_reducible apply mem_drew) | (with_reducible apply mem_drewN))); done)); (focus ((repeat' (first | (with_reducible exact hB) | (with_reducible exact Below.refl _ _) | (with_reducible refine Below.alloc ?_ ?_ _) | (with_reducible refine Below.setCell ?_ ?_ _) | (with_reducible refine Below.drew ?_) | (with_reducible refine below_drewN ?_ _) | (with_reducible exact Nat.le_refl _) | (with_reducible exact hB.size) | (simp [go_sem]; done) | (have := hB.size; simp [go_sem]; omega))); done)); (focus ((repeat' (first | (with_reducible exact hB) | (with_reducible exact Below.refl _ _) | (with_reducible refine Below.alloc ?_ ?_ _) | (with_reducible refine Below.setCell ?_ ?_ _) | (with_reducible refine Below.drew ?_) | (with_reducible refine below_drewN ?_ _) | (with_reducible exact Nat.le_refl _) | (with_reducible exact hB.size) | (simp [go_sem]; done) | (have := hB.size; simp [go_sem]; omega))); done)); clear hM hB hb; intro hM hB; (try clear hC); have hC := mem_facts hM; simp at hC))
        all_goals
          go_wp2_with fail
          go_ret2
          refine ⟨?_, by (repeat' (first | (with_reducible exact hB) | (with_reducible exact Below.refl _ _) | (with_reducible refine Below.alloc ?_ ?_ _) | (with_reducible refine Below.setCell ?_ ?_ _) | (with_reducible refine Below.drew ?_) | (with_reducible refine below_drewN ?_ _) | (with_reducible exact Nat.le_refl _) | (with_reducible exact hB.size) | (simp [go_sem]; done) | (have := hB.size; simp [go_sem]; omega)))⟩
          have hne : wl m ≠ [] := by
            by_cases hlt : m.c ≤ m.a ∧ m.d ≤ m.b
            · rw [wl_R ⟨o1, o2, o3, o4⟩ HX.out hu hlt.1 hlt.2]; simp
            · rw [wl_L ⟨o1, o2, o3, o4⟩ HX.out hu hlt]; simp
          rw [fwd_no HL.out H40.out hne]
          rfl
      · have hs1 : ((t.size : Int) == 40) = false := by simp; omega
        by_cases hca : m.c ≤ m.a
        · by_cases hdb : m.d ≤ m.b
          · have HR := Lib.hid (ev_R ⟨o1, o2, o3, o4⟩ HX.out hu hca hdb)
            have HW := Lib.hid (wl_R ⟨o1, o2, o3, o4⟩ HX.out hu hca hdb)
            go_wp2_with fail
            go_region_held3 (fun W' => W'.cell? ⟨w.heap.size, 0, none⟩ = some (.int .i64 m.a) ∧ W'.cell? ⟨w.heap.size, 1, none⟩ = some (.int .i64 m.b) ∧ W'.cell? ⟨w.heap.size, 2, none⟩ = some (.int .i64 m.c) ∧ W'.cell? ⟨w.heap.size, 3, none⟩ = some (.int .i64 m.d)) ((simp [*, go_sem]; done)) (first | (go_at_call 45; refine (l1Unit_ _).mono ?_; rintro e w' ⟨rfl, hb⟩; apply after_call (w := w) hb; (focus ((repeat' (first | (with_reducible exact hM) | (with_reducible apply mem_alloc) | (with_reducible apply mem_set) | (with_reducible apply mem_drew) | (with_reducible apply mem_drewN))); done)); (focus ((repeat' (first | (with_reducible exact hB) | (with_reducible exact Below.refl _ _) | (with_reducible refine Below.alloc ?_ ?_ _) | (with_reducible refine Below.setCell ?_ ?_ _) | (with_reducible refine Below.drew ?_) | (with_reducible refine below_drewN ?_ _) | (with_reducible exact Nat.le_refl _) | (with_reducible exact hB.size) | (simp [go_sem]; done) | (have := hB.size; simp [go_sem]; omega))); done)); (focus ((repeat' (first | (with_reducible exact hB) | (with_reducible exact Below.refl _ _) | (with_reducible refine Below.alloc ?_ ?_ _) | (with_reducible refine Below.setCell ?_ ?_ _) | (with_reducible refine Below.drew ?_) | (with_reducible refine below_drewN ?_ _) | (with_reducible exact Nat.le_refl _) | (with_reducible exact hB.size) | (simp [go_sem]; done) | (have := hB.size; simp [go_sem]; omega))); done)); clear hM hB hb; intro hM hB; (try clear hC); have hC := mem_facts hM; simp at hC))
            all_goals
              go_wp2_with fail
              obtain ⟨r1, r2, r3, r4, r5⟩ := HR.out
              go_roundw
              case rel =>
                refine ⟨lesR m, t ++ ⟨#[82]⟩, rfl, ?_, by (repeat' (first | (with_reducible exact hB) | (with_reducible exact Below.refl _ _) | (with_reducible refine Below.alloc ?_ ?_ _) | (with_reducible refine Below.setCell ?_ ?_ _) | (with_reducible refine Below.drew ?_) | (with_reducible refine below_drewN ?_ _) | (with_reducible exact Nat.le_refl _) | (with_reducible exact hB.size) | (simp [go_sem]; done) | (have := hB.size; simp [go_sem]; omega))), ?_, r1, r2, by rw [ByteArray.size_append]; show t.size + 1 ≤ 40; omega, by rw [HL.out, HW.out, toList_app]; simp⟩
                · apply mem_drop 0
                  · (repeat' (first | (with_reducible exact hM) | (with_reducible apply mem_alloc) | (with_reducible apply mem_set) | (with_reducible apply mem_drew) | (with_reducible apply mem_drewN)))
                  · simp [lesR]
                · obtain ⟨q1, q2, q3, q4⟩ := r1
                  exact inB_iff.2 ⟨by simp only [lesR]; omega, by simp only [lesR]; omega, k3, k4⟩
              case measure =>
                rw [HM.out, leftM_eq (w := w) (m := lesR m)]
                · have := (ev_pos ⟨o1, o2, o3, o4⟩ HX.out).2
                  omega
                · apply mem_drop 0
                  · (repeat' (first | (with_reducible exact hM) | (with_reducible apply mem_alloc) | (with_reducible apply mem_set) | (with_reducible apply mem_drew) | (with_reducible apply mem_drewN)))
                  · simp [lesR]
          · have hnot : ¬ (m.c ≤ m.a ∧ m.d ≤ m.b) := fun e => hdb e.2
            have HR := Lib.hid (ev_L ⟨o1, o2, o3, o4⟩ HX.out hu hnot)
            have HW := Lib.hid (wl_L ⟨o1, o2, o3, o4⟩ HX.out hu hnot)
            clear hnot
            go_wp2_with fail
            go_region_held3 (fun W' => W'.cell? ⟨w.heap.size, 0, none⟩ = some (.int .i64 m.a) ∧ W'.cell? ⟨w.heap.size, 1, none⟩ = some (.int .i64 m.b) ∧ W'.cell? ⟨w.heap.size, 2, none⟩ = some (.int .i64 m.c) ∧ W'.cell? ⟨w.heap.size, 3, none⟩ = some (.int .i64 m.d)) ((simp [*, go_sem]; done)) (first | (go_at_call 45; refine (l1Unit_ _).mono ?_; rintro e w' ⟨rfl, hb⟩; apply after_call (w := w) hb; (focus ((repeat' (first | (with_reducible exact hM) | (with_reducible apply mem_alloc) | (with_reducible apply mem_set) | (with_reducible apply mem_drew) | (with_reducible apply mem_drewN))); done)); (focus ((repeat' (first | (with_reducible exact hB) | (with_reducible exact Below.refl _ _) | (with_reducible refine Below.alloc ?_ ?_ _) | (with_reducible refine Below.setCell ?_ ?_ _) | (with_reducible refine Below.drew ?_) | (with_reducible refine below_drewN ?_ _) | (with_reducible exact Nat.le_refl _) | (with_reducible exact hB.size) | (simp [go_sem]; done) | (have := hB.size; simp [go_sem]; omega))); done)); (focus ((repeat' (first | (with_reducible exact hB) | (with_reducible exact Below.refl _ _) | (with_reducible refine Below.alloc ?_ ?_ _) | (with_reducible refine Below.setCell ?_ ?_ _) | (with_reducible refine Below.drew ?_) | (with_reducible refine below_drewN ?_ _) | (with_reducible exact Nat.le_refl _) | (with_reducible exact hB.size) | (simp [go_sem]; done) | (have := hB.size; simp [go_sem]; omega))); done)); clear hM hB hb; intro hM hB; (try clear hC); have hC := mem_facts hM; simp at hC))
            all_goals
              go_wp2_with fail
              obtain ⟨r1, r2, r3, r4, r5⟩ := HR.out
              go_roundw
              case rel =>
                refine ⟨lesL m, t ++ ⟨#[76]⟩, rfl, ?_, by (repeat' (first | (with_reducible exact hB) | (with_reducible exact Below.refl _ _) | (with_reducible refine Below.alloc ?_ ?_ _) | (with_reducible refine Below.setCell ?_ ?_ _) | (with_reducible refine Below.drew ?_) | (with_reducible refine below_drewN ?_ _) | (with_reducible exact Nat.le_refl _) | (with_reducible exact hB.size) | (simp [go_sem]; done) | (have := hB.size; simp [go_sem]; omega))), ?_, r1, r2, by rw [ByteArray.size_append]; show t.size + 1 ≤ 40; omega, by rw [HL.out, HW.out, toList_app]; simp⟩
                · apply mem_drop 0
                  · (repeat' (first | (with_reducible exact hM) | (with_reducible apply mem_alloc) | (with_reducible apply mem_set) | (with_reducible apply mem_drew) | (with_reducible apply mem_drewN)))
                  · simp [lesL]
                · obtain ⟨q1, q2, q3, q4⟩ := r1
                  exact inB_iff.2 ⟨k1, k2, by simp only [lesL] at q3 ⊢; omega, by simp only [lesL] at q4 ⊢; omega⟩
              case measure =>
                rw [HM.out, leftM_eq (w := w) (m := lesL m)]
                · have := (ev_pos ⟨o1, o2, o3, o4⟩ HX.out).1
                  omega
                · apply mem_drop 0
                  · (repeat' (first | (with_reducible exact hM) | (with_reducible apply mem_alloc) | (with_reducible apply mem_set) | (with_reducible apply mem_drew) | (with_reducible apply mem_drewN)))
                  · simp [lesL]
        · have hnot : ¬ (m.c ≤ m.a ∧ m.d ≤ m.b) := fun e => hca e.1
          have HR := Lib.hid (ev_L ⟨o1, o2, o3, o4⟩ HX.out hu hnot)
          have HW := Lib.hid (wl_L ⟨o1, o2, o3, o4⟩ HX.out hu hnot)
          clear hnot
          go_wp2_with fail
          go_region_held3 (fun W' => W'.cell? ⟨w.heap.size, 0, none⟩ = some (.int .i64 m.a) ∧ W'.cell? ⟨w.heap.size, 1, none⟩ = some (.int .i64 m.b) ∧ W'.cell? ⟨w.heap.size, 2, none⟩ = some (.int .i64 m.c) ∧ W'.cell? ⟨w.heap.size, 3, none⟩ = some (.int .i64 m.d)) ((simp [*, go_sem]; done)) (first | (go_at_call 45; refine (l1Unit_ _).mono ?_; rintro e w' ⟨rfl, hb⟩; apply after_call (w := w) hb; (focus ((repeat' (first | (with_reducible exact hM) | (with_reducible apply mem_alloc) | (with_reducible apply mem_set) | (with_reducible apply mem_drew) | (with_reducible apply mem_drewN))); done)); (focus ((repeat' (first | (with_reducible exact hB) | (with_reducible exact Below.refl _ _) | (with_reducible refine Below.alloc ?_ ?_ _) | (with_reducible refine Below.setCell ?_ ?_ _) | (with_reducible refine Below.drew ?_) | (with_reducible refine below_drewN ?_ _) | (with_reducible exact Nat.le_refl _) | (with_reducible exact hB.size) | (simp [go_sem]; done) | (have := hB.size; simp [go_sem]; omega))); done)); (focus ((repeat' (first | (with_reducible exact hB) | (with_reducible exact Below.refl _ _) | (with_reducible refine Below.alloc ?_ ?_ _) | (with_reducible refine Below.setCell ?_ ?_ _) | (with_reducible refine Below.drew ?_) | (with_reducible refine below_drewN ?_ _) | (with_reducible exact Nat.le_refl _) | (with_reducible exact hB.size) | (simp [go_sem]; done) | (have := hB.size; simp [go_sem]; omega))); done)); clear hM hB hb; intro hM hB; (try clear hC); have hC := mem_facts hM; simp at hC))
          all_goals
            go_wp2_with fail
            obtain ⟨r1, r2, r3, r4, r5⟩ := HR.out
            go_roundw
            case rel =>
              refine ⟨lesL m, t ++ ⟨#[76]⟩, rfl, ?_, by (repeat' (first | (with_reducible exact hB) | (with_reducible exact Below.refl _ _) | (with_reducible refine Below.alloc ?_ ?_ _) | (with_reducible refine Below.setCell ?_ ?_ _) | (with_reducible refine Below.drew ?_) | (with_reducible refine below_drewN ?_ _) | (with_reducible exact Nat.le_refl _) | (with_reducible exact hB.size) | (simp [go_sem]; done) | (have := hB.size; simp [go_sem]; omega))), ?_, r1, r2, by rw [ByteArray.size_append]; show t.size + 1 ≤ 40; omega, by rw [HL.out, HW.out, toList_app]; simp⟩
              · apply mem_drop 0
                · (repeat' (first | (with_reducible exact hM) | (with_reducible apply mem_alloc) | (with_reducible apply mem_set) | (with_reducible apply mem_drew) | (with_reducible apply mem_drewN)))
                · simp [lesL]
              · obtain ⟨q1, q2, q3, q4⟩ := r1
                exact inB_iff.2 ⟨k1, k2, by simp only [lesL] at q3 ⊢; omega, by simp only [lesL] at q4 ⊢; omega⟩
            case measure =>
              rw [HM.out, leftM_eq (w := w) (m := lesL m)]
              · have := (ev_pos ⟨o1, o2, o3, o4⟩ HX.out).1
                omega
              · apply mem_drop 0
                · (repeat' (first | (with_reducible exact hM) | (with_reducible apply mem_alloc) | (with_reducible apply mem_set) | (with_reducible apply mem_drew) | (with_reducible apply mem_drewN)))
                · simp [lesL]

theorem wof_no {m : M} (h : ¬ (inB m = true ∧ evB m = true ∧ nnM m)) : wof m = (⟨#[]⟩, false) := by
  cases h1 : inB m
  · simp [wof, h1]
  · cases h2 : evB m
    · simp [wof, h2]
    · cases h3 : ngB m
      · exact absurd ⟨h1, h2, ngB_iff.1 h3⟩ h
      · simp [wof, h3]
set_option maxHeartbeats 1000000 in
theorem sWordOf_ (a b c d : Int) (w : World) : Calls Try.prog 28 #[.agg #[.int .i64 a, .int .i64 b, .int .i64 c, .int .i64 d]] w (fun E' W' => E' = .returned (.tuple #[.string (wof ⟨a, b, c, d⟩).1, .bool (wof ⟨a, b, c, d⟩).2]) ∧ Below w.heap.size w W') := by
  cases h : inB ⟨a, b, c, d⟩ && evB ⟨a, b, c, d⟩
  · have HE := Lib.hid (wof_no (m := ⟨a, b, c, d⟩) (fun e => by rw [e.1, e.2.1] at h; cases h))
    have hM := mem_nil w; have hB := Below.refl w.heap.size w; have hC := True.intro
    go_enter Try.func28, Try.ntmps28
    go_wp2_with (go_at_call 44; refine (sMatEven_ _ _ _ _ _).mono ?_; rintro e w' ⟨rfl, hb⟩; apply after_call (w := w) hb; (focus ((repeat' (first | (with_reducible exact hM) | (with_reducible apply mem_alloc) | (with_reducible apply mem_set) | (with_reducible apply mem_drew) | (with_reducible apply mem_drewN))); done)); (focus ((repeat' (first | (with_reducible exact hB) | (with_reducible exact Below.refl _ _) | (with_reducible refine Below.alloc ?_ ?_ _) | (with_reducible refine Below.setCell ?_ ?_ _) | (with_reducible refine Below.drew ?_) | (with_reducible refine below_drewN ?_ _) | (with_reducible exact Nat.le_refl _) | (with_reducible exact hB.size) | (simp [go_sem]; done) | (have := hB.size; simp [go_sem]; omega))); done)); (focus ((repeat' (first | (with_reducible exact hB) | (with_reducible exact Below.refl _ _) | (with_reducible refine Below.alloc ?_ ?_ _) | (with_reducible refine Below.setCell ?_ ?_ _) | (with_reducible refine Below.drew ?_) | (with_reducible refine below_drewN ?_ _) | (with_reducible exact Nat.le_refl _) | (with_reducible exact hB.size) | (simp [go_sem]; done) | (have := hB.size; simp [go_sem]; omega))); done)); clear hM hB hb; intro hM hB; (try clear hC); have hC := mem_facts hM; simp at hC)
    go_ret2
    exact ⟨by rw [HE.out]; rfl, by (repeat' (first | (with_reducible exact hB) | (with_reducible exact Below.refl _ _) | (with_reducible refine Below.alloc ?_ ?_ _) | (with_reducible refine Below.setCell ?_ ?_ _) | (with_reducible refine Below.drew ?_) | (with_reducible refine below_drewN ?_ _) | (with_reducible exact Nat.le_refl _) | (with_reducible exact hB.size) | (simp [go_sem]; done) | (have := hB.size; simp [go_sem]; omega)))⟩
  · by_cases hn : nnM ⟨a, b, c, d⟩
    · have h' := h
      simp only [Bool.and_eq_true] at h'
      have e : wof ⟨a, b, c, d⟩ = fwd (P1 ⟨a, b, c, d⟩) (P2 ⟨a, b, c, d⟩) := by simp [wof, h'.1, h'.2, ngB_iff.2 hn]
      rw [e]
      exact sWordOf_yes a b c d h'.1 h'.2 hn w
    · have HE := Lib.hid (wof_no (m := ⟨a, b, c, d⟩) (fun e => hn e.2.2))
      by_cases n1 : a < 0
      · have hM := mem_nil w; have hB := Below.refl w.heap.size w; have hC := True.intro
        go_enter Try.func28, Try.ntmps28
        go_wp2_with (go_at_call 44; refine (sMatEven_ _ _ _ _ _).mono ?_; rintro e w' ⟨rfl, hb⟩; apply after_call (w := w) hb; (focus ((repeat' (first | (with_reducible exact hM) | (with_reducible apply mem_alloc) | (with_reducible apply mem_set) | (with_reducible apply mem_drew) | (with_reducible apply mem_drewN))); done)); (focus ((repeat' (first | (with_reducible exact hB) | (with_reducible exact Below.refl _ _) | (with_reducible refine Below.alloc ?_ ?_ _) | (with_reducible refine Below.setCell ?_ ?_ _) | (with_reducible refine Below.drew ?_) | (with_reducible refine below_drewN ?_ _) | (with_reducible exact Nat.le_refl _) | (with_reducible exact hB.size) | (simp [go_sem]; done) | (have := hB.size; simp [go_sem]; omega))); done)); (focus ((repeat' (first | (with_reducible exact hB) | (with_reducible exact Below.refl _ _) | (with_reducible refine Below.alloc ?_ ?_ _) | (with_reducible refine Below.setCell ?_ ?_ _) | (with_reducible refine Below.drew ?_) | (with_reducible refine below_drewN ?_ _) | (with_reducible exact Nat.le_refl _) | (with_reducible exact hB.size) | (simp [go_sem]; done) | (have := hB.size; simp [go_sem]; omega))); done)); clear hM hB hb; intro hM hB; (try clear hC); have hC := mem_facts hM; simp at hC)
        go_ret2
        exact ⟨by rw [HE.out]; rfl, by (repeat' (first | (with_reducible exact hB) | (with_reducible exact Below.refl _ _) | (with_reducible refine Below.alloc ?_ ?_ _) | (with_reducible refine Below.setCell ?_ ?_ _) | (with_reducible refine Below.drew ?_) | (with_reducible refine below_drewN ?_ _) | (with_reducible exact Nat.le_refl _) | (with_reducible exact hB.size) | (simp [go_sem]; done) | (have := hB.size; simp [go_sem]; omega)))⟩
      · by_cases n2 : b < 0
        · have hM := mem_nil w; have hB := Below.refl w.heap.size w; have hC := True.intro
          go_enter Try.func28, Try.ntmps28
          go_wp2_with (go_at_call 44; refine (sMatEven_ _ _ _ _ _).mono ?_; rintro e w' ⟨rfl, hb⟩; apply after_call (w := w) hb; (focus ((repeat' (first | (with_reducible exact hM) | (with_reducible apply mem_alloc) | (with_reducible apply mem_set) | (with_reducible apply mem_drew) | (with_reducible apply mem_drewN))); done)); (focus ((repeat' (first | (with_reducible exact hB) | (with_reducible exact Below.refl _ _) | (with_reducible refine Below.alloc ?_ ?_ _) | (with_reducible refine Below.setCell ?_ ?_ _) | (with_reducible refine Below.drew ?_) | (with_reducible refine below_drewN ?_ _) | (with_reducible exact Nat.le_refl _) | (with_reducible exact hB.size) | (simp [go_sem]; done) | (have := hB.size; simp [go_sem]; omega))); done)); (focus ((repeat' (first | (with_reducible exact hB) | (with_reducible exact Below.refl _ _) | (with_reducible refine Below.alloc ?_ ?_ _) | (with_reducible refine Below.setCell ?_ ?_ _) | (with_reducible refine Below.drew ?_) | (with_reducible refine below_drewN ?_ _) | (with_reducible exact Nat.le_refl _) | (with_reducible exact hB.size) | (simp [go_sem]; done) | (have := hB.size; simp [go_sem]; omega))); done)); clear hM hB hb; intro hM hB; (try clear hC); have hC := mem_facts hM; simp at hC)
          go_ret2
          exact ⟨by rw [HE.out]; rfl, by (repeat' (first | (with_reducible exact hB) | (with_reducible exact Below.refl _ _) | (with_reducible refine Below.alloc ?_ ?_ _) | (with_reducible refine Below.setCell ?_ ?_ _) | (with_reducible refine Below.drew ?_) | (with_reducible refine below_drewN ?_ _) | (with_reducible exact Nat.le_refl _) | (with_reducible exact hB.size) | (simp [go_sem]; done) | (have := hB.size; simp [go_sem]; omega)))⟩
        · by_cases n3 : c < 0
          · have hM := mem_nil w; have hB := Below.refl w.heap.size w; have hC := True.intro
            go_enter Try.func28, Try.ntmps28
            go_wp2_with (go_at_call 44; refine (sMatEven_ _ _ _ _ _).mono ?_; rintro e w' ⟨rfl, hb⟩; apply after_call (w := w) hb; (focus ((repeat' (first | (with_reducible exact hM) | (with_reducible apply mem_alloc) | (with_reducible apply mem_set) | (with_reducible apply mem_drew) | (with_reducible apply mem_drewN))); done)); (focus ((repeat' (first | (with_reducible exact hB) | (with_reducible exact Below.refl _ _) | (with_reducible refine Below.alloc ?_ ?_ _) | (with_reducible refine Below.setCell ?_ ?_ _) | (with_reducible refine Below.drew ?_) | (with_reducible refine below_drewN ?_ _) | (with_reducible exact Nat.le_refl _) | (with_reducible exact hB.size) | (simp [go_sem]; done) | (have := hB.size; simp [go_sem]; omega))); done)); (focus ((repeat' (first | (with_reducible exact hB) | (with_reducible exact Below.refl _ _) | (with_reducible refine Below.alloc ?_ ?_ _) | (with_reducible refine Below.setCell ?_ ?_ _) | (with_reducible refine Below.drew ?_) | (with_reducible refine below_drewN ?_ _) | (with_reducible exact Nat.le_refl _) | (with_reducible exact hB.size) | (simp [go_sem]; done) | (have := hB.size; simp [go_sem]; omega))); done)); clear hM hB hb; intro hM hB; (try clear hC); have hC := mem_facts hM; simp at hC)
            go_ret2
            exact ⟨by rw [HE.out]; rfl, by (repeat' (first | (with_reducible exact hB) | (with_reducible exact Below.refl _ _) | (with_reducible refine Below.alloc ?_ ?_ _) | (with_reducible refine Below.setCell ?_ ?_ _) | (with_reducible refine Below.drew ?_) | (with_reducible refine below_drewN ?_ _) | (with_reducible exact Nat.le_refl _) | (with_reducible exact hB.size) | (simp [go_sem]; done) | (have := hB.size; simp [go_sem]; omega)))⟩
          · have n4 : d < 0 := by
              by_cases n4 : d < 0
              · exact n4
              · exact absurd ⟨by dsimp only; omega, by dsimp only; omega, by dsimp only; omega, by dsimp only; omega⟩ hn
            clear hn
            have hM := mem_nil w; have hB := Below.refl w.heap.size w; have hC := True.intro
            go_enter Try.func28, Try.ntmps28
            go_wp2_with (go_at_call 44; refine (sMatEven_ _ _ _ _ _).mono ?_; rintro e w' ⟨rfl, hb⟩; apply after_call (w := w) hb; (focus ((repeat' (first | (with_reducible exact hM) | (with_reducible apply mem_alloc) | (with_reducible apply mem_set) | (with_reducible apply mem_drew) | (with_reducible apply mem_drewN))); done)); (focus ((repeat' (first | (with_reducible exact hB) | (with_reducible exact Below.refl _ _) | (with_reducible refine Below.alloc ?_ ?_ _) | (with_reducible refine Below.setCell ?_ ?_ _) | (with_reducible refine Below.drew ?_) | (with_reducible refine below_drewN ?_ _) | (with_reducible exact Nat.le_refl _) | (with_reducible exact hB.size) | (simp [go_sem]; done) | (have := hB.size; simp [go_sem]; omega))); done)); (focus ((repeat' (first | (with_reducible exact hB) | (with_reducible exact Below.refl _ _) | (with_reducible refine Below.alloc ?_ ?_ _) | (with_reducible refine Below.setCell ?_ ?_ _) | (with_reducible refine Below.drew ?_) | (with_reducible refine below_drewN ?_ _) | (with_reducible exact Nat.le_refl _) | (with_reducible exact hB.size) | (simp [go_sem]; done) | (have := hB.size; simp [go_sem]; omega))); done)); clear hM hB hb; intro hM hB; (try clear hC); have hC := mem_facts hM; simp at hC)
            go_ret2
            exact ⟨by rw [HE.out]; rfl, by (repeat' (first | (with_reducible exact hB) | (with_reducible exact Below.refl _ _) | (with_reducible refine Below.alloc ?_ ?_ _) | (with_reducible refine Below.setCell ?_ ?_ _) | (with_reducible refine Below.drew ?_) | (with_reducible refine below_drewN ?_ _) | (with_reducible exact Nat.le_refl _) | (with_reducible exact hB.size) | (simp [go_sem]; done) | (have := hB.size; simp [go_sem]; omega)))⟩
end Go.Proofs.Ythpbdcookhpdaaa

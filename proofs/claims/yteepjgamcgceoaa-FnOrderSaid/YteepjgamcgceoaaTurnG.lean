
/- The order of an even matrix, walked in the program and the model; the exact law. No condition. -/
import Derived.Test.YteepjgamcgceoaaTurnU
import Derived.Test.YteepjgamcgceoaaImplB
import Derived.Test.YteepjgamcgceoaaSpecA
import Derived.Test.YteepjgamcgceoaaLawT
import Derived.Deep.LoopGhost
import Derived.Deep.DeepCutAuto
namespace Go.Proofs.Yteepjgamcgceoaa
open Go.RowKit

/-- two matrices compared -/
theorem run_un (a b c d : Int) (W : World) : (binOp .eql 24 (.agg #[.int .i64 a, .int .i64 b, .int .i64 c, .int .i64 d]) (.agg #[.int .i64 1, .int .i64 0, .int .i64 0, .int .i64 1])).run Try.prog W = .ok (.bool (unB ⟨a, b, c, d⟩)) W := by
  by_cases h1 : a = 1
  · by_cases h2 : b = 0
    · by_cases h3 : c = 0
      · subst h1 h2 h3
        have e : unB ⟨1, 0, 0, d⟩ = (d == 1) := by simp [unB]
        rw [e]
        go_simp
        by_cases h4 : d = 1 <;> simp [h4]
      · subst h1 h2
        have e : unB ⟨1, 0, c, d⟩ = false := by simp [unB, h3]
        have h5 : (c == 0) = false := by simp [h3]
        rw [e]
        go_simp
    · subst h1
      have e : unB ⟨1, b, c, d⟩ = false := by simp [unB, h2]
      have h5 : (b == 0) = false := by simp [h2]
      rw [e]
      go_simp
  · have e : unB ⟨a, b, c, d⟩ = false := by simp [unB, h1]
    have h5 : (a == 1) = false := by simp [h1]
    rw [e]
    go_simp
theorem run_ng (a b c d : Int) (W : World) : (binOp .eql 24 (.agg #[.int .i64 a, .int .i64 b, .int .i64 c, .int .i64 d]) (.agg #[.int .i64 (-1), .int .i64 0, .int .i64 0, .int .i64 (-1)])).run Try.prog W = .ok (.bool (ngU ⟨a, b, c, d⟩)) W := by
  by_cases h1 : a = -1
  · by_cases h2 : b = 0
    · by_cases h3 : c = 0
      · subst h1 h2 h3
        have e : ngU ⟨-1, 0, 0, d⟩ = (d == -1) := by simp [ngU]
        rw [e]
        go_simp
        by_cases h4 : d = -1 <;> simp [h4]
      · subst h1 h2
        have e : ngU ⟨-1, 0, c, d⟩ = false := by simp [ngU, h3]
        have h5 : (c == 0) = false := by simp [h3]
        rw [e]
        go_simp
    · subst h1
      have e : ngU ⟨-1, b, c, d⟩ = false := by simp [ngU, h2]
      have h5 : (b == 0) = false := by simp [h2]
      rw [e]
      go_simp
  · have e : ngU ⟨a, b, c, d⟩ = false := by simp [ngU, h1]
    have h5 : (a == -1) = false := by simp [h1]
    rw [e]
    go_simp
set_option maxHeartbeats 1000000 in
theorem order_ (a b c d : Int) (h : inB ⟨a, b, c, d⟩ = true) (w : World) : Calls Try.prog 17 #[.agg #[.int .i64 a, .int .i64 b, .int .i64 c, .int .i64 d]] w (fun E' W' => E' = .returned (.tuple #[.int .i64 (ord ⟨a, b, c, d⟩).1, .bool (ord ⟨a, b, c, d⟩).2]) ∧ Below w.heap.size w W') := by
  have e1 := run_un a b c d
  have e2 := run_ng a b c d
  have ht := tr_x h
  obtain ⟨k1, _, _, k4⟩ := inB_iff.1 h
  dsimp only at ht k1 k4
  have hM := mem_nil w; have hB := Below.refl w.heap.size w; have hC := True.intro
  go_enter Try.func17, Try.ntmps17
  go_upto_region 2 with (first | (go_at_call 24; refine (trace_ _ _ _ _ _).mono ?_; rintro e w' ⟨rfl, hb⟩; apply after_call (w := w) hb; (focus ((repeat' (first | (with_reducible exact hM) | (with_reducible apply mem_alloc) | (with_reducible apply mem_set) | (with_reducible apply mem_drew) | (with_reducible apply mem_drewN))); done)); (focus ((repeat' (first | (with_reducible exact hB) | (with_reducible exact Below.refl _ _) | (with_reducible refine Below.alloc ?_ ?_ _) | (with_reducible refine Below.setCell ?_ ?_ _) | (with_reducible refine Below.drew ?_) | (with_reducible refine below_drewN ?_ _) | (with_reducible exact Nat.le_refl _) | (with_reducible exact hB.size) | (simp [go_sem]; done) | (have := hB.size; simp [go_sem]; omega))); done)); (focus ((repeat' (first | (with_reducible exact hB) | (with_reducible exact Below.refl _ _) | (with_reducible refine Below.alloc ?_ ?_ _) | (with_reducible refine Below.setCell ?_ ?_ _) | (with_reducible refine Below.drew ?_) | (with_reducible refine below_drewN ?_ _) | (with_reducible exact Nat.le_refl _) | (with_reducible exact hB.size) | (simp [go_sem]; done) | (have := hB.size; simp [go_sem]; omega))); done)); clear hM hB hb; intro hM hB; (try clear hC); have hC := mem_facts hM; simp at hC))
  go_cut [7] (fun s7 wx => s7 = .bool (unB ⟨a, b, c, d⟩) ∧ Mem wx [(w.heap.size, #[.int .i64 a, .int .i64 b, .int .i64 c, .int .i64 d], 24)] ∧ Below w.heap.size w wx)
  case first =>
    go_region_held3 (fun W' => W'.cell? ⟨w.heap.size, 0, none⟩ = some (.int .i64 a) ∧ W'.cell? ⟨w.heap.size, 1, none⟩ = some (.int .i64 b) ∧ W'.cell? ⟨w.heap.size, 2, none⟩ = some (.int .i64 c) ∧ W'.cell? ⟨w.heap.size, 3, none⟩ = some (.int .i64 d)) ((simp [*, go_sem]; done))
      (first | (go_at_call 31; refine (unit_ _).mono ?_; rintro e w' ⟨rfl, hb⟩; apply after_call (w := w) hb; (focus ((repeat' (first | (with_reducible exact hM) | (with_reducible apply mem_alloc) | (with_reducible apply mem_set) | (with_reducible apply mem_drew) | (with_reducible apply mem_drewN))); done)); (focus ((repeat' (first | (with_reducible exact hB) | (with_reducible exact Below.refl _ _) | (with_reducible refine Below.alloc ?_ ?_ _) | (with_reducible refine Below.setCell ?_ ?_ _) | (with_reducible refine Below.drew ?_) | (with_reducible refine below_drewN ?_ _) | (with_reducible exact Nat.le_refl _) | (with_reducible exact hB.size) | (simp [go_sem]; done) | (have := hB.size; simp [go_sem]; omega))); done)); (focus ((repeat' (first | (with_reducible exact hB) | (with_reducible exact Below.refl _ _) | (with_reducible refine Below.alloc ?_ ?_ _) | (with_reducible refine Below.setCell ?_ ?_ _) | (with_reducible refine Below.drew ?_) | (with_reducible refine below_drewN ?_ _) | (with_reducible exact Nat.le_refl _) | (with_reducible exact hB.size) | (simp [go_sem]; done) | (have := hB.size; simp [go_sem]; omega))); done)); clear hM hB hb; intro hM hB; (try clear hC); have hC := mem_facts hM; simp at hC))
    all_goals
      go_wp2_with fail
      go_meet
      exact ⟨rfl, hM, by (repeat' (first | (with_reducible exact hB) | (with_reducible exact Below.refl _ _) | (with_reducible refine Below.alloc ?_ ?_ _) | (with_reducible refine Below.setCell ?_ ?_ _) | (with_reducible refine Below.drew ?_) | (with_reducible refine below_drewN ?_ _) | (with_reducible exact Nat.le_refl _) | (with_reducible exact hB.size) | (simp [go_sem]; done) | (have := hB.size; simp [go_sem]; omega)))⟩
  case rest =>
    obtain ⟨rfl, hM', hB'⟩ := hcut
    (try clear hC); clear hM hB; have hM := hM'; have hB := hB'; clear hM' hB'; have hC := mem_facts hM; simp at hC
    cases h1 : unB ⟨a, b, c, d⟩
    · cases h2 : ngU ⟨a, b, c, d⟩
      · rw [h2] at e2
        by_cases h3 : a + d = -1
        · go_wp2
          go_ret2
          exact ⟨by simp [ord, h1, h2, h3], by (repeat' (first | (with_reducible exact hB) | (with_reducible exact Below.refl _ _) | (with_reducible refine Below.alloc ?_ ?_ _) | (with_reducible refine Below.setCell ?_ ?_ _) | (with_reducible refine Below.drew ?_) | (with_reducible refine below_drewN ?_ _) | (with_reducible exact Nat.le_refl _) | (with_reducible exact hB.size) | (simp [go_sem]; done) | (have := hB.size; simp [go_sem]; omega)))⟩
        · by_cases h4 : a + d = 0
          · go_wp2
            go_ret2
            exact ⟨by simp [ord, h1, h2, h4], by (repeat' (first | (with_reducible exact hB) | (with_reducible exact Below.refl _ _) | (with_reducible refine Below.alloc ?_ ?_ _) | (with_reducible refine Below.setCell ?_ ?_ _) | (with_reducible refine Below.drew ?_) | (with_reducible refine below_drewN ?_ _) | (with_reducible exact Nat.le_refl _) | (with_reducible exact hB.size) | (simp [go_sem]; done) | (have := hB.size; simp [go_sem]; omega)))⟩
          · by_cases h5 : a + d = 1
            · go_wp2
              go_ret2
              exact ⟨by simp [ord, h1, h2, h5], by (repeat' (first | (with_reducible exact hB) | (with_reducible exact Below.refl _ _) | (with_reducible refine Below.alloc ?_ ?_ _) | (with_reducible refine Below.setCell ?_ ?_ _) | (with_reducible refine Below.drew ?_) | (with_reducible refine below_drewN ?_ _) | (with_reducible exact Nat.le_refl _) | (with_reducible exact hB.size) | (simp [go_sem]; done) | (have := hB.size; simp [go_sem]; omega)))⟩
            · go_wp2
              go_ret2
              exact ⟨by simp [ord, h1, h2, h3, h4, h5], by (repeat' (first | (with_reducible exact hB) | (with_reducible exact Below.refl _ _) | (with_reducible refine Below.alloc ?_ ?_ _) | (with_reducible refine Below.setCell ?_ ?_ _) | (with_reducible refine Below.drew ?_) | (with_reducible refine below_drewN ?_ _) | (with_reducible exact Nat.le_refl _) | (with_reducible exact hB.size) | (simp [go_sem]; done) | (have := hB.size; simp [go_sem]; omega)))⟩
      · rw [h2] at e2
        go_wp2
        go_ret2
        exact ⟨by simp [ord, h1, h2], by (repeat' (first | (with_reducible exact hB) | (with_reducible exact Below.refl _ _) | (with_reducible refine Below.alloc ?_ ?_ _) | (with_reducible refine Below.setCell ?_ ?_ _) | (with_reducible refine Below.drew ?_) | (with_reducible refine below_drewN ?_ _) | (with_reducible exact Nat.le_refl _) | (with_reducible exact hB.size) | (simp [go_sem]; done) | (have := hB.size; simp [go_sem]; omega)))⟩
    · go_wp2
      go_ret2
      exact ⟨by simp [ord, h1], by (repeat' (first | (with_reducible exact hB) | (with_reducible exact Below.refl _ _) | (with_reducible refine Below.alloc ?_ ?_ _) | (with_reducible refine Below.setCell ?_ ?_ _) | (with_reducible refine Below.drew ?_) | (with_reducible refine below_drewN ?_ _) | (with_reducible exact Nat.le_refl _) | (with_reducible exact hB.size) | (simp [go_sem]; done) | (have := hB.size; simp [go_sem]; omega)))⟩
theorem TurnOrder_ (a b c d : Int) (w : World) : Calls Try.prog 5 #[.agg #[.int .i64 a, .int .i64 b, .int .i64 c, .int .i64 d]] w (fun E' W' => E' = .returned (.tuple #[.int .i64 (tor ⟨a, b, c, d⟩).1, .bool (tor ⟨a, b, c, d⟩).2]) ∧ Below w.heap.size w W') := by
  cases h : inB ⟨a, b, c, d⟩ && evB ⟨a, b, c, d⟩
  · have HE := Lib.hid (show tor ⟨a, b, c, d⟩ = (0, false) from by simp [tor, h])
    have hM := mem_nil w; have hB := Below.refl w.heap.size w; have hC := True.intro
    go_enter Try.func5, Try.ntmps5
    go_wp2_with (first | (go_at_call 16; refine (MatEven_ _ _ _ _ _).mono ?_; rintro e w' ⟨rfl, hb⟩; apply after_call (w := w) hb; (focus ((repeat' (first | (with_reducible exact hM) | (with_reducible apply mem_alloc) | (with_reducible apply mem_set) | (with_reducible apply mem_drew) | (with_reducible apply mem_drewN))); done)); (focus ((repeat' (first | (with_reducible exact hB) | (with_reducible exact Below.refl _ _) | (with_reducible refine Below.alloc ?_ ?_ _) | (with_reducible refine Below.setCell ?_ ?_ _) | (with_reducible refine Below.drew ?_) | (with_reducible refine below_drewN ?_ _) | (with_reducible exact Nat.le_refl _) | (with_reducible exact hB.size) | (simp [go_sem]; done) | (have := hB.size; simp [go_sem]; omega))); done)); (focus ((repeat' (first | (with_reducible exact hB) | (with_reducible exact Below.refl _ _) | (with_reducible refine Below.alloc ?_ ?_ _) | (with_reducible refine Below.setCell ?_ ?_ _) | (with_reducible refine Below.drew ?_) | (with_reducible refine below_drewN ?_ _) | (with_reducible exact Nat.le_refl _) | (with_reducible exact hB.size) | (simp [go_sem]; done) | (have := hB.size; simp [go_sem]; omega))); done)); clear hM hB hb; intro hM hB; (try clear hC); have hC := mem_facts hM; simp at hC))
    go_ret2
    exact ⟨by rw [HE.out]; rfl, by (repeat' (first | (with_reducible exact hB) | (with_reducible exact Below.refl _ _) | (with_reducible refine Below.alloc ?_ ?_ _) | (with_reducible refine Below.setCell ?_ ?_ _) | (with_reducible refine Below.drew ?_) | (with_reducible refine below_drewN ?_ _) | (with_reducible exact Nat.le_refl _) | (with_reducible exact hB.size) | (simp [go_sem]; done) | (have := hB.size; simp [go_sem]; omega)))⟩
  · have HE := Lib.hid (show tor ⟨a, b, c, d⟩ = ord ⟨a, b, c, d⟩ from by simp [tor, h])
    have h1 : inB ⟨a, b, c, d⟩ = true := by simp only [Bool.and_eq_true] at h; exact h.1
    have hO := fun W => order_ a b c d h1 W
    generalize ord ⟨a, b, c, d⟩ = r at *
    clear h1
    have hM := mem_nil w; have hB := Below.refl w.heap.size w; have hC := True.intro
    go_enter Try.func5, Try.ntmps5
    go_wp2_with (first | (go_at_call 16; refine (MatEven_ _ _ _ _ _).mono ?_; rintro e w' ⟨rfl, hb⟩; apply after_call (w := w) hb; (focus ((repeat' (first | (with_reducible exact hM) | (with_reducible apply mem_alloc) | (with_reducible apply mem_set) | (with_reducible apply mem_drew) | (with_reducible apply mem_drewN))); done)); (focus ((repeat' (first | (with_reducible exact hB) | (with_reducible exact Below.refl _ _) | (with_reducible refine Below.alloc ?_ ?_ _) | (with_reducible refine Below.setCell ?_ ?_ _) | (with_reducible refine Below.drew ?_) | (with_reducible refine below_drewN ?_ _) | (with_reducible exact Nat.le_refl _) | (with_reducible exact hB.size) | (simp [go_sem]; done) | (have := hB.size; simp [go_sem]; omega))); done)); (focus ((repeat' (first | (with_reducible exact hB) | (with_reducible exact Below.refl _ _) | (with_reducible refine Below.alloc ?_ ?_ _) | (with_reducible refine Below.setCell ?_ ?_ _) | (with_reducible refine Below.drew ?_) | (with_reducible refine below_drewN ?_ _) | (with_reducible exact Nat.le_refl _) | (with_reducible exact hB.size) | (simp [go_sem]; done) | (have := hB.size; simp [go_sem]; omega))); done)); clear hM hB hb; intro hM hB; (try clear hC); have hC := mem_facts hM; simp at hC) | (go_at_call 17; refine (hO _).mono ?_; rintro e w' ⟨rfl, hb⟩; apply after_call (w := w) hb; (focus ((repeat' (first | (with_reducible exact hM) | (with_reducible apply mem_alloc) | (with_reducible apply mem_set) | (with_reducible apply mem_drew) | (with_reducible apply mem_drewN))); done)); (focus ((repeat' (first | (with_reducible exact hB) | (with_reducible exact Below.refl _ _) | (with_reducible refine Below.alloc ?_ ?_ _) | (with_reducible refine Below.setCell ?_ ?_ _) | (with_reducible refine Below.drew ?_) | (with_reducible refine below_drewN ?_ _) | (with_reducible exact Nat.le_refl _) | (with_reducible exact hB.size) | (simp [go_sem]; done) | (have := hB.size; simp [go_sem]; omega))); done)); (focus ((repeat' (first | (with_reducible exact hB) | (with_reducible exact Below.refl _ _) | (with_reducible refine Below.alloc ?_ ?_ _) | (with_reducible refine Below.setCell ?_ ?_ _) | (with_reducible refine Below.drew ?_) | (with_reducible refine below_drewN ?_ _) | (with_reducible exact Nat.le_refl _) | (with_reducible exact hB.size) | (simp [go_sem]; done) | (have := hB.size; simp [go_sem]; omega))); done)); clear hM hB hb; intro hM hB; (try clear hC); have hC := mem_facts hM; simp at hC))
    go_ret2
    exact ⟨by rw [HE.out]; rfl, by (repeat' (first | (with_reducible exact hB) | (with_reducible exact Below.refl _ _) | (with_reducible refine Below.alloc ?_ ?_ _) | (with_reducible refine Below.setCell ?_ ?_ _) | (with_reducible refine Below.drew ?_) | (with_reducible refine below_drewN ?_ _) | (with_reducible exact Nat.le_refl _) | (with_reducible exact hB.size) | (simp [go_sem]; done) | (have := hB.size; simp [go_sem]; omega)))⟩
/-- at the head of a round of the model's 'TurnOrder': g rounds at most -/
def OrRel (Q : Nat → M → Prop) (m : M) (w : World) (b0 : Nat) (g : Nat) (i : Value) (wr : World) : Prop := ∃ (k : Nat) (p : M), k + g = 7 ∧ 1 ≤ k ∧ i = .int .i64 k ∧ Q k p ∧ inB p = true ∧
  Mem wr [(b0, #[.int .i64 p.a, .int .i64 p.b, .int .i64 p.c, .int .i64 p.d], 24), (w.heap.size, #[.int .i64 m.a, .int .i64 m.b, .int .i64 m.c, .int .i64 m.d], 24)] ∧ Below w.heap.size w wr
set_option maxHeartbeats 4000000 in
theorem sTurnOrder_go (a b c d : Int) (Q : Nat → M → Prop) (r : Int × Bool) (h : inB ⟨a, b, c, d⟩ = true) (he : evB ⟨a, b, c, d⟩ = true) (h1 : Q 1 ⟨a, b, c, d⟩)
    (hyes : ∀ k p, 1 ≤ k → k ≤ 6 → Q k p → unB p = true → r = ((k : Int), true)) (hno : ∀ k p, 1 ≤ k → k ≤ 6 → Q k p → inB p = true → unB p = false → inB (tm p ⟨a, b, c, d⟩) = false → r = (0, false))
    (hgo : ∀ k p, 1 ≤ k → k ≤ 6 → Q k p → inB p = true → unB p = false → inB (tm p ⟨a, b, c, d⟩) = true → Q (k + 1) (tm p ⟨a, b, c, d⟩)) (hend : ∀ p, Q 7 p → r = (0, false)) (w : World) :
    Calls Try.prog 6 #[.agg #[.int .i64 a, .int .i64 b, .int .i64 c, .int .i64 d]] w (fun E' W' => E' = .returned (.tuple #[.int .i64 r.1, .bool r.2]) ∧ Below w.heap.size w W') := by
  have HY := Lib.hid hyes
  have HN := Lib.hid hno
  have HG := Lib.hid hgo
  have HE := Lib.hid hend
  have H1 := Lib.hid h1
  clear hyes hno hgo hend h1
  have hM := mem_nil w; have hB := Below.refl w.heap.size w; have hC := True.intro
  go_enter Try.func6, Try.ntmps6
  go_wp2_with (first | (go_at_call 18; refine (sMatEven_ _ _ _ _ _).mono ?_; rintro e w' ⟨rfl, hb⟩; apply after_call (w := w) hb; (focus ((repeat' (first | (with_reducible exact hM) | (with_reducible apply mem_alloc) | (with_reducible apply mem_set) | (with_reducible apply mem_drew) | (with_reducible apply mem_drewN))); done)); (focus ((repeat' (first | (with_reducible exact hB) | (with_reducible exact Below.refl _ _) | (with_reducible refine Below.alloc ?_ ?_ _) | (with_reducible refine Below.setCell ?_ ?_ _) | (with_reducible refine Below.drew ?_) | (with_reducible refine below_drewN ?_ _) | (with_reducible exact Nat.le_refl _) | (with_reducible exact hB.size) | (simp [go_sem]; done) | (have := hB.size; simp [go_sem]; omega))); done)); (focus ((repeat' (first | (with_reducible exact hB) | (with_reducible exact Below.refl _ _) | (with_reducible refine Below.alloc ?_ ?_ _) | (with_reducible refine Below.setCell ?_ ?_ _) | (with_reducible refine Below.drew ?_) | (with_reducible refine below_drewN ?_ _) | (with_reducible exact Nat.le_refl _) | (with_reducible exact hB.size) | (simp [go_sem]; done) | (have := hB.size; simp [go_sem]; omega))); done)); clear hM hB hb; intro hM hB; (try clear hC); have hC := mem_facts hM; simp at hC))
  obtain ⟨w0, rfl⟩ : ∃ w0 : World, w0 = w' := ⟨_, rfl⟩
  go_loopg [5] 6 (fun gk i wr => OrRel Q ⟨a, b, c, d⟩ w w0.heap.size gk i wr)
  case atStart =>
    refine ⟨1, ⟨a, b, c, d⟩, rfl, Nat.le_refl _, rfl, H1.out, h, ?_, by (repeat' (first | (with_reducible exact hB) | (with_reducible exact Below.refl _ _) | (with_reducible refine Below.alloc ?_ ?_ _) | (with_reducible refine Below.setCell ?_ ?_ _) | (with_reducible refine Below.drew ?_) | (with_reducible refine below_drewN ?_ _) | (with_reducible exact Nat.le_refl _) | (with_reducible exact hB.size) | (simp [go_sem]; done) | (have := hB.size; simp [go_sem]; omega)))⟩
    apply mem_drop 0
    · (repeat' (first | (with_reducible exact hM) | (with_reducible apply mem_alloc) | (with_reducible apply mem_set) | (with_reducible apply mem_drew) | (with_reducible apply mem_drewN)))
    · simp
  case round =>
    obtain ⟨k, ⟨x, y, z, u⟩, hkg, hk1, rfl, hq, hin, hM', hB'⟩ := hrel
    have HQ := Lib.hid hq
    have HI := Lib.hid hin
    clear hq hin
    (try clear hC); clear hM hB; have hM := hM'; have hB := hB'; clear hM' hB'; have hC := mem_facts hM; simp at hC
    by_cases hk : k ≤ 6
    · have e1 := run_un x y z u
      go_upto_region 7 with fail
      go_cut [16] (fun s wx => s = .bool (unB ⟨x, y, z, u⟩) ∧ Mem wx [(w0.heap.size, #[.int .i64 x, .int .i64 y, .int .i64 z, .int .i64 u], 24), (w.heap.size, #[.int .i64 a, .int .i64 b, .int .i64 c, .int .i64 d], 24)] ∧ Below w.heap.size w wx)
      case first =>
        go_region_held3 (fun W' => W'.cell? ⟨w0.heap.size, 0, none⟩ = some (.int .i64 x) ∧ W'.cell? ⟨w0.heap.size, 1, none⟩ = some (.int .i64 y) ∧ W'.cell? ⟨w0.heap.size, 2, none⟩ = some (.int .i64 z) ∧ W'.cell? ⟨w0.heap.size, 3, none⟩ = some (.int .i64 u)) ((simp [*, go_sem]; done))
          (first | (go_at_call 19; refine (l1Unit_ _).mono ?_; rintro e w' ⟨rfl, hb⟩; apply after_call (w := w) hb; (focus ((repeat' (first | (with_reducible exact hM) | (with_reducible apply mem_alloc) | (with_reducible apply mem_set) | (with_reducible apply mem_drew) | (with_reducible apply mem_drewN))); done)); (focus ((repeat' (first | (with_reducible exact hB) | (with_reducible exact Below.refl _ _) | (with_reducible refine Below.alloc ?_ ?_ _) | (with_reducible refine Below.setCell ?_ ?_ _) | (with_reducible refine Below.drew ?_) | (with_reducible refine below_drewN ?_ _) | (with_reducible exact Nat.le_refl _) | (with_reducible exact hB.size) | (simp [go_sem]; done) | (have := hB.size; simp [go_sem]; omega))); done)); (focus ((repeat' (first | (with_reducible exact hB) | (with_reducible exact Below.refl _ _) | (with_reducible refine Below.alloc ?_ ?_ _) | (with_reducible refine Below.setCell ?_ ?_ _) | (with_reducible refine Below.drew ?_) | (with_reducible refine below_drewN ?_ _) | (with_reducible exact Nat.le_refl _) | (with_reducible exact hB.size) | (simp [go_sem]; done) | (have := hB.size; simp [go_sem]; omega))); done)); clear hM hB hb; intro hM hB; (try clear hC); have hC := mem_facts hM; simp at hC))
        all_goals
          go_wp2_with fail
          go_meet
          exact ⟨rfl, hM, by (repeat' (first | (with_reducible exact hB) | (with_reducible exact Below.refl _ _) | (with_reducible refine Below.alloc ?_ ?_ _) | (with_reducible refine Below.setCell ?_ ?_ _) | (with_reducible refine Below.drew ?_) | (with_reducible refine below_drewN ?_ _) | (with_reducible exact Nat.le_refl _) | (with_reducible exact hB.size) | (simp [go_sem]; done) | (have := hB.size; simp [go_sem]; omega)))⟩
      case rest =>
        obtain ⟨rfl, hM', hB'⟩ := hcut
        (try clear hC); clear hM hB; have hM := hM'; have hB := hB'; clear hM' hB'; have hC := mem_facts hM; simp at hC
        cases hu : unB ⟨x, y, z, u⟩
        · have HU := Lib.hid hu
          cases hi : inB (tm ⟨x, y, z, u⟩ ⟨a, b, c, d⟩)
          · have HR := Lib.hid (HN.out k _ hk1 hk HQ.out HI.out hu hi)
            go_wp2_with (first | (go_at_call 13; refine (l1Times_ _ _ _ _ _ _ _ _ _).mono ?_; rintro e w' ⟨rfl, hb⟩; apply after_call (w := w) hb; (focus ((repeat' (first | (with_reducible exact hM) | (with_reducible apply mem_alloc) | (with_reducible apply mem_set) | (with_reducible apply mem_drew) | (with_reducible apply mem_drewN))); done)); (focus ((repeat' (first | (with_reducible exact hB) | (with_reducible exact Below.refl _ _) | (with_reducible refine Below.alloc ?_ ?_ _) | (with_reducible refine Below.setCell ?_ ?_ _) | (with_reducible refine Below.drew ?_) | (with_reducible refine below_drewN ?_ _) | (with_reducible exact Nat.le_refl _) | (with_reducible exact hB.size) | (simp [go_sem]; done) | (have := hB.size; simp [go_sem]; omega))); done)); (focus ((repeat' (first | (with_reducible exact hB) | (with_reducible exact Below.refl _ _) | (with_reducible refine Below.alloc ?_ ?_ _) | (with_reducible refine Below.setCell ?_ ?_ _) | (with_reducible refine Below.drew ?_) | (with_reducible refine below_drewN ?_ _) | (with_reducible exact Nat.le_refl _) | (with_reducible exact hB.size) | (simp [go_sem]; done) | (have := hB.size; simp [go_sem]; omega))); done)); clear hM hB hb; intro hM hB; (try clear hC); have hC := mem_facts hM; simp at hC) | (go_at_call 15; refine (sMatIn_ _ _ _ _ _).mono ?_; rintro e w' ⟨rfl, hb⟩; apply after_call (w := w) hb; (focus ((repeat' (first | (with_reducible exact hM) | (with_reducible apply mem_alloc) | (with_reducible apply mem_set) | (with_reducible apply mem_drew) | (with_reducible apply mem_drewN))); done)); (focus ((repeat' (first | (with_reducible exact hB) | (with_reducible exact Below.refl _ _) | (with_reducible refine Below.alloc ?_ ?_ _) | (with_reducible refine Below.setCell ?_ ?_ _) | (with_reducible refine Below.drew ?_) | (with_reducible refine below_drewN ?_ _) | (with_reducible exact Nat.le_refl _) | (with_reducible exact hB.size) | (simp [go_sem]; done) | (have := hB.size; simp [go_sem]; omega))); done)); (focus ((repeat' (first | (with_reducible exact hB) | (with_reducible exact Below.refl _ _) | (with_reducible refine Below.alloc ?_ ?_ _) | (with_reducible refine Below.setCell ?_ ?_ _) | (with_reducible refine Below.drew ?_) | (with_reducible refine below_drewN ?_ _) | (with_reducible exact Nat.le_refl _) | (with_reducible exact hB.size) | (simp [go_sem]; done) | (have := hB.size; simp [go_sem]; omega))); done)); clear hM hB hb; intro hM hB; (try simp [hC] at hM); (try clear hC); have hC := mem_facts hM; simp at hC))
            go_ret2
            exact ⟨by rw [HR.out]; rfl, by (repeat' (first | (with_reducible exact hB) | (with_reducible exact Below.refl _ _) | (with_reducible refine Below.alloc ?_ ?_ _) | (with_reducible refine Below.setCell ?_ ?_ _) | (with_reducible refine Below.drew ?_) | (with_reducible refine below_drewN ?_ _) | (with_reducible exact Nat.le_refl _) | (with_reducible exact hB.size) | (simp [go_sem]; done) | (have := hB.size; simp [go_sem]; omega)))⟩
          · have HR := Lib.hid (HG.out k _ hk1 hk HQ.out HI.out hu hi)
            go_wp2_with (first | (go_at_call 13; refine (l1Times_ _ _ _ _ _ _ _ _ _).mono ?_; rintro e w' ⟨rfl, hb⟩; apply after_call (w := w) hb; (focus ((repeat' (first | (with_reducible exact hM) | (with_reducible apply mem_alloc) | (with_reducible apply mem_set) | (with_reducible apply mem_drew) | (with_reducible apply mem_drewN))); done)); (focus ((repeat' (first | (with_reducible exact hB) | (with_reducible exact Below.refl _ _) | (with_reducible refine Below.alloc ?_ ?_ _) | (with_reducible refine Below.setCell ?_ ?_ _) | (with_reducible refine Below.drew ?_) | (with_reducible refine below_drewN ?_ _) | (with_reducible exact Nat.le_refl _) | (with_reducible exact hB.size) | (simp [go_sem]; done) | (have := hB.size; simp [go_sem]; omega))); done)); (focus ((repeat' (first | (with_reducible exact hB) | (with_reducible exact Below.refl _ _) | (with_reducible refine Below.alloc ?_ ?_ _) | (with_reducible refine Below.setCell ?_ ?_ _) | (with_reducible refine Below.drew ?_) | (with_reducible refine below_drewN ?_ _) | (with_reducible exact Nat.le_refl _) | (with_reducible exact hB.size) | (simp [go_sem]; done) | (have := hB.size; simp [go_sem]; omega))); done)); clear hM hB hb; intro hM hB; (try clear hC); have hC := mem_facts hM; simp at hC) | (go_at_call 15; refine (sMatIn_ _ _ _ _ _).mono ?_; rintro e w' ⟨rfl, hb⟩; apply after_call (w := w) hb; (focus ((repeat' (first | (with_reducible exact hM) | (with_reducible apply mem_alloc) | (with_reducible apply mem_set) | (with_reducible apply mem_drew) | (with_reducible apply mem_drewN))); done)); (focus ((repeat' (first | (with_reducible exact hB) | (with_reducible exact Below.refl _ _) | (with_reducible refine Below.alloc ?_ ?_ _) | (with_reducible refine Below.setCell ?_ ?_ _) | (with_reducible refine Below.drew ?_) | (with_reducible refine below_drewN ?_ _) | (with_reducible exact Nat.le_refl _) | (with_reducible exact hB.size) | (simp [go_sem]; done) | (have := hB.size; simp [go_sem]; omega))); done)); (focus ((repeat' (first | (with_reducible exact hB) | (with_reducible exact Below.refl _ _) | (with_reducible refine Below.alloc ?_ ?_ _) | (with_reducible refine Below.setCell ?_ ?_ _) | (with_reducible refine Below.drew ?_) | (with_reducible refine below_drewN ?_ _) | (with_reducible exact Nat.le_refl _) | (with_reducible exact hB.size) | (simp [go_sem]; done) | (have := hB.size; simp [go_sem]; omega))); done)); clear hM hB hb; intro hM hB; (try simp [hC] at hM); (try clear hC); have hC := mem_facts hM; simp at hC))
            go_roundg (gk - 1)
            case measure => omega
            case rel =>
              refine ⟨k + 1, tm ⟨x, y, z, u⟩ ⟨a, b, c, d⟩, by omega, by omega, by go_num, HR.out, hi, ?_, by (repeat' (first | (with_reducible exact hB) | (with_reducible exact Below.refl _ _) | (with_reducible refine Below.alloc ?_ ?_ _) | (with_reducible refine Below.setCell ?_ ?_ _) | (with_reducible refine Below.drew ?_) | (with_reducible refine below_drewN ?_ _) | (with_reducible exact Nat.le_refl _) | (with_reducible exact hB.size) | (simp [go_sem]; done) | (have := hB.size; simp [go_sem]; omega)))⟩
              apply mem_drop 0
              · (repeat' (first | (with_reducible exact hM) | (with_reducible apply mem_alloc) | (with_reducible apply mem_set) | (with_reducible apply mem_drew) | (with_reducible apply mem_drewN)))
              · simp
        · have HR := Lib.hid (HY.out k _ hk1 hk HQ.out hu)
          go_wp2
          go_ret2
          exact ⟨by rw [HR.out]; rfl, by (repeat' (first | (with_reducible exact hB) | (with_reducible exact Below.refl _ _) | (with_reducible refine Below.alloc ?_ ?_ _) | (with_reducible refine Below.setCell ?_ ?_ _) | (with_reducible refine Below.drew ?_) | (with_reducible refine below_drewN ?_ _) | (with_reducible exact Nat.le_refl _) | (with_reducible exact hB.size) | (simp [go_sem]; done) | (have := hB.size; simp [go_sem]; omega)))⟩
    · obtain rfl : k = 7 := by omega
      have HR := Lib.hid (HE.out _ HQ.out)
      go_wp2
      go_ret2
      exact ⟨by rw [HR.out]; rfl, by (repeat' (first | (with_reducible exact hB) | (with_reducible exact Below.refl _ _) | (with_reducible refine Below.alloc ?_ ?_ _) | (with_reducible refine Below.setCell ?_ ?_ _) | (with_reducible refine Below.drew ?_) | (with_reducible refine below_drewN ?_ _) | (with_reducible exact Nat.le_refl _) | (with_reducible exact hB.size) | (simp [go_sem]; done) | (have := hB.size; simp [go_sem]; omega)))⟩
theorem sTurnOrder_ (a b c d : Int) (w : World) : Calls Try.prog 6 #[.agg #[.int .i64 a, .int .i64 b, .int .i64 c, .int .i64 d]] w (fun E' W' => E' = .returned (.tuple #[.int .i64 (tor ⟨a, b, c, d⟩).1, .bool (tor ⟨a, b, c, d⟩).2]) ∧ Below w.heap.size w W') := by
  cases h : inB ⟨a, b, c, d⟩ && evB ⟨a, b, c, d⟩
  · have HE := Lib.hid (show tor ⟨a, b, c, d⟩ = (0, false) from by simp [tor, h])
    have hM := mem_nil w; have hB := Below.refl w.heap.size w; have hC := True.intro
    go_enter Try.func6, Try.ntmps6
    go_wp2_with (first | (go_at_call 18; refine (sMatEven_ _ _ _ _ _).mono ?_; rintro e w' ⟨rfl, hb⟩; apply after_call (w := w) hb; (focus ((repeat' (first | (with_reducible exact hM) | (with_reducible apply mem_alloc) | (with_reducible apply mem_set) | (with_reducible apply mem_drew) | (with_reducible apply mem_drewN))); done)); (focus ((repeat' (first | (with_reducible exact hB) | (with_reducible exact Below.refl _ _) | (with_reducible refine Below.alloc ?_ ?_ _) | (with_reducible refine Below.setCell ?_ ?_ _) | (with_reducible refine Below.drew ?_) | (with_reducible refine below_drewN ?_ _) | (with_reducible exact Nat.le_refl _) | (with_reducible exact hB.size) | (simp [go_sem]; done) | (have := hB.size; simp [go_sem]; omega))); done)); (focus ((repeat' (first | (with_reducible exact hB) | (with_reducible exact Below.refl _ _) | (with_reducible refine Below.alloc ?_ ?_ _) | (with_reducible refine Below.setCell ?_ ?_ _) | (with_reducible refine Below.drew ?_) | (with_reducible refine below_drewN ?_ _) | (with_reducible exact Nat.le_refl _) | (with_reducible exact hB.size) | (simp [go_sem]; done) | (have := hB.size; simp [go_sem]; omega))); done)); clear hM hB hb; intro hM hB; (try clear hC); have hC := mem_facts hM; simp at hC))
    go_ret2
    exact ⟨by rw [HE.out]; rfl, by (repeat' (first | (with_reducible exact hB) | (with_reducible exact Below.refl _ _) | (with_reducible refine Below.alloc ?_ ?_ _) | (with_reducible refine Below.setCell ?_ ?_ _) | (with_reducible refine Below.drew ?_) | (with_reducible refine below_drewN ?_ _) | (with_reducible exact Nat.le_refl _) | (with_reducible exact hB.size) | (simp [go_sem]; done) | (have := hB.size; simp [go_sem]; omega)))⟩
  · have HE : tor ⟨a, b, c, d⟩ = ord ⟨a, b, c, d⟩ := by simp [tor, h]
    rw [HE]
    simp only [Bool.and_eq_true] at h
    obtain ⟨h1, h2⟩ := h
    have hd := (evB_iff h1).1 h2
    rcases ord_seq h1 hd with ⟨K, P, hP1, hst, hin, hun, hK1, hK6, ho⟩ | ⟨n1, n2, n3⟩
    · refine sTurnOrder_go a b c d (fun k p => k ≤ K ∧ p = P k) _ h1 h2 ⟨hK1, hP1.symm⟩ ?_ ?_ ?_ ?_ w
      · rintro k p hk1 _ ⟨hk, rfl⟩ hu
        by_cases e : k = K
        · rw [ho, e]
        · have := (hst k hk1 (by omega)).2
          rw [hu] at this; cases this
      · rintro k p hk1 hk6 ⟨hk, rfl⟩ hi hu hn
        by_cases e : k = K
        · subst e; rw [hun] at hu; cases hu
        · rw [(hst k hk1 (by omega)).1, hin (k + 1) (by omega) (by omega)] at hn; cases hn
      · rintro k p hk1 hk6 ⟨hk, rfl⟩ hi hu hn
        by_cases e : k = K
        · subst e; rw [hun] at hu; cases hu
        · exact ⟨by omega, (hst k hk1 (by omega)).1⟩
      · rintro p ⟨hk, rfl⟩
        omega
    · have ho := ord_none n1 n2 n3
      refine sTurnOrder_go a b c d (fun k p => ∃ u v, p = lin u v ⟨a, b, c, d⟩ ∧ v.natAbs < u.natAbs) _ h1 h2 ⟨1, 0, (lin_one _).symm, by decide⟩ ?_ ?_ ?_ ?_ w
      · rintro k p _ _ ⟨u, v, rfl, huv⟩ hu
        rw [lin_not n1 n2 hd huv] at hu; cases hu
      · intro k p _ _ _ _ _ _; exact ho
      · rintro k p _ _ ⟨u, v, rfl, huv⟩ hi _ _
        exact ⟨_, _, by rw [tm_x hi h1, xm_lin hd], lin_grow n3 huv⟩
      · intro p _; exact ho
end Go.Proofs.Yteepjgamcgceoaa

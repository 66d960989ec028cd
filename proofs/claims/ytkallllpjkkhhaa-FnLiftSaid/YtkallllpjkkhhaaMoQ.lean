
/- The lifted matrix: what the program tells; the model's, walked. No condition. -/
import Derived.Test.YtkallllpjkkhhaaMoM
namespace Go.Proofs.Ytkallllpjkkhhaa
open Go.RowKit

/-- what RestLift tells -/
def mLf (m : M) (n : Int) : (Nat × Nat × Nat × Nat) × Bool := if mRestEven m n then oL (lifP n.toNat m.a.toNat m.b.toNat m.c.toNat m.d.toNat) else ((0, 0, 0, 0), false)
theorem RestLift_ (a b c d n : Int) (w : World) : Calls Try.prog 6 #[.agg #[.int .i64 a, .int .i64 b, .int .i64 c, .int .i64 d], .int .i64 n] w
    (fun E' W' => E' = .returned (.tuple #[.agg #[.int .i64 ((mLf ⟨a, b, c, d⟩ n).1.1 : Nat), .int .i64 ((mLf ⟨a, b, c, d⟩ n).1.2.1 : Nat), .int .i64 ((mLf ⟨a, b, c, d⟩ n).1.2.2.1 : Nat), .int .i64 ((mLf ⟨a, b, c, d⟩ n).1.2.2.2 : Nat)], .bool (mLf ⟨a, b, c, d⟩ n).2]) ∧ Below w.heap.size w W') := by
  cases h1 : mRestEven ⟨a, b, c, d⟩ n
  · have HR := Lib.hid (show mLf ⟨a, b, c, d⟩ n = ((0, 0, 0, 0), false) by simp [mLf, h1])
    have hM := mem_nil w; have hB := Below.refl w.heap.size w; have hC := True.intro
    go_enter Try.func6, Try.ntmps6
    go_wp2_with (go_at_call 18; refine (RestEven_ _ _ _ _ _ _).mono ?_; rintro e w' ⟨rfl, hb⟩; apply after_call (w := w) hb; (focus ((repeat' (first | (with_reducible exact hM) | (with_reducible apply mem_alloc) | (with_reducible apply mem_set) | (with_reducible apply mem_drew) | (with_reducible apply mem_drewN))); done)); (focus ((repeat' (first | (with_reducible exact hB) | (with_reducible exact Below.refl _ _) | (with_reducible refine Below.alloc ?_ ?_ _) | (with_reducible refine Below.setCell ?_ ?_ _) | (with_reducible refine Below.drew ?_) | (with_reducible refine below_drewN ?_ _) | (with_reducible exact Nat.le_refl _) | (with_reducible exact hB.size) | (simp [go_sem]; done) | (have := hB.size; simp [go_sem]; omega))); done)); (focus ((repeat' (first | (with_reducible exact hB) | (with_reducible exact Below.refl _ _) | (with_reducible refine Below.alloc ?_ ?_ _) | (with_reducible refine Below.setCell ?_ ?_ _) | (with_reducible refine Below.drew ?_) | (with_reducible refine below_drewN ?_ _) | (with_reducible exact Nat.le_refl _) | (with_reducible exact hB.size) | (simp [go_sem]; done) | (have := hB.size; simp [go_sem]; omega))); done)); clear hM hB hb; intro hM hB; (try clear hC); have hC := mem_facts hM; simp at hC)
    refine bodyPost_ret (by (simp [results, Try.results6, go_sem, *]; try rfl)) rfl ?_
    exact ⟨by rw [HR.out]; rfl, by (repeat' (first | (with_reducible exact hB) | (with_reducible exact Below.refl _ _) | (with_reducible refine Below.alloc ?_ ?_ _) | (with_reducible refine Below.setCell ?_ ?_ _) | (with_reducible refine Below.drew ?_) | (with_reducible refine below_drewN ?_ _) | (with_reducible exact Nat.le_refl _) | (with_reducible exact hB.size) | (simp [go_sem]; done) | (have := hB.size; simp [go_sem]; omega)))⟩
  · have h1' := h1
    simp only [mRestEven, Bool.and_eq_true] at h1'
    obtain ⟨k, rfl, hk1, hk2⟩ := mdB_nat h1'.1
    have h2 := h1'.2
    simp only [reB, Bool.and_eq_true] at h2
    obtain ⟨a', b', c', d', e, _, _, _, _⟩ := rbM_nat h2.1
    have e1 : a = a' := congrArg M.a e
    have e2 : b = b' := congrArg M.b e
    have e3 : c = c' := congrArg M.c e
    have e4 : d = d' := congrArg M.d e
    clear e h2 h1'
    subst e1 e2 e3 e4
    have cO := fun W => lift_ k a' b' c' d' ⟨hk1, hk2⟩ (by omega) (by omega) (by omega) (by omega) W
    have HR := Lib.hid (show mLf ⟨a', b', c', d'⟩ k = oL (lifP k a' b' c' d') by simp [mLf, h1])
    generalize oL (lifP k a' b' c' d') = o at *
    obtain ⟨⟨p, q, r, s⟩, t⟩ := o
    dsimp only at cO
    have hM := mem_nil w; have hB := Below.refl w.heap.size w; have hC := True.intro
    go_enter Try.func6, Try.ntmps6
    go_wp2_with (first | (go_at_call 18; refine (RestEven_ _ _ _ _ _ _).mono ?_; rintro e w' ⟨rfl, hb⟩; apply after_call (w := w) hb; (focus ((repeat' (first | (with_reducible exact hM) | (with_reducible apply mem_alloc) | (with_reducible apply mem_set) | (with_reducible apply mem_drew) | (with_reducible apply mem_drewN))); done)); (focus ((repeat' (first | (with_reducible exact hB) | (with_reducible exact Below.refl _ _) | (with_reducible refine Below.alloc ?_ ?_ _) | (with_reducible refine Below.setCell ?_ ?_ _) | (with_reducible refine Below.drew ?_) | (with_reducible refine below_drewN ?_ _) | (with_reducible exact Nat.le_refl _) | (with_reducible exact hB.size) | (simp [go_sem]; done) | (have := hB.size; simp [go_sem]; omega))); done)); (focus ((repeat' (first | (with_reducible exact hB) | (with_reducible exact Below.refl _ _) | (with_reducible refine Below.alloc ?_ ?_ _) | (with_reducible refine Below.setCell ?_ ?_ _) | (with_reducible refine Below.drew ?_) | (with_reducible refine below_drewN ?_ _) | (with_reducible exact Nat.le_refl _) | (with_reducible exact hB.size) | (simp [go_sem]; done) | (have := hB.size; simp [go_sem]; omega))); done)); clear hM hB hb; intro hM hB; (try clear hC); have hC := mem_facts hM; simp at hC) | (go_at_call 19; refine (cO _).mono ?_; rintro e w' ⟨rfl, hb⟩; apply after_call (w := w) hb; (focus ((repeat' (first | (with_reducible exact hM) | (with_reducible apply mem_alloc) | (with_reducible apply mem_set) | (with_reducible apply mem_drew) | (with_reducible apply mem_drewN))); done)); (focus ((repeat' (first | (with_reducible exact hB) | (with_reducible exact Below.refl _ _) | (with_reducible refine Below.alloc ?_ ?_ _) | (with_reducible refine Below.setCell ?_ ?_ _) | (with_reducible refine Below.drew ?_) | (with_reducible refine below_drewN ?_ _) | (with_reducible exact Nat.le_refl _) | (with_reducible exact hB.size) | (simp [go_sem]; done) | (have := hB.size; simp [go_sem]; omega))); done)); (focus ((repeat' (first | (with_reducible exact hB) | (with_reducible exact Below.refl _ _) | (with_reducible refine Below.alloc ?_ ?_ _) | (with_reducible refine Below.setCell ?_ ?_ _) | (with_reducible refine Below.drew ?_) | (with_reducible refine below_drewN ?_ _) | (with_reducible exact Nat.le_refl _) | (with_reducible exact hB.size) | (simp [go_sem]; done) | (have := hB.size; simp [go_sem]; omega))); done)); clear hM hB hb; intro hM hB; (try clear hC); have hC := mem_facts hM; simp at hC))
    refine bodyPost_ret (by (simp [results, Try.results6, go_sem, *]; try rfl)) rfl ?_
    exact ⟨by rw [HR.out], by (repeat' (first | (with_reducible exact hB) | (with_reducible exact Below.refl _ _) | (with_reducible refine Below.alloc ?_ ?_ _) | (with_reducible refine Below.setCell ?_ ?_ _) | (with_reducible refine Below.drew ?_) | (with_reducible refine below_drewN ?_ _) | (with_reducible exact Nat.le_refl _) | (with_reducible exact hB.size) | (simp [go_sem]; done) | (have := hB.size; simp [go_sem]; omega)))⟩
set_option maxHeartbeats 4000000 in
theorem sRestLift_ (a b c d n : Int) (w : World) : Calls Try.prog 7 #[.agg #[.int .i64 a, .int .i64 b, .int .i64 c, .int .i64 d], .int .i64 n] w
    (fun E' W' => E' = .returned (.tuple #[.agg #[.int .i64 ((mLf ⟨a, b, c, d⟩ n).1.1 : Nat), .int .i64 ((mLf ⟨a, b, c, d⟩ n).1.2.1 : Nat), .int .i64 ((mLf ⟨a, b, c, d⟩ n).1.2.2.1 : Nat), .int .i64 ((mLf ⟨a, b, c, d⟩ n).1.2.2.2 : Nat)], .bool (mLf ⟨a, b, c, d⟩ n).2]) ∧ Below w.heap.size w W') := by
  cases h1 : mRestEven ⟨a, b, c, d⟩ n
  · have HR := Lib.hid (show mLf ⟨a, b, c, d⟩ n = ((0, 0, 0, 0), false) by simp [mLf, h1])
    have hM := mem_nil w; have hB := Below.refl w.heap.size w; have hC := True.intro
    go_enter Try.func7, Try.ntmps7
    go_wp2_with (first | (go_at_call 20; refine (sRestEven_ _ _ _ _ _ _).mono ?_; rintro e w' ⟨rfl, hb⟩; apply after_call (w := w) hb; (focus ((repeat' (first | (with_reducible exact hM) | (with_reducible apply mem_alloc) | (with_reducible apply mem_set) | (with_reducible apply mem_drew) | (with_reducible apply mem_drewN))); done)); (focus ((repeat' (first | (with_reducible exact hB) | (with_reducible exact Below.refl _ _) | (with_reducible refine Below.alloc ?_ ?_ _) | (with_reducible refine Below.setCell ?_ ?_ _) | (with_reducible refine Below.drew ?_) | (with_reducible refine below_drewN ?_ _) | (with_reducible exact Nat.le_refl _) | (with_reducible exact hB.size) | (simp [go_sem]; done) | (have := hB.size; simp [go_sem]; omega))); done)); (focus ((repeat' (first | (with_reducible exact hB) | (with_reducible exact Below.refl _ _) | (with_reducible refine Below.alloc ?_ ?_ _) | (with_reducible refine Below.setCell ?_ ?_ _) | (with_reducible refine Below.drew ?_) | (with_reducible refine below_drewN ?_ _) | (with_reducible exact Nat.le_refl _) | (with_reducible exact hB.size) | (simp [go_sem]; done) | (have := hB.size; simp [go_sem]; omega))); done)); clear hM hB hb; intro hM hB; (try clear hC); have hC := mem_facts hM; simp at hC) | (go_at_call 21; refine (l1None_ _).mono ?_; rintro e w' ⟨rfl, hb⟩; apply after_call (w := w) hb; (focus ((repeat' (first | (with_reducible exact hM) | (with_reducible apply mem_alloc) | (with_reducible apply mem_set) | (with_reducible apply mem_drew) | (with_reducible apply mem_drewN))); done)); (focus ((repeat' (first | (with_reducible exact hB) | (with_reducible exact Below.refl _ _) | (with_reducible refine Below.alloc ?_ ?_ _) | (with_reducible refine Below.setCell ?_ ?_ _) | (with_reducible refine Below.drew ?_) | (with_reducible refine below_drewN ?_ _) | (with_reducible exact Nat.le_refl _) | (with_reducible exact hB.size) | (simp [go_sem]; done) | (have := hB.size; simp [go_sem]; omega))); done)); (focus ((repeat' (first | (with_reducible exact hB) | (with_reducible exact Below.refl _ _) | (with_reducible refine Below.alloc ?_ ?_ _) | (with_reducible refine Below.setCell ?_ ?_ _) | (with_reducible refine Below.drew ?_) | (with_reducible refine below_drewN ?_ _) | (with_reducible exact Nat.le_refl _) | (with_reducible exact hB.size) | (simp [go_sem]; done) | (have := hB.size; simp [go_sem]; omega))); done)); clear hM hB hb; intro hM hB; (try clear hC); have hC := mem_facts hM; simp at hC))
    refine bodyPost_ret (by (simp [results, Try.results7, go_sem, *]; try rfl)) rfl ?_
    exact ⟨by rw [HR.out]; rfl, by (repeat' (first | (with_reducible exact hB) | (with_reducible exact Below.refl _ _) | (with_reducible refine Below.alloc ?_ ?_ _) | (with_reducible refine Below.setCell ?_ ?_ _) | (with_reducible refine Below.drew ?_) | (with_reducible refine below_drewN ?_ _) | (with_reducible exact Nat.le_refl _) | (with_reducible exact hB.size) | (simp [go_sem]; done) | (have := hB.size; simp [go_sem]; omega)))⟩
  · have h1' := h1
    simp only [mRestEven, Bool.and_eq_true] at h1'
    obtain ⟨k, rfl, hk1, hk2⟩ := mdB_nat h1'.1
    have h2 := h1'.2
    simp only [reB, Bool.and_eq_true] at h2
    obtain ⟨a', b', c', d', e, _, _, _, _⟩ := rbM_nat h2.1
    have e1 : a = a' := congrArg M.a e
    have e2 : b = b' := congrArg M.b e
    have e3 : c = c' := congrArg M.c e
    have e4 : d = d' := congrArg M.d e
    clear e h2 h1'
    subst e1 e2 e3 e4
    have HR := Lib.hid (show mLf ⟨a', b', c', d'⟩ k = oL (lifP k a' b' c' d') by simp [mLf, h1])
    have hM := mem_nil w; have hB := Below.refl w.heap.size w; have hC := True.intro
    go_enter Try.func7, Try.ntmps7
    go_wp2_with (go_at_call 20; refine (sRestEven_ _ _ _ _ _ _).mono ?_; rintro e w' ⟨rfl, hb⟩; apply after_call (w := w) hb; (focus ((repeat' (first | (with_reducible exact hM) | (with_reducible apply mem_alloc) | (with_reducible apply mem_set) | (with_reducible apply mem_drew) | (with_reducible apply mem_drewN))); done)); (focus ((repeat' (first | (with_reducible exact hB) | (with_reducible exact Below.refl _ _) | (with_reducible refine Below.alloc ?_ ?_ _) | (with_reducible refine Below.setCell ?_ ?_ _) | (with_reducible refine Below.drew ?_) | (with_reducible refine below_drewN ?_ _) | (with_reducible exact Nat.le_refl _) | (with_reducible exact hB.size) | (simp [go_sem]; done) | (have := hB.size; simp [go_sem]; omega))); done)); (focus ((repeat' (first | (with_reducible exact hB) | (with_reducible exact Below.refl _ _) | (with_reducible refine Below.alloc ?_ ?_ _) | (with_reducible refine Below.setCell ?_ ?_ _) | (with_reducible refine Below.drew ?_) | (with_reducible refine below_drewN ?_ _) | (with_reducible exact Nat.le_refl _) | (with_reducible exact hB.size) | (simp [go_sem]; done) | (have := hB.size; simp [go_sem]; omega))); done)); clear hM hB hb; intro hM hB; (try clear hC); have hC := mem_facts hM; simp at hC)
    go_loop [6] (fun v => ∃ y1 : Nat, v = .int .i64 y1 ∧ y1 ≤ 42 ∧ (lfs k a').findSome? (fA k b' c' d') = (lfs k y1).findSome? (fA k b' c' d')) (fun v => 43 - (intOf v).toNat)
    case atStart => exact ⟨a', rfl, by omega, rfl⟩
    case round =>
      obtain ⟨y1, rfl, hy1, hq⟩ := hrel
      have HQ1 := Lib.hid hq
      clear hq
      by_cases hl1 : y1 ≤ 30
      · have HC1 := Lib.hid (lfs_cons (k := k) (by omega) hl1)
        go_wp2
        go_loop [7] (fun v => ∃ y2 : Nat, v = .int .i64 y2 ∧ y2 ≤ 42 ∧ (lfs k b').findSome? (fB k c' d' y1) = (lfs k y2).findSome? (fB k c' d' y1)) (fun v => 43 - (intOf v).toNat)
        case atStart => exact ⟨b', rfl, by omega, rfl⟩
        case round =>
          obtain ⟨y2, rfl, hy2, hq⟩ := hrel
          have HQ2 := Lib.hid hq
          clear hq
          by_cases hl2 : y2 ≤ 30
          · have HC2 := Lib.hid (lfs_cons (k := k) (by omega) hl2)
            go_wp2
            go_loop [8] (fun v => ∃ y3 : Nat, v = .int .i64 y3 ∧ y3 ≤ 42 ∧ (lfs k c').findSome? (fC k d' y1 y2) = (lfs k y3).findSome? (fC k d' y1 y2)) (fun v => 43 - (intOf v).toNat)
            case atStart => exact ⟨c', rfl, by omega, rfl⟩
            case round =>
              obtain ⟨y3, rfl, hy3, hq⟩ := hrel
              have HQ3 := Lib.hid hq
              clear hq
              by_cases hl3 : y3 ≤ 30
              · have HC3 := Lib.hid (lfs_cons (k := k) (by omega) hl3)
                go_wp2
                go_loop [9] (fun v => ∃ y4 : Nat, v = .int .i64 y4 ∧ y4 ≤ 42 ∧ (lfs k d').findSome? (fD y1 y2 y3) = (lfs k y4).findSome? (fD y1 y2 y3)) (fun v => 43 - (intOf v).toNat)
                case atStart => exact ⟨d', rfl, by omega, rfl⟩
                case round =>
                  obtain ⟨y4, rfl, hy4, hq⟩ := hrel
                  have HQ4 := Lib.hid hq
                  clear hq
                  by_cases hl4 : y4 ≤ 30
                  · have HC4 := Lib.hid (lfs_cons (k := k) (by omega) hl4)
                    have e1 := mul_bd (x := y1) (y := y4) (a := 42) (b := 42) ⟨by omega, by omega⟩ ⟨by omega, by omega⟩
                    have e2 := mul_bd (x := y2) (y := y3) (a := 42) (b := 42) ⟨by omega, by omega⟩ ⟨by omega, by omega⟩
                    cases h1 : ((y1 : Int) * y4 - y2 * y3 == 1)
                    · have HN := Lib.hid (show fD y1 y2 y3 y4 = none by simp only [beq_eq_false_iff_ne] at h1; simp [fD, h1])
                      go_wp2
                      go_round
                      case rel => exact ⟨y4 + k, by simp, by omega, by rw [HQ4.out, HC4.out, List.findSome?_cons, HN.out]⟩
                      case measure => simp [intOf]; omega
                    · have HN := Lib.hid (show fD y1 y2 y3 y4 = some (y1, y2, y3, y4) by simp only [beq_iff_eq] at h1; simp [fD, h1])
                      go_wp2
                      refine bodyPost_ret (by (simp [results, Try.results7, go_sem, *]; try rfl)) rfl ?_
                      refine ⟨?_, by (repeat' (first | (with_reducible exact hB) | (with_reducible exact Below.refl _ _) | (with_reducible refine Below.alloc ?_ ?_ _) | (with_reducible refine Below.setCell ?_ ?_ _) | (with_reducible refine Below.drew ?_) | (with_reducible refine below_drewN ?_ _) | (with_reducible exact Nat.le_refl _) | (with_reducible exact hB.size) | (simp [go_sem]; done) | (have := hB.size; simp [go_sem]; omega)))⟩
                      have H3 : fC k d' y1 y2 y3 = some (y1, y2, y3, y4) := by rw [fC, HQ4.out, HC4.out, List.findSome?_cons, HN.out]
                      have H2 : fB k c' d' y1 y2 = some (y1, y2, y3, y4) := by rw [fB, HQ3.out, HC3.out, List.findSome?_cons, H3]
                      have H1 : fA k b' c' d' y1 = some (y1, y2, y3, y4) := by rw [fA, HQ2.out, HC2.out, List.findSome?_cons, H2]
                      have H0 : lifP k a' b' c' d' = some (y1, y2, y3, y4) := by rw [lifP, HQ1.out, HC1.out, List.findSome?_cons, H1]
                      rw [HR.out, H0]
                      rfl
                  · have HF := Lib.hid (show fC k d' y1 y2 y3 = none by rw [fC, HQ4.out, lfs_nil (by omega)]; rfl)
                    go_wp2
                    go_round
                    case rel => exact ⟨y3 + k, by simp, by omega, by rw [HQ3.out, HC3.out, List.findSome?_cons, HF.out]⟩
                    case measure => simp [intOf]; omega
              · have HF := Lib.hid (show fB k c' d' y1 y2 = none by rw [fB, HQ3.out, lfs_nil (by omega)]; rfl)
                go_wp2
                go_round
                case rel => exact ⟨y2 + k, by simp, by omega, by rw [HQ2.out, HC2.out, List.findSome?_cons, HF.out]⟩
                case measure => simp [intOf]; omega
          · have HF := Lib.hid (show fA k b' c' d' y1 = none by rw [fA, HQ2.out, lfs_nil (by omega)]; rfl)
            go_wp2
            go_round
            case rel => exact ⟨y1 + k, by simp, by omega, by rw [HQ1.out, HC1.out, List.findSome?_cons, HF.out]⟩
            case measure => simp [intOf]; omega
      · have HF := Lib.hid (show lifP k a' b' c' d' = none by rw [lifP, HQ1.out, lfs_nil (by omega)]; rfl)
        go_wp2_with (go_at_call 21; refine (l1None_ _).mono ?_; rintro e w' ⟨rfl, hb⟩; apply after_call (w := w) hb; (focus ((repeat' (first | (with_reducible exact hM) | (with_reducible apply mem_alloc) | (with_reducible apply mem_set) | (with_reducible apply mem_drew) | (with_reducible apply mem_drewN))); done)); (focus ((repeat' (first | (with_reducible exact hB) | (with_reducible exact Below.refl _ _) | (with_reducible refine Below.alloc ?_ ?_ _) | (with_reducible refine Below.setCell ?_ ?_ _) | (with_reducible refine Below.drew ?_) | (with_reducible refine below_drewN ?_ _) | (with_reducible exact Nat.le_refl _) | (with_reducible exact hB.size) | (simp [go_sem]; done) | (have := hB.size; simp [go_sem]; omega))); done)); (focus ((repeat' (first | (with_reducible exact hB) | (with_reducible exact Below.refl _ _) | (with_reducible refine Below.alloc ?_ ?_ _) | (with_reducible refine Below.setCell ?_ ?_ _) | (with_reducible refine Below.drew ?_) | (with_reducible refine below_drewN ?_ _) | (with_reducible exact Nat.le_refl _) | (with_reducible exact hB.size) | (simp [go_sem]; done) | (have := hB.size; simp [go_sem]; omega))); done)); clear hM hB hb; intro hM hB; (try clear hC); have hC := mem_facts hM; simp at hC)
        refine bodyPost_ret (by (simp [results, Try.results7, go_sem, *]; try rfl)) rfl ?_
        exact ⟨by rw [HR.out, HF.out]; rfl, by (repeat' (first | (with_reducible exact hB) | (with_reducible exact Below.refl _ _) | (with_reducible refine Below.alloc ?_ ?_ _) | (with_reducible refine Below.setCell ?_ ?_ _) | (with_reducible refine Below.drew ?_) | (with_reducible refine below_drewN ?_ _) | (with_reducible exact Nat.le_refl _) | (with_reducible exact hB.size) | (simp [go_sem]; done) | (have := hB.size; simp [go_sem]; omega)))⟩
end Go.Proofs.Ytkallllpjkkhhaa

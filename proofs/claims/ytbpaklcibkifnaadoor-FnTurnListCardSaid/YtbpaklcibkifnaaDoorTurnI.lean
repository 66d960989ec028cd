
/- The program's functions on lists of shifts and turns, walked: what is a list; the matrix of a list; the matrix of an argument that is one. Each for every argument; what asks for an error, under the card's condition on the package's variable. -/
import Derived.Test.YtbpaklcibkifnaaDoorTurnR
import Derived.Test.YtbpaklcibkifnaaDoorImplB
import Derived.Test.YtbpaklcibkifnaaDoorAsB
import Derived.Deep.LoopGhost
import Derived.Deep.DeepCutAuto
namespace Go.Proofs.YtbpaklcibkifnaaDoor
open Go.RowKit

set_option maxHeartbeats 1000000 in
theorem turnsIn_ (v : Value) (zs : List Int) (hz : zs.length ≤ 1000000000) (w : World) (hv : RdO w v zs) : Calls Tryd.prog 22 #[v] w (fun E' W' => E' = .returned (.bool (lsB zs)) ∧ w = W') := by
  obtain ⟨ao, cap, rfl, _, hc⟩ := hv
  by_cases h1 : zs.length < 1
  · go_enter Tryd.func22, Tryd.ntmps22
    go_wp2
    go_ret
    exact ⟨by simp [lsB]; omega, rfl⟩
  · by_cases h2 : 20 < zs.length
    · go_enter Tryd.func22, Tryd.ntmps22
      go_wp2
      go_ret
      exact ⟨by simp [lsB]; omega, rfl⟩
    · have HC := Lib.hid hc
      clear hc
      go_enter Tryd.func22, Tryd.ntmps22
      go_wp2
      go_loop [4, 15] (fun _ i => ∃ k : Nat, k ≤ zs.length ∧ i = .int .i64 k ∧ (zs.take k).all thB = true) (fun _ i => zs.length - (intOf i).toNat)
      case atStart => exact ⟨0, Nat.zero_le _, rfl, by simp⟩
      case round =>
        obtain ⟨k, hk, rfl, ha⟩ := hrel
        have HA := Lib.hid ha
        clear ha
        by_cases hlt : k < zs.length
        · obtain ⟨g, o, rfl, h3⟩ := HC.out k hlt
          have HS := Lib.hid (all_take_succ (p := thB) hlt)
          have HF := Lib.hid (all_false_of (p := thB) hlt)
          generalize zs.getD k 0 = z at *
          by_cases h4 : z < -1000
          · go_wp2
            go_ret
            exact ⟨by simp [lsB, HF.out (by simp [thB]; omega)], rfl⟩
          · by_cases h5 : 1000 < z
            · go_wp2
              go_ret
              exact ⟨by simp [lsB, HF.out (by simp [thB]; omega)], rfl⟩
            · go_wp2
              go_round
              case rel => exact ⟨k + 1, by omega, by go_num, by rw [HS.out, HA.out]; simp [thB]; omega⟩
              case measure => simp [intOf]; omega
        · obtain rfl : k = zs.length := by omega
          go_wp2
          go_ret
          have := HA.out
          rw [List.take_of_length_le (Nat.le_refl _)] at this
          exact ⟨by simp [lsB, this]; omega, rfl⟩

theorem shift_ (x : Int) (w : World) : Calls Tryd.prog 45 #[.int .i64 x] w (fun E' W' => E' = .returned (.agg #[.int .i64 ((sh x)).a, .int .i64 ((sh x)).b, .int .i64 ((sh x)).c, .int .i64 ((sh x)).d]) ∧ Below w.heap.size w W') := by
  have hM := mem_nil w; have hB := Below.refl w.heap.size w; have hC := True.intro
  go_enter Tryd.func45, Tryd.ntmps45
  go_wp2
  refine bodyPost_ret (by (simp [results, Tryd.results45, go_sem, *]; try rfl)) rfl ?_
  exact ⟨rfl, by (repeat' (first | (with_reducible exact hB) | (with_reducible exact Below.refl _ _) | (with_reducible refine Below.alloc ?_ ?_ _) | (with_reducible refine Below.setCell ?_ ?_ _) | (with_reducible refine Below.drew ?_) | (with_reducible refine below_drewN ?_ _) | (with_reducible exact Nat.le_refl _) | (with_reducible exact hB.size) | (simp [go_sem]; done) | (have := hB.size; simp [go_sem]; omega)))⟩
theorem turn_ (w : World) : Calls Tryd.prog 47 #[] w (fun E' W' => E' = .returned (.agg #[.int .i64 tu.a, .int .i64 tu.b, .int .i64 tu.c, .int .i64 tu.d]) ∧ Below w.heap.size w W') := by
  have hM := mem_nil w; have hB := Below.refl w.heap.size w; have hC := True.intro
  go_enter Tryd.func47, Tryd.ntmps47
  go_wp2
  refine bodyPost_ret (by (simp [results, Tryd.results47, go_sem, *]; try rfl)) rfl ?_
  exact ⟨rfl, by (repeat' (first | (with_reducible exact hB) | (with_reducible exact Below.refl _ _) | (with_reducible refine Below.alloc ?_ ?_ _) | (with_reducible refine Below.setCell ?_ ?_ _) | (with_reducible refine Below.drew ?_) | (with_reducible refine below_drewN ?_ _) | (with_reducible exact Nat.le_refl _) | (with_reducible exact hB.size) | (simp [go_sem]; done) | (have := hB.size; simp [go_sem]; omega)))⟩
/-- the same in the walk's own numbers -/
theorem shiftV_ (x : Int) (w : World) : Calls Tryd.prog 45 #[.int .i64 x] w (fun E' W' => E' = .returned (.agg #[.int .i64 1, .int .i64 x, .int .i64 0, .int .i64 1]) ∧ Below w.heap.size w W') := shift_ x w
theorem turnV_ (w : World) : Calls Tryd.prog 47 #[] w (fun E' W' => E' = .returned (.agg #[.int .i64 0, .int .i64 (-1), .int .i64 1, .int .i64 0]) ∧ Below w.heap.size w W') := turn_ w
/-- at the head of a round of 'mat': g more numbers at most -/
def MtRel (zs : List Int) (w w0 : World) (g : Nat) (i : Value) (wr : World) : Prop := ∃ (k : Nat) (m : M), k + g = zs.length - 1 ∧ i = .int .i64 k ∧ inB m = true ∧ xd m = 1 ∧ lmat zs = matF m (zs.drop (k + 1)) ∧
  Mem wr [(w0.heap.size, #[.int .i64 m.a, .int .i64 m.b, .int .i64 m.c, .int .i64 m.d], 26), (w.heap.size, #[.int .i64 0, .int .i64 0, .int .i64 0, .int .i64 0], 26)] ∧ Below w.heap.size w wr
/-- what 'mat' returns -/
def mtr1 (zs : List Int) : M := if (lmat zs).2 then (lmat zs).1 else zm
set_option maxHeartbeats 2000000 in
theorem tmat_ (v : Value) (zs : List Int) (hl : lsB zs = true) (w : World) (hv : RdO w v zs) : Calls Tryd.prog 23 #[v] w (fun E' W' => E' = .returned (.tuple #[.agg #[.int .i64 ((mtr1 zs)).a, .int .i64 ((mtr1 zs)).b, .int .i64 ((mtr1 zs)).c, .int .i64 ((mtr1 zs)).d], errV (lmat zs).1 (lmat zs).2]) ∧ Below w.heap.size w W') := by
  obtain ⟨ao, cap, rfl, hcap, hc⟩ := hv
  obtain ⟨⟨h1, h20⟩, hall⟩ := lsB_iff.1 hl
  have HC := Lib.hid hc
  have HA := Lib.hid hall
  obtain ⟨g, o, rfl, hc0⟩ := hc 0 (by omega)
  have h0 : zs.getD 0 0 = zs.headD 0 := by cases zs <;> rfl
  rw [Nat.add_zero, h0] at hc0
  have hx0 : -1000 ≤ zs.headD 0 ∧ zs.headD 0 ≤ 1000 := by
    cases zs with
    | nil => simp at h1
    | cons x l => exact hall x List.mem_cons_self
  have HL := Lib.hid (show lmat zs = matF (sh (zs.headD 0)) (zs.drop 1) from by rw [lmat, List.drop_one])
  generalize zs.headD 0 = x0 at *
  have hg : g < w.heap.size := World.block_lt_of_cell? w _ hc0
  have hg1 : (g = w.heap.size) = False := by simp; omega
  have hg2 : (w.heap.size = g) = False := by simp; omega
  obtain ⟨A, hA, hA2⟩ : ∃ A : Addr, (if cap = 1 then some (⟨g, o, none⟩ : Addr) else some ⟨g, o + 1, none⟩) = some A ∧ Hid (1 < zs.length → A = ⟨g, o + 1, none⟩) := by
    by_cases h : cap = 1
    · exact ⟨⟨g, o, none⟩, by simp [h], fun h' => by omega⟩
    · exact ⟨⟨g, o + 1, none⟩, by simp [h], fun _ => rfl⟩
  clear hc hall h0 hl
  have hM := mem_nil w; have hB := Below.refl w.heap.size w; have hC := True.intro
  go_enter Tryd.func23, Tryd.ntmps23
  go_wp2_with (first | (go_at_call 45; refine (shiftV_ _ _).mono ?_; rintro e w' ⟨rfl, hb⟩; apply after_call (w := w) hb; (focus ((repeat' (first | (with_reducible exact hM) | (with_reducible apply mem_alloc) | (with_reducible apply mem_set) | (with_reducible apply mem_drew) | (with_reducible apply mem_drewN))); done)); (focus ((repeat' (first | (with_reducible exact hB) | (with_reducible exact Below.refl _ _) | (with_reducible refine Below.alloc ?_ ?_ _) | (with_reducible refine Below.setCell ?_ ?_ _) | (with_reducible refine Below.drew ?_) | (with_reducible refine below_drewN ?_ _) | (with_reducible exact Nat.le_refl _) | (with_reducible exact hB.size) | (simp [go_sem]; done) | (have := hB.size; simp [go_sem]; omega))); done)); (focus ((repeat' (first | (with_reducible exact hB) | (with_reducible exact Below.refl _ _) | (with_reducible refine Below.alloc ?_ ?_ _) | (with_reducible refine Below.setCell ?_ ?_ _) | (with_reducible refine Below.drew ?_) | (with_reducible refine below_drewN ?_ _) | (with_reducible exact Nat.le_refl _) | (with_reducible exact hB.size) | (simp [go_sem]; done) | (have := hB.size; simp [go_sem]; omega))); done)); clear hM hB hb; intro hM hB; (try clear hC); have hC := mem_facts hM; simp at hC))
  obtain ⟨w0, rfl⟩ : ∃ w0 : World, w0 = w' := ⟨_, rfl⟩
  go_loopg [6, 14] (zs.length - 1) (fun gk _ i wr => MtRel zs w w0 gk i wr)
  case atStart =>
    refine ⟨0, ⟨1, x0, 0, 1⟩, by omega, rfl, sh_in hx0, xd_sh x0, HL.out, ?_, by (repeat' (first | (with_reducible exact hB) | (with_reducible exact Below.refl _ _) | (with_reducible refine Below.alloc ?_ ?_ _) | (with_reducible refine Below.setCell ?_ ?_ _) | (with_reducible refine Below.drew ?_) | (with_reducible refine below_drewN ?_ _) | (with_reducible exact Nat.le_refl _) | (with_reducible exact hB.size) | (simp [go_sem]; done) | (have := hB.size; simp [go_sem]; omega)))⟩
    apply mem_drop 0
    · (repeat' (first | (with_reducible exact hM) | (with_reducible apply mem_alloc) | (with_reducible apply mem_set) | (with_reducible apply mem_drew) | (with_reducible apply mem_drewN)))
    · simp
  case round =>
    obtain ⟨k, ⟨a, b, c, d⟩, hkg, rfl, hin, hxd, hlm, hM', hB'⟩ := hrel
    have HI := Lib.hid hin
    have HX := Lib.hid hxd
    have HLM := Lib.hid hlm
    clear hin hxd hlm
    (try clear hC); clear hM hB; have hM := hM'; have hB := hB'; clear hM' hB'; have hC := mem_facts hM; simp at hC
    by_cases hlt : k < zs.length - 1
    · obtain rfl := hA2.out (by omega)
      obtain ⟨g', o', e', h3⟩ := HC.out (k + 1) (by omega)
      injection e' with e'
      injection e' with e1 e2
      subst e1 e2
      have hcx : wr.cell? ⟨g, o + 1 + k, none⟩ = some (.int .i64 (zs.getD (k + 1) 0)) := by
        rw [hB.cell (p := ⟨g, o + 1 + k, none⟩) hg, show o + 1 + k = o + (k + 1) from by omega]; exact h3
      have hx : -1000 ≤ zs.getD (k + 1) 0 ∧ zs.getD (k + 1) 0 ≤ 1000 := by
        have : zs.getD (k + 1) 0 = zs[k + 1]'(by omega) := by simp [List.getD, show k + 1 < zs.length from by omega]
        rw [this]; exact HA.out _ (List.getElem_mem _)
      have HD := Lib.hid (show zs.drop (k + 1) = zs.getD (k + 1) 0 :: zs.drop (k + 1 + 1) from by
        rw [List.drop_eq_getElem_cons (show k + 1 < zs.length from by omega)]; simp [List.getD, show k + 1 < zs.length from by omega])
      generalize zs.getD (k + 1) 0 = x at *
      have HS := Lib.hid (show tm ⟨(tm ⟨a, b, c, d⟩ ⟨0, -1, 1, 0⟩).a, (tm ⟨a, b, c, d⟩ ⟨0, -1, 1, 0⟩).b, (tm ⟨a, b, c, d⟩ ⟨0, -1, 1, 0⟩).c, (tm ⟨a, b, c, d⟩ ⟨0, -1, 1, 0⟩).d⟩ ⟨1, x, 0, 1⟩ = stp ⟨a, b, c, d⟩ x from step_x HI.out hx)
      have HE := Lib.hid (fun h => stp_ev (m := ⟨a, b, c, d⟩) (x := x) h HX.out)
      have HQ := Lib.hid (xd_stp ⟨a, b, c, d⟩ x)
      clear h3
      go_upto_region 5 with fail
      go_cut [] (fun wx => Mem wx [(w0.heap.size, #[.int .i64 (stp ⟨a, b, c, d⟩ x).a, .int .i64 (stp ⟨a, b, c, d⟩ x).b, .int .i64 (stp ⟨a, b, c, d⟩ x).c, .int .i64 (stp ⟨a, b, c, d⟩ x).d], 26), (w.heap.size, #[.int .i64 0, .int .i64 0, .int .i64 0, .int .i64 0], 26)] ∧ Below w.heap.size w wx)
      case first =>
        go_region_with (first | (go_at_call 47; refine (turnV_ _).mono ?_; rintro e w' ⟨rfl, hb⟩; apply after_call (w := w) hb; (focus ((repeat' (first | (with_reducible exact hM) | (with_reducible apply mem_alloc) | (with_reducible apply mem_set) | (with_reducible apply mem_drew) | (with_reducible apply mem_drewN))); done)); (focus ((repeat' (first | (with_reducible exact hB) | (with_reducible exact Below.refl _ _) | (with_reducible refine Below.alloc ?_ ?_ _) | (with_reducible refine Below.setCell ?_ ?_ _) | (with_reducible refine Below.drew ?_) | (with_reducible refine below_drewN ?_ _) | (with_reducible exact Nat.le_refl _) | (with_reducible exact hB.size) | (simp [go_sem]; done) | (have := hB.size; simp [go_sem]; omega))); done)); (focus ((repeat' (first | (with_reducible exact hB) | (with_reducible exact Below.refl _ _) | (with_reducible refine Below.alloc ?_ ?_ _) | (with_reducible refine Below.setCell ?_ ?_ _) | (with_reducible refine Below.drew ?_) | (with_reducible refine below_drewN ?_ _) | (with_reducible exact Nat.le_refl _) | (with_reducible exact hB.size) | (simp [go_sem]; done) | (have := hB.size; simp [go_sem]; omega))); done)); clear hM hB hb; intro hM hB; (try clear hC); have hC := mem_facts hM; simp at hC) | (go_at_call 45; refine (shiftV_ _ _).mono ?_; rintro e w' ⟨rfl, hb⟩; apply after_call (w := w) hb; (focus ((repeat' (first | (with_reducible exact hM) | (with_reducible apply mem_alloc) | (with_reducible apply mem_set) | (with_reducible apply mem_drew) | (with_reducible apply mem_drewN))); done)); (focus ((repeat' (first | (with_reducible exact hB) | (with_reducible exact Below.refl _ _) | (with_reducible refine Below.alloc ?_ ?_ _) | (with_reducible refine Below.setCell ?_ ?_ _) | (with_reducible refine Below.drew ?_) | (with_reducible refine below_drewN ?_ _) | (with_reducible exact Nat.le_refl _) | (with_reducible exact hB.size) | (simp [go_sem]; done) | (have := hB.size; simp [go_sem]; omega))); done)); (focus ((repeat' (first | (with_reducible exact hB) | (with_reducible exact Below.refl _ _) | (with_reducible refine Below.alloc ?_ ?_ _) | (with_reducible refine Below.setCell ?_ ?_ _) | (with_reducible refine Below.drew ?_) | (with_reducible refine below_drewN ?_ _) | (with_reducible exact Nat.le_refl _) | (with_reducible exact hB.size) | (simp [go_sem]; done) | (have := hB.size; simp [go_sem]; omega))); done)); clear hM hB hb; intro hM hB; (try clear hC); have hC := mem_facts hM; simp at hC) | (go_at_call 46; refine (times_ _ _ _ _ _ _ _ _ _).mono ?_; rintro e w' ⟨rfl, hb⟩; apply after_call (w := w) hb; (focus ((repeat' (first | (with_reducible exact hM) | (with_reducible apply mem_alloc) | (with_reducible apply mem_set) | (with_reducible apply mem_drew) | (with_reducible apply mem_drewN))); done)); (focus ((repeat' (first | (with_reducible exact hB) | (with_reducible exact Below.refl _ _) | (with_reducible refine Below.alloc ?_ ?_ _) | (with_reducible refine Below.setCell ?_ ?_ _) | (with_reducible refine Below.drew ?_) | (with_reducible refine below_drewN ?_ _) | (with_reducible exact Nat.le_refl _) | (with_reducible exact hB.size) | (simp [go_sem]; done) | (have := hB.size; simp [go_sem]; omega))); done)); (focus ((repeat' (first | (with_reducible exact hB) | (with_reducible exact Below.refl _ _) | (with_reducible refine Below.alloc ?_ ?_ _) | (with_reducible refine Below.setCell ?_ ?_ _) | (with_reducible refine Below.drew ?_) | (with_reducible refine below_drewN ?_ _) | (with_reducible exact Nat.le_refl _) | (with_reducible exact hB.size) | (simp [go_sem]; done) | (have := hB.size; simp [go_sem]; omega))); done)); clear hM hB hb; intro hM hB; (try clear hC); have hC := mem_facts hM; simp at hC))
        all_goals
          go_wp2_with fail
          go_meet
          refine ⟨?_, by (repeat' (first | (with_reducible exact hB) | (with_reducible exact Below.refl _ _) | (with_reducible refine Below.alloc ?_ ?_ _) | (with_reducible refine Below.setCell ?_ ?_ _) | (with_reducible refine Below.drew ?_) | (with_reducible refine below_drewN ?_ _) | (with_reducible exact Nat.le_refl _) | (with_reducible exact hB.size) | (simp [go_sem]; done) | (have := hB.size; simp [go_sem]; omega)))⟩
          apply mem_drop 0
          · (repeat' (first | (with_reducible exact hM) | (with_reducible apply mem_alloc) | (with_reducible apply mem_set) | (with_reducible apply mem_drew) | (with_reducible apply mem_drewN)))
          · simp [HS.out, hC]
      case rest =>
        obtain ⟨hM', hB'⟩ := hcut
        have HF := Lib.hid (fun h => matF_yes (m := ⟨a, b, c, d⟩) (x := x) (l := zs.drop (k + 1 + 1)) h)
        have HN := Lib.hid (fun h => matF_no (m := ⟨a, b, c, d⟩) (x := x) (l := zs.drop (k + 1 + 1)) h)
        clear HI HS
        generalize stp ⟨a, b, c, d⟩ x = m at *
        obtain ⟨a1, b1, c1, d1⟩ := m
        (try clear hC); clear hM hB; have hM := hM'; have hB := hB'; clear hM' hB'; have hC := mem_facts hM; simp at hC
        cases hi : inB ⟨a1, b1, c1, d1⟩
        · have hr : lmat zs = (⟨a1, b1, c1, d1⟩, false) := by rw [HLM.out, HD.out, HN.out hi]
          have HR := Lib.hid hr
          clear hr
          go_wp2_with (first | (go_at_call 10; refine (MatEven_ _ _ _ _ _).mono ?_; rintro e w' ⟨rfl, hb⟩; apply after_call (w := w) hb; (focus ((repeat' (first | (with_reducible exact hM) | (with_reducible apply mem_alloc) | (with_reducible apply mem_set) | (with_reducible apply mem_drew) | (with_reducible apply mem_drewN))); done)); (focus ((repeat' (first | (with_reducible exact hB) | (with_reducible exact Below.refl _ _) | (with_reducible refine Below.alloc ?_ ?_ _) | (with_reducible refine Below.setCell ?_ ?_ _) | (with_reducible refine Below.drew ?_) | (with_reducible refine below_drewN ?_ _) | (with_reducible exact Nat.le_refl _) | (with_reducible exact hB.size) | (simp [go_sem]; done) | (have := hB.size; simp [go_sem]; omega))); done)); (focus ((repeat' (first | (with_reducible exact hB) | (with_reducible exact Below.refl _ _) | (with_reducible refine Below.alloc ?_ ?_ _) | (with_reducible refine Below.setCell ?_ ?_ _) | (with_reducible refine Below.drew ?_) | (with_reducible refine below_drewN ?_ _) | (with_reducible exact Nat.le_refl _) | (with_reducible exact hB.size) | (simp [go_sem]; done) | (have := hB.size; simp [go_sem]; omega))); done)); clear hM hB hb; intro hM hB; (try clear hC); have hC := mem_facts hM; simp at hC))
          go_region
          all_goals
            go_wp2
            refine bodyPost_ret (by (simp [results, Tryd.results23, go_sem, *]; try rfl)) rfl ?_
            exact ⟨by simp [mtr1, HR.out, errV, zm], by (repeat' (first | (with_reducible exact hB) | (with_reducible exact Below.refl _ _) | (with_reducible refine Below.alloc ?_ ?_ _) | (with_reducible refine Below.setCell ?_ ?_ _) | (with_reducible refine Below.drew ?_) | (with_reducible refine below_drewN ?_ _) | (with_reducible exact Nat.le_refl _) | (with_reducible exact hB.size) | (simp [go_sem]; done) | (have := hB.size; simp [go_sem]; omega)))⟩
        · have he := HE.out hi
          go_wp2_with (first | (go_at_call 10; refine (MatEven_ _ _ _ _ _).mono ?_; rintro e w' ⟨rfl, hb⟩; apply after_call (w := w) hb; (focus ((repeat' (first | (with_reducible exact hM) | (with_reducible apply mem_alloc) | (with_reducible apply mem_set) | (with_reducible apply mem_drew) | (with_reducible apply mem_drewN))); done)); (focus ((repeat' (first | (with_reducible exact hB) | (with_reducible exact Below.refl _ _) | (with_reducible refine Below.alloc ?_ ?_ _) | (with_reducible refine Below.setCell ?_ ?_ _) | (with_reducible refine Below.drew ?_) | (with_reducible refine below_drewN ?_ _) | (with_reducible exact Nat.le_refl _) | (with_reducible exact hB.size) | (simp [go_sem]; done) | (have := hB.size; simp [go_sem]; omega))); done)); (focus ((repeat' (first | (with_reducible exact hB) | (with_reducible exact Below.refl _ _) | (with_reducible refine Below.alloc ?_ ?_ _) | (with_reducible refine Below.setCell ?_ ?_ _) | (with_reducible refine Below.drew ?_) | (with_reducible refine below_drewN ?_ _) | (with_reducible exact Nat.le_refl _) | (with_reducible exact hB.size) | (simp [go_sem]; done) | (have := hB.size; simp [go_sem]; omega))); done)); clear hM hB hb; intro hM hB; (try clear hC); have hC := mem_facts hM; simp at hC))
          go_roundg (gk - 1)
          case measure => omega
          case rel =>
            refine ⟨k + 1, ⟨a1, b1, c1, d1⟩, by omega, by go_num, hi, HQ.out.trans HX.out, ?_, ?_, by (repeat' (first | (with_reducible exact hB) | (with_reducible exact Below.refl _ _) | (with_reducible refine Below.alloc ?_ ?_ _) | (with_reducible refine Below.setCell ?_ ?_ _) | (with_reducible refine Below.drew ?_) | (with_reducible refine below_drewN ?_ _) | (with_reducible exact Nat.le_refl _) | (with_reducible exact hB.size) | (simp [go_sem]; done) | (have := hB.size; simp [go_sem]; omega)))⟩
            · rw [HLM.out, HD.out, HF.out hi]
            · apply mem_drop 0
              · (repeat' (first | (with_reducible exact hM) | (with_reducible apply mem_alloc) | (with_reducible apply mem_set) | (with_reducible apply mem_drew) | (with_reducible apply mem_drewN)))
              · simp
    · obtain rfl : gk = 0 := by omega
      have hr : lmat zs = (⟨a, b, c, d⟩, true) := by rw [HLM.out, List.drop_of_length_le (by omega)]; rfl
      have HR := Lib.hid hr
      clear hr
      go_wp2
      refine bodyPost_ret (by (simp [results, Tryd.results23, go_sem, *]; try rfl)) rfl ?_
      exact ⟨by simp [mtr1, HR.out, errV], by (repeat' (first | (with_reducible exact hB) | (with_reducible exact Below.refl _ _) | (with_reducible refine Below.alloc ?_ ?_ _) | (with_reducible refine Below.setCell ?_ ?_ _) | (with_reducible refine Below.drew ?_) | (with_reducible refine below_drewN ?_ _) | (with_reducible exact Nat.le_refl _) | (with_reducible exact hB.size) | (simp [go_sem]; done) | (have := hB.size; simp [go_sem]; omega)))⟩
end Go.Proofs.YtbpaklcibkifnaaDoor


/- Lists of pairs, their areas and edges: plain; the program's ShortArea, walked. No condition on what is exported. -/
import Derived.Test.YtnbbgfcnbgjahaaShE
namespace Go.Proofs.Ytnbbgfcnbgjahaa
open Go.RowKit

def zP2 : Pr2 := ⟨0, 0⟩
def atP (ps : List Pr2) (i : Nat) : Pr2 := ps.getD i zP2
/-- the pair ahead of number i, going round -/
def prevP (ps : List Pr2) (i : Nat) : Pr2 := if i = 0 then atP ps (ps.length - 1) else atP ps (i - 1)
def arS (ps : List Pr2) : Nat → Int
  | 0 => 0
  | i + 1 => arS ps i + crsP (prevP ps i) (atP ps i)
def edS (ps : List Pr2) : Nat → Nat
  | 0 => 0
  | i + 1 => edS ps i + Int.gcd ((atP ps i).x - (prevP ps i).x) ((atP ps i).y - (prevP ps i).y)
def inAll (ps : List Pr2) : Bool := ps.all pB
def arOk (ps : List Pr2) : Bool := decide (3 ≤ ps.length) && decide (ps.length ≤ 10) && inAll ps
def mArea (ps : List Pr2) : (Int × Int) × Bool := if arOk ps then ((absI (arS ps ps.length), (edS ps ps.length : Nat)), true) else ((0, 0), false)
theorem atP_in {ps : List Pr2} (h : inAll ps = true) (i : Nat) : pB (atP ps i) = true := by
  unfold atP
  by_cases hi : i < ps.length
  · have e : ps.getD i zP2 = ps[i] := by simp [List.getD, hi]
    rw [e]
    exact List.all_eq_true.1 h _ (List.getElem_mem hi)
  · have e : ps.getD i zP2 = zP2 := by simp [List.getD, Nat.le_of_not_lt hi]
    rw [e]; rfl
theorem prevP_in {ps : List Pr2} (h : inAll ps = true) (i : Nat) : pB (prevP ps i) = true := by
  unfold prevP; split
  · exact atP_in h _
  · exact atP_in h _
theorem crs_bd4 {p q : Pr2} (hp : pB p = true) (hq : pB q = true) : -200000000 ≤ crsP p q ∧ crsP p q ≤ 200000000 := by
  obtain ⟨a, b⟩ := pB_iff.1 hp
  obtain ⟨c, d⟩ := pB_iff.1 hq
  have k1 := mul_bd a d
  have k2 := mul_bd b c
  simp only [crsP]; omega
theorem gcd_bd4 {x y : Int} (hx : -20000 ≤ x ∧ x ≤ 20000) (hy : -20000 ≤ y ∧ y ≤ 20000) : Int.gcd x y ≤ 20000 := by
  have := (egs_bd x y).2.2
  have := (egs_spec x y).1
  omega
theorem arS_bd {ps : List Pr2} (h : inAll ps = true) : ∀ i : Nat, -(200000000 * (i : Int)) ≤ arS ps i ∧ arS ps i ≤ 200000000 * i
  | 0 => by simp [arS]
  | i + 1 => by
    have := arS_bd h i
    have := crs_bd4 (prevP_in h i) (atP_in h i)
    simp only [arS]; omega
theorem edS_bd {ps : List Pr2} (h : inAll ps = true) : ∀ i, edS ps i ≤ 20000 * i
  | 0 => by simp [edS]
  | i + 1 => by
    have := edS_bd h i
    obtain ⟨a, b⟩ := pB_iff.1 (prevP_in h i)
    obtain ⟨c, d⟩ := pB_iff.1 (atP_in h i)
    have := gcd_bd4 (x := (atP ps i).x - (prevP ps i).x) (y := (atP ps i).y - (prevP ps i).y) (by omega) (by omega)
    simp only [edS]; omega
/-- the two cells of a pair -/
def Cell2 (W : World) (g o : Nat) (p : Pr2) : Prop := W.cell? ⟨g, o, none⟩ = some (.int .i64 p.x) ∧ W.cell? ⟨g, o + 1, none⟩ = some (.int .i64 p.y)
/-- the slice v reads as the pairs ps -/
def ReadsP (W : World) (v : Value) (ps : List Pr2) : Prop := ∃ ao cap, v = .slice ao ps.length cap ∧ ∀ j (_ : j < ps.length), ∃ g, ao = some ⟨g, 0, none⟩ ∧ Cell2 W g (j * 2) (atP ps j)
theorem Cell2.below {W W' : World} {g o : Nat} {p : Pr2} (h : Cell2 W g o p) (hb : Below W.heap.size W W') : Cell2 W' g o p := by
  obtain ⟨h1, h2⟩ := h
  have hl := World.block_lt_of_cell? W _ h1
  exact ⟨by rw [hb.cell (p := ⟨g, o, none⟩) hl]; exact h1, by rw [hb.cell (p := ⟨g, o + 1, none⟩) hl]; exact h2⟩
theorem ReadsP.below {W W' : World} {v : Value} {ps : List Pr2} (h : ReadsP W v ps) (hb : Below W.heap.size W W') : ReadsP W' v ps := by
  obtain ⟨ao, cap, rfl, hc⟩ := h
  refine ⟨ao, cap, rfl, fun j hj => ?_⟩
  obtain ⟨g, e, h1⟩ := hc j hj
  exact ⟨g, e, h1.below hb⟩
/-- at the head of a round of 'aroundAll' -/
def ArRel (ps : List Pr2) (w : World) (v4 v5 v20 : Value) (wr : World) : Prop := ∃ i : Nat, i ≤ ps.length ∧ v4 = .int .i64 (arS ps i) ∧ v5 = .int .i64 (edS ps i : Nat) ∧ v20 = .int .i64 i ∧
  Mem wr [(w.heap.size, #[.int .i64 (prevP ps i).x, .int .i64 (prevP ps i).y], 46)] ∧ Below w.heap.size w wr
set_option maxHeartbeats 4000000 in
theorem aroundAll_ (v : Value) (ps : List Pr2) (h3 : 3 ≤ ps.length) (h10 : ps.length ≤ 10) (hin : inAll ps = true) (w : World) (hv : ReadsP w v ps) : Calls Try.prog 40 #[v] w
    (fun E' W' => E' = .returned (.tuple #[.int .i64 (arS ps ps.length), .int .i64 (edS ps ps.length : Nat)]) ∧ Below w.heap.size w W') := by
  obtain ⟨ao, cap, rfl, hc⟩ := hv
  have HC := Lib.hid hc
  clear hc
  obtain ⟨g, rfl, h1⟩ := HC.out (ps.length - 1) (by omega)
  have hP := Lib.hid (show prevP ps 0 = atP ps (ps.length - 1) from if_pos rfl)
  have hn : ((ps.length : Int) - 1) = ((ps.length - 1 : Nat) : Int) := by omega
  have HX := Lib.hid hin
  clear hin
  have hl := World.block_lt_of_cell? w _ h1.1
  obtain ⟨h1a, h1b⟩ := h1
  generalize hp0 : atP ps (ps.length - 1) = p0 at *
  obtain ⟨px, py⟩ := p0
  dsimp only at h1a h1b hl
  have hM := mem_nil w; have hB := Below.refl w.heap.size w; have hC := True.intro
  go_enter Try.func40, Try.ntmps40
  go_wp2_with fail
  go_loopw [4, 5, 20] (fun v4 v5 v20 wr => ArRel ps w v4 v5 v20 wr) (fun _ _ v20 _ => ps.length - (intOf v20).toNat)
  case atStart =>
    refine ⟨0, Nat.zero_le _, rfl, rfl, rfl, ?_, by (repeat' (first | (with_reducible exact hB) | (with_reducible exact Below.refl _ _) | (with_reducible refine Below.alloc ?_ ?_ _) | (with_reducible refine Below.setCell ?_ ?_ _) | (with_reducible refine Below.drew ?_) | (with_reducible refine below_drewN ?_ _) | (with_reducible exact Nat.le_refl _) | (with_reducible exact hB.size) | (simp [go_sem]; done) | (have := hB.size; simp [go_sem]; omega)))⟩
    rw [hP.out]
    apply mem_drop 0
    · (repeat' (first | (with_reducible exact hM) | (with_reducible apply mem_alloc) | (with_reducible apply mem_set) | (with_reducible apply mem_drew) | (with_reducible apply mem_drewN)))
    · simp
  case round =>
    obtain ⟨i, hi, rfl, rfl, rfl, hM', hB'⟩ := hrel
    (try clear hC); clear hM hB; have hM := hM'; have hB := hB'; clear hM' hB'; have hC := mem_facts hM; simp at hC
    clear h1a h1b hp0 hP hn
    by_cases hlt : i < ps.length
    · obtain ⟨g', hg', h1⟩ := HC.out i hlt
      obtain rfl : g' = g := by injection hg' with h; injection h with h; exact h.symm
      have ha := arS_bd HX.out i
      have he := edS_bd HX.out i
      obtain ⟨k1, k2⟩ := pB_iff.1 (prevP_in HX.out i)
      obtain ⟨k3, k4⟩ := pB_iff.1 (atP_in HX.out i)
      have hcr := crs_bd4 (prevP_in HX.out i) (atP_in HX.out i)
      have HA := Lib.hid (show arS ps (i + 1) = arS ps i + crsP (prevP ps i) (atP ps i) from rfl)
      have HE := Lib.hid (show edS ps (i + 1) = edS ps i + Int.gcd ((atP ps i).x - (prevP ps i).x) ((atP ps i).y - (prevP ps i).y) from rfl)
      have HP := Lib.hid (show prevP ps (i + 1) = atP ps i from if_neg (by omega))
      generalize prevP ps i = l at *
      generalize atP ps i = q at *
      obtain ⟨lx, ly⟩ := l
      obtain ⟨x, y⟩ := q
      dsimp only at *
      have c1 := fun W => crs7_ lx ly x y (by omega) (by omega) (by omega) (by omega) W
      have c2 := fun W => less7_ x y 1 lx ly (by omega) (by omega) (by omega) (by omega) (by omega) W
      dsimp only [lessP] at c2
      have hX : x - 1 * lx = x - lx := by omega
      have hY : y - 1 * ly = y - ly := by omega
      rw [hX, hY] at c2
      clear hX hY
      have c3 := fun W => divisor_ (x - lx) (y - ly) (by omega) (by omega) W
      have hs := (egs_spec (x - lx) (y - ly)).1
      have hgb := gcd_bd4 (x := x - lx) (y := y - ly) (by omega) (by omega)
      generalize egs (x - lx) (y - ly) = r at *
      obtain ⟨e, u, v⟩ := r
      dsimp only at hs c3
      subst hs
      generalize Int.gcd (x - lx) (y - ly) = e at *
      generalize x - lx = dx at *
      generalize y - ly = dy at *
      generalize crsP ⟨lx, ly⟩ ⟨x, y⟩ = cr at *
      obtain ⟨h1a, h1b⟩ := h1.below hB
      dsimp only at h1a h1b
      have w1 : wrap64 (arS ps i + cr) = arS ps i + cr := wrap_mid (by omega)
      have w2 : wrap64 ((edS ps i : Int) + e) = (edS ps i : Int) + e := wrap_mid (by omega)
      clear k1 k2 k3 k4 h1
      generalize arS ps i = ar at *
      generalize edS ps i = ed at *
      go_wp2_with (first | (go_at_call 50; refine (c1 _).mono ?_; rintro e w' ⟨rfl, hb⟩; apply after_call (w := w) hb; (focus ((repeat' (first | (with_reducible exact hM) | (with_reducible apply mem_alloc) | (with_reducible apply mem_set) | (with_reducible apply mem_drew) | (with_reducible apply mem_drewN))); done)); (focus ((repeat' (first | (with_reducible exact hB) | (with_reducible exact Below.refl _ _) | (with_reducible refine Below.alloc ?_ ?_ _) | (with_reducible refine Below.setCell ?_ ?_ _) | (with_reducible refine Below.drew ?_) | (with_reducible refine below_drewN ?_ _) | (with_reducible exact Nat.le_refl _) | (with_reducible exact hB.size) | (simp [go_sem]; done) | (have := hB.size; simp [go_sem]; omega))); done)); (focus ((repeat' (first | (with_reducible exact hB) | (with_reducible exact Below.refl _ _) | (with_reducible refine Below.alloc ?_ ?_ _) | (with_reducible refine Below.setCell ?_ ?_ _) | (with_reducible refine Below.drew ?_) | (with_reducible refine below_drewN ?_ _) | (with_reducible exact Nat.le_refl _) | (with_reducible exact hB.size) | (simp [go_sem]; done) | (have := hB.size; simp [go_sem]; omega))); done)); clear hM hB hb; intro hM hB; (try clear hC); have hC := mem_facts hM; simp at hC) | (go_at_call 51; refine (c2 _).mono ?_; rintro e w' ⟨rfl, hb⟩; apply after_call (w := w) hb; (focus ((repeat' (first | (with_reducible exact hM) | (with_reducible apply mem_alloc) | (with_reducible apply mem_set) | (with_reducible apply mem_drew) | (with_reducible apply mem_drewN))); done)); (focus ((repeat' (first | (with_reducible exact hB) | (with_reducible exact Below.refl _ _) | (with_reducible refine Below.alloc ?_ ?_ _) | (with_reducible refine Below.setCell ?_ ?_ _) | (with_reducible refine Below.drew ?_) | (with_reducible refine below_drewN ?_ _) | (with_reducible exact Nat.le_refl _) | (with_reducible exact hB.size) | (simp [go_sem]; done) | (have := hB.size; simp [go_sem]; omega))); done)); (focus ((repeat' (first | (with_reducible exact hB) | (with_reducible exact Below.refl _ _) | (with_reducible refine Below.alloc ?_ ?_ _) | (with_reducible refine Below.setCell ?_ ?_ _) | (with_reducible refine Below.drew ?_) | (with_reducible refine below_drewN ?_ _) | (with_reducible exact Nat.le_refl _) | (with_reducible exact hB.size) | (simp [go_sem]; done) | (have := hB.size; simp [go_sem]; omega))); done)); clear hM hB hb; intro hM hB; (try clear hC); have hC := mem_facts hM; simp at hC) | (go_at_call 32; refine (c3 _).mono ?_; rintro e w' ⟨rfl, hb⟩; apply after_call (w := w) hb; (focus ((repeat' (first | (with_reducible exact hM) | (with_reducible apply mem_alloc) | (with_reducible apply mem_set) | (with_reducible apply mem_drew) | (with_reducible apply mem_drewN))); done)); (focus ((repeat' (first | (with_reducible exact hB) | (with_reducible exact Below.refl _ _) | (with_reducible refine Below.alloc ?_ ?_ _) | (with_reducible refine Below.setCell ?_ ?_ _) | (with_reducible refine Below.drew ?_) | (with_reducible refine below_drewN ?_ _) | (with_reducible exact Nat.le_refl _) | (with_reducible exact hB.size) | (simp [go_sem]; done) | (have := hB.size; simp [go_sem]; omega))); done)); (focus ((repeat' (first | (with_reducible exact hB) | (with_reducible exact Below.refl _ _) | (with_reducible refine Below.alloc ?_ ?_ _) | (with_reducible refine Below.setCell ?_ ?_ _) | (with_reducible refine Below.drew ?_) | (with_reducible refine below_drewN ?_ _) | (with_reducible exact Nat.le_refl _) | (with_reducible exact hB.size) | (simp [go_sem]; done) | (have := hB.size; simp [go_sem]; omega))); done)); clear hM hB hb; intro hM hB; (try clear hC); have hC := mem_facts hM; simp at hC))
      go_roundw
      case measure => simp [intOf]; omega
      case rel =>
        refine ⟨i + 1, by omega, by rw [HA.out], by rw [HE.out]; go_num, by go_num, ?_, by (repeat' (first | (with_reducible exact hB) | (with_reducible exact Below.refl _ _) | (with_reducible refine Below.alloc ?_ ?_ _) | (with_reducible refine Below.setCell ?_ ?_ _) | (with_reducible refine Below.drew ?_) | (with_reducible refine below_drewN ?_ _) | (with_reducible exact Nat.le_refl _) | (with_reducible exact hB.size) | (simp [go_sem]; done) | (have := hB.size; simp [go_sem]; omega)))⟩
        rw [HP.out]
        apply mem_drop 3
        · (repeat' (first | (with_reducible exact hM) | (with_reducible apply mem_alloc) | (with_reducible apply mem_set) | (with_reducible apply mem_drew) | (with_reducible apply mem_drewN)))
        · first | (simp; done) | (simp [hC]; done)
    · obtain rfl : i = ps.length := by omega
      go_wp2
      refine bodyPost_ret (by (simp [results, Try.results40, go_sem, *]; try rfl)) rfl ?_
      exact ⟨rfl, by (repeat' (first | (with_reducible exact hB) | (with_reducible exact Below.refl _ _) | (with_reducible refine Below.alloc ?_ ?_ _) | (with_reducible refine Below.setCell ?_ ?_ _) | (with_reducible refine Below.drew ?_) | (with_reducible refine below_drewN ?_ _) | (with_reducible exact Nat.le_refl _) | (with_reducible exact hB.size) | (simp [go_sem]; done) | (have := hB.size; simp [go_sem]; omega)))⟩
theorem inAll_of {ps : List Pr2} (h : ∀ j, j < ps.length → pB (atP ps j) = true) : inAll ps = true := by
  unfold inAll
  rw [List.all_eq_true]
  intro p hp
  obtain ⟨j, hj, rfl⟩ := List.mem_iff_getElem.1 hp
  have := h j hj
  unfold atP at this
  rwa [show ps.getD j zP2 = ps[j] by simp [List.getD, hj]] at this
theorem inAll_no {ps : List Pr2} {i : Nat} (h : pB (atP ps i) = false) : inAll ps = false := by
  cases h2 : inAll ps
  · rfl
  · rw [atP_in h2 i] at h; cases h
set_option maxHeartbeats 4000000 in
theorem ShortArea_ (v : Value) (ps : List Pr2) (hL : ps.length ≤ 2000000) (w : World) (hv : ReadsP w v ps) : Calls Try.prog 23 #[v] w
    (fun E' W' => E' = .returned (.tuple #[.int .i64 (mArea ps).1.1, .int .i64 (mArea ps).1.2, .bool (mArea ps).2]) ∧ Below w.heap.size w W') := by
  have hv0 := Lib.hid hv
  obtain ⟨ao, cap, rfl, hc⟩ := hv
  by_cases h3 : (ps.length : Int) < 3
  · have HE := Lib.hid (show mArea ps = ((0, 0), false) by
      have : arOk ps = false := by unfold arOk; rw [decide_eq_false (by omega)]; rfl
      simp [mArea, this])
    have hM := mem_nil w; have hB := Below.refl w.heap.size w; have hC := True.intro
    go_enter Try.func23, Try.ntmps23
    go_wp2
    refine bodyPost_ret (by (simp [results, Try.results23, go_sem, *]; try rfl)) rfl ?_
    exact ⟨by rw [HE.out], by (repeat' (first | (with_reducible exact hB) | (with_reducible exact Below.refl _ _) | (with_reducible refine Below.alloc ?_ ?_ _) | (with_reducible refine Below.setCell ?_ ?_ _) | (with_reducible refine Below.drew ?_) | (with_reducible refine below_drewN ?_ _) | (with_reducible exact Nat.le_refl _) | (with_reducible exact hB.size) | (simp [go_sem]; done) | (have := hB.size; simp [go_sem]; omega)))⟩
  · by_cases h10 : (ps.length : Int) > 10
    · have HE := Lib.hid (show mArea ps = ((0, 0), false) by
        have : arOk ps = false := by unfold arOk; rw [decide_eq_false (p := ps.length ≤ 10) (by omega), Bool.and_false]; rfl
        simp [mArea, this])
      have hM := mem_nil w; have hB := Below.refl w.heap.size w; have hC := True.intro
      go_enter Try.func23, Try.ntmps23
      go_wp2
      refine bodyPost_ret (by (simp [results, Try.results23, go_sem, *]; try rfl)) rfl ?_
      exact ⟨by rw [HE.out], by (repeat' (first | (with_reducible exact hB) | (with_reducible exact Below.refl _ _) | (with_reducible refine Below.alloc ?_ ?_ _) | (with_reducible refine Below.setCell ?_ ?_ _) | (with_reducible refine Below.drew ?_) | (with_reducible refine below_drewN ?_ _) | (with_reducible exact Nat.le_refl _) | (with_reducible exact hB.size) | (simp [go_sem]; done) | (have := hB.size; simp [go_sem]; omega)))⟩
    · have HC := Lib.hid hc
      clear hc
      have hM := mem_nil w; have hB := Below.refl w.heap.size w; have hC := True.intro
      go_enter Try.func23, Try.ntmps23
      go_wp2_with fail
      go_loopw [19] (fun v19 wr => ∃ i : Nat, i ≤ ps.length ∧ v19 = .int .i64 i ∧ (∀ j, j < i → pB (atP ps j) = true) ∧ Below w.heap.size w wr) (fun v19 _ => ps.length - (intOf v19).toNat)
      case atStart => exact ⟨0, Nat.zero_le _, rfl, fun j hj => absurd hj (Nat.not_lt_zero _), by (repeat' (first | (with_reducible exact hB) | (with_reducible exact Below.refl _ _) | (with_reducible refine Below.alloc ?_ ?_ _) | (with_reducible refine Below.setCell ?_ ?_ _) | (with_reducible refine Below.drew ?_) | (with_reducible refine below_drewN ?_ _) | (with_reducible exact Nat.le_refl _) | (with_reducible exact hB.size) | (simp [go_sem]; done) | (have := hB.size; simp [go_sem]; omega)))⟩
      case round =>
        obtain ⟨i, hi, rfl, hall, hB'⟩ := hrel
        have hM' := mem_nil wr
        (try clear hC); clear hM hB; have hM := hM'; have hB := hB'; clear hM' hB'; have hC := mem_facts hM; simp at hC
        by_cases hlt : i < ps.length
        · obtain ⟨g, rfl, h1⟩ := HC.out i hlt
          obtain ⟨h1a, h1b⟩ := h1.below hB
          have HA := Lib.hid hall
          clear hall h1
          have HN := Lib.hid (show pB (atP ps i) = false → mArea ps = ((0, 0), false) from fun h => by simp [mArea, arOk, inAll_no h])
          have c1 := fun W => in7_ (atP ps i).x (atP ps i).y W
          generalize hq : atP ps i = q at *
          have HQ := Lib.hid hq
          clear hq
          obtain ⟨x, y⟩ := q
          dsimp only at c1 h1a h1b
          cases ho : pB ⟨x, y⟩
          · rw [ho] at c1
            have HF := Lib.hid (HN.out ho)
            go_wp2_with (go_at_call 27; refine (c1 _).mono ?_; rintro e w' ⟨rfl, hb⟩; apply after_call (w := w) hb; (focus ((repeat' (first | (with_reducible exact hM) | (with_reducible apply mem_alloc) | (with_reducible apply mem_set) | (with_reducible apply mem_drew) | (with_reducible apply mem_drewN))); done)); (focus ((repeat' (first | (with_reducible exact hB) | (with_reducible exact Below.refl _ _) | (with_reducible refine Below.alloc ?_ ?_ _) | (with_reducible refine Below.setCell ?_ ?_ _) | (with_reducible refine Below.drew ?_) | (with_reducible refine below_drewN ?_ _) | (with_reducible exact Nat.le_refl _) | (with_reducible exact hB.size) | (simp [go_sem]; done) | (have := hB.size; simp [go_sem]; omega))); done)); (focus ((repeat' (first | (with_reducible exact hB) | (with_reducible exact Below.refl _ _) | (with_reducible refine Below.alloc ?_ ?_ _) | (with_reducible refine Below.setCell ?_ ?_ _) | (with_reducible refine Below.drew ?_) | (with_reducible refine below_drewN ?_ _) | (with_reducible exact Nat.le_refl _) | (with_reducible exact hB.size) | (simp [go_sem]; done) | (have := hB.size; simp [go_sem]; omega))); done)); clear hM hB hb; intro hM hB; (try clear hC); have hC := mem_facts hM; simp at hC)
            refine bodyPost_ret (by (simp [results, Try.results23, go_sem, *]; try rfl)) rfl ?_
            exact ⟨by rw [HF.out], by (repeat' (first | (with_reducible exact hB) | (with_reducible exact Below.refl _ _) | (with_reducible refine Below.alloc ?_ ?_ _) | (with_reducible refine Below.setCell ?_ ?_ _) | (with_reducible refine Below.drew ?_) | (with_reducible refine below_drewN ?_ _) | (with_reducible exact Nat.le_refl _) | (with_reducible exact hB.size) | (simp [go_sem]; done) | (have := hB.size; simp [go_sem]; omega)))⟩
          · rw [ho] at c1
            go_wp2_with (go_at_call 27; refine (c1 _).mono ?_; rintro e w' ⟨rfl, hb⟩; apply after_call (w := w) hb; (focus ((repeat' (first | (with_reducible exact hM) | (with_reducible apply mem_alloc) | (with_reducible apply mem_set) | (with_reducible apply mem_drew) | (with_reducible apply mem_drewN))); done)); (focus ((repeat' (first | (with_reducible exact hB) | (with_reducible exact Below.refl _ _) | (with_reducible refine Below.alloc ?_ ?_ _) | (with_reducible refine Below.setCell ?_ ?_ _) | (with_reducible refine Below.drew ?_) | (with_reducible refine below_drewN ?_ _) | (with_reducible exact Nat.le_refl _) | (with_reducible exact hB.size) | (simp [go_sem]; done) | (have := hB.size; simp [go_sem]; omega))); done)); (focus ((repeat' (first | (with_reducible exact hB) | (with_reducible exact Below.refl _ _) | (with_reducible refine Below.alloc ?_ ?_ _) | (with_reducible refine Below.setCell ?_ ?_ _) | (with_reducible refine Below.drew ?_) | (with_reducible refine below_drewN ?_ _) | (with_reducible exact Nat.le_refl _) | (with_reducible exact hB.size) | (simp [go_sem]; done) | (have := hB.size; simp [go_sem]; omega))); done)); clear hM hB hb; intro hM hB; (try clear hC); have hC := mem_facts hM; simp at hC)
            go_roundw
            case measure => simp [intOf]; omega
            case rel =>
              refine ⟨i + 1, by omega, by go_num, fun j hj => ?_, by (repeat' (first | (with_reducible exact hB) | (with_reducible exact Below.refl _ _) | (with_reducible refine Below.alloc ?_ ?_ _) | (with_reducible refine Below.setCell ?_ ?_ _) | (with_reducible refine Below.drew ?_) | (with_reducible refine below_drewN ?_ _) | (with_reducible exact Nat.le_refl _) | (with_reducible exact hB.size) | (simp [go_sem]; done) | (have := hB.size; simp [go_sem]; omega)))⟩
              rcases Nat.lt_or_ge j i with h | h
              · exact HA.out j h
              · obtain rfl : j = i := by omega
                rw [HQ.out]; exact ho
        · obtain rfl : i = ps.length := by omega
          have hin := inAll_of hall
          have cA := fun W (h : ReadsP W (.slice ao ps.length cap) ps) => aroundAll_ (.slice ao ps.length cap) ps (by omega) (by omega) hin W h
          have hb := arS_bd hin ps.length
          have cV := fun W => absV7_ (arS ps ps.length) (by omega) W
          have HE := Lib.hid (show mArea ps = ((absI (arS ps ps.length), ((edS ps ps.length : Nat) : Int)), true) by
            have : arOk ps = true := by unfold arOk; rw [hin, decide_eq_true (by omega), decide_eq_true (by omega)]; rfl
            simp [mArea, this])
          have HR := Lib.hid (hv0.out.below hB)
          clear hb
          generalize absI (arS ps ps.length) = A at *
          generalize arS ps ps.length = S at *
          generalize edS ps ps.length = E at *
          go_wp2_with (first | (go_at_call 40; refine (cA _ HR.out).mono ?_; rintro e w' ⟨rfl, hb⟩; apply after_call (w := w) hb; (focus ((repeat' (first | (with_reducible exact hM) | (with_reducible apply mem_alloc) | (with_reducible apply mem_set) | (with_reducible apply mem_drew) | (with_reducible apply mem_drewN))); done)); (focus ((repeat' (first | (with_reducible exact hB) | (with_reducible exact Below.refl _ _) | (with_reducible refine Below.alloc ?_ ?_ _) | (with_reducible refine Below.setCell ?_ ?_ _) | (with_reducible refine Below.drew ?_) | (with_reducible refine below_drewN ?_ _) | (with_reducible exact Nat.le_refl _) | (with_reducible exact hB.size) | (simp [go_sem]; done) | (have := hB.size; simp [go_sem]; omega))); done)); (focus ((repeat' (first | (with_reducible exact hB) | (with_reducible exact Below.refl _ _) | (with_reducible refine Below.alloc ?_ ?_ _) | (with_reducible refine Below.setCell ?_ ?_ _) | (with_reducible refine Below.drew ?_) | (with_reducible refine below_drewN ?_ _) | (with_reducible exact Nat.le_refl _) | (with_reducible exact hB.size) | (simp [go_sem]; done) | (have := hB.size; simp [go_sem]; omega))); done)); clear hM hB hb; intro hM hB; (try clear hC); have hC := mem_facts hM; simp at hC) | (go_at_call 41; refine (cV _).mono ?_; rintro e w' ⟨rfl, rfl⟩))
          refine bodyPost_ret (by (simp [results, Try.results23, go_sem, *]; try rfl)) rfl ?_
          exact ⟨by rw [HE.out], by (repeat' (first | (with_reducible exact hB) | (with_reducible exact Below.refl _ _) | (with_reducible refine Below.alloc ?_ ?_ _) | (with_reducible refine Below.setCell ?_ ?_ _) | (with_reducible refine Below.drew ?_) | (with_reducible refine below_drewN ?_ _) | (with_reducible exact Nat.le_refl _) | (with_reducible exact hB.size) | (simp [go_sem]; done) | (have := hB.size; simp [go_sem]; omega)))⟩
end Go.Proofs.Ytnbbgfcnbgjahaa

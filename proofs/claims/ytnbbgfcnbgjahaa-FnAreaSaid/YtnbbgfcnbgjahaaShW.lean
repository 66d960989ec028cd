
/- The model's ShortArea, walked. No condition on what is exported. -/
import Derived.Test.YtnbbgfcnbgjahaaShH
import Derived.Test.YtnbbgfcnbgjahaaShV
namespace Go.Proofs.Ytnbbgfcnbgjahaa
open Go.RowKit

def nextP (ps : List Pr2) (i : Nat) : Pr2 := atP ps ((i + 1) % ps.length)
def mS (ps : List Pr2) : Nat → Int
  | 0 => 0
  | i + 1 => mS ps i + crsP (atP ps i) (nextP ps i)
def mE (ps : List Pr2) : Nat → Nat
  | 0 => 0
  | i + 1 => mE ps i + Int.gcd ((nextP ps i).x - (atP ps i).x) ((nextP ps i).y - (atP ps i).y)
theorem nextP_lt {ps : List Pr2} {i : Nat} (h : i + 1 < ps.length) : nextP ps i = atP ps (i + 1) := by rw [nextP, Nat.mod_eq_of_lt h]
theorem ar_shift (ps : List Pr2) : ∀ i, i + 1 ≤ ps.length → arS ps (i + 1) = crsP (atP ps (ps.length - 1)) (atP ps 0) + mS ps i
  | 0, _ => by simp [arS, mS, prevP]
  | i + 1, h => by
    have ih := ar_shift ps i (by omega)
    rw [arS, ih, mS, nextP_lt (by omega)]
    have : prevP ps (i + 1) = atP ps i := if_neg (by omega)
    rw [this]; omega
theorem ed_shift (ps : List Pr2) : ∀ i, i + 1 ≤ ps.length → edS ps (i + 1) = Int.gcd ((atP ps 0).x - (atP ps (ps.length - 1)).x) ((atP ps 0).y - (atP ps (ps.length - 1)).y) + mE ps i
  | 0, _ => by simp [edS, mE, prevP]
  | i + 1, h => by
    have ih := ed_shift ps i (by omega)
    rw [edS, ih, mE, nextP_lt (by omega)]
    have : prevP ps (i + 1) = atP ps i := if_neg (by omega)
    rw [this]; omega
theorem mS_all {ps : List Pr2} (h : 1 ≤ ps.length) : mS ps ps.length = arS ps ps.length := by
  obtain ⟨n, hn⟩ : ∃ n, ps.length = n + 1 := ⟨ps.length - 1, by omega⟩
  have h1 := ar_shift ps n (by omega)
  rw [hn, h1, hn, Nat.add_sub_cancel, mS]
  have : nextP ps n = atP ps 0 := by rw [nextP, hn, Nat.mod_self]
  rw [this]; omega
theorem mE_all {ps : List Pr2} (h : 1 ≤ ps.length) : mE ps ps.length = edS ps ps.length := by
  obtain ⟨n, hn⟩ : ∃ n, ps.length = n + 1 := ⟨ps.length - 1, by omega⟩
  have h1 := ed_shift ps n (by omega)
  rw [hn, h1, hn, Nat.add_sub_cancel, mE]
  have : nextP ps n = atP ps 0 := by rw [nextP, hn, Nat.mod_self]
  rw [this]; omega
theorem mS_bd {ps : List Pr2} (h : inAll ps = true) : ∀ i : Nat, -(200000000 * (i : Int)) ≤ mS ps i ∧ mS ps i ≤ 200000000 * i
  | 0 => by simp [mS]
  | i + 1 => by
    have := mS_bd h i
    have := crs_bd4 (atP_in h i) (show pB (nextP ps i) = true from atP_in h _)
    simp only [mS]; omega
theorem mE_bd {ps : List Pr2} (h : inAll ps = true) : ∀ i, mE ps i ≤ 20000 * i
  | 0 => by simp [mE]
  | i + 1 => by
    have := mE_bd h i
    obtain ⟨a, b⟩ := pB_iff.1 (show pB (nextP ps i) = true from atP_in h _)
    obtain ⟨c, d⟩ := pB_iff.1 (atP_in h i)
    have := gcd_bd4 (x := (nextP ps i).x - (atP ps i).x) (y := (nextP ps i).y - (atP ps i).y) (by omega) (by omega)
    simp only [mE]; omega
/-- some whole number is returned; nothing that was there has changed; the world is the same -/
def AnyB (w : World) (e : Ending) (W' : World) : Prop := ∃ r : Int, e = .returned (.int .i64 r) ∧ Below w.heap.size w W'
def AnyS (w : World) (e : Ending) (W' : World) : Prop := ∃ r : Int, e = .returned (.int .i64 r) ∧ w = W'
theorem crsAny_ (a b c d : Int) (w : World) : Calls Try.prog 42 #[.agg #[.int .i64 a, .int .i64 b], .agg #[.int .i64 c, .int .i64 d]] w (AnyB w) := by
  have hM := mem_nil w; have hB := Below.refl w.heap.size w; have hC := True.intro
  go_enter Try.func42, Try.ntmps42
  go_wp2
  go_ret
  exact ⟨_, rfl, by (repeat' (first | (with_reducible exact hB) | (with_reducible exact Below.refl _ _) | (with_reducible refine Below.alloc ?_ ?_ _) | (with_reducible refine Below.setCell ?_ ?_ _) | (with_reducible refine Below.drew ?_) | (with_reducible refine below_drewN ?_ _) | (with_reducible exact Nat.le_refl _) | (with_reducible exact hB.size) | (simp [go_sem]; done) | (have := hB.size; simp [go_sem]; omega)))⟩
theorem wrap64_rng (x : Int) : -9223372036854775808 ≤ wrap64 x ∧ wrap64 x ≤ 9223372036854775807 := by
  unfold wrap64; omega
set_option maxHeartbeats 1000000 in
theorem gcdAny_ (a b : Int) (hb : -9223372036854775808 ≤ b ∧ b ≤ 9223372036854775807) (w : World) : Calls Try.prog 35 #[.int .i64 a, .int .i64 b] w (AnyS w) := by
  go_enter Try.func35, Try.ntmps35
  go_wp2
  go_loop [0, 1] (fun v0 v1 => ∃ x y : Int, v0 = .int .i64 x ∧ v1 = .int .i64 y ∧ (-9223372036854775808 ≤ y ∧ y ≤ 9223372036854775807)) (fun _ v1 => (intOf v1).natAbs)
  case atStart => exact ⟨a, b, rfl, rfl, hb⟩
  case round =>
    obtain ⟨x, y, rfl, rfl, hy⟩ := hrel
    by_cases h0 : y = 0
    · subst h0
      obtain ⟨z, hz⟩ : ∃ z, z = wrap64 (0 - x) := ⟨_, rfl⟩
      have hz2 : wrap64 (0 - x) = z := hz.symm
      have hz3 : IntKind.i64.wrap (0 - x) = z := by rw [iw]; exact hz2
      have hz4 : wrap64 (-x) = z := by rw [← hz2, Int.zero_sub]
      clear hz
      by_cases hg : z > x
      · go_wp2
        go_ret
        exact ⟨_, rfl, rfl⟩
      · go_wp2
        go_ret
        exact ⟨_, rfl, rfl⟩
    · have hy0 : (y == 0) = false := by simp; omega
      have hy1 : (y != 0) = true := by simp; omega
      have hy2 : (y = 0) = False := by simp; omega
      have hlt : (x.tmod y).natAbs < y.natAbs := by rw [Int.natAbs_tmod]; exact Nat.mod_lt _ (by omega)
      have hw : wrap64 (x.tmod y) = x.tmod y := wrap_id (by omega)
      go_wp2
      go_round
      case rel => exact ⟨y, x.tmod y, rfl, by simp, by omega⟩
      case measure => exact hlt
/-- at the head of a round of the model's ShortArea -/
def SarRel (ps : List Pr2) (w : World) (v5 v6 v7 : Value) (wr : World) : Prop := ∃ (i : Nat) (s t : Int), i ≤ ps.length ∧ v5 = .int .i64 s ∧ v6 = .int .i64 t ∧ v7 = .int .i64 i ∧
  (∀ j, j < i → pB (atP ps j) = true) ∧ (inAll ps = true → s = mS ps i ∧ t = (mE ps i : Nat)) ∧ Below w.heap.size w wr
set_option maxHeartbeats 4000000 in
theorem sShortArea_ (v : Value) (ps : List Pr2) (hL : ps.length ≤ 2000000) (w : World) (hv : ReadsP w v ps) : Calls Try.prog 24 #[v] w
    (fun E' W' => E' = .returned (.tuple #[.int .i64 (mArea ps).1.1, .int .i64 (mArea ps).1.2, .bool (mArea ps).2]) ∧ Below w.heap.size w W') := by
  obtain ⟨ao, cap, rfl, hc⟩ := hv
  have cI := fun W => l6In_ (ps.length : Int) 3 10 W
  have HC := Lib.hid hc
  clear hc
  cases hx : l6B (ps.length : Int) 3 10
  · rw [hx] at cI
    have HE := Lib.hid (show mArea ps = ((0, 0), false) by
      have : arOk ps = false := by
        cases h : arOk ps
        · rfl
        · simp only [arOk, Bool.and_eq_true, decide_eq_true_eq] at h
          have : l6B (ps.length : Int) 3 10 = true := by simp [l6B]; omega
          rw [this] at hx; cases hx
      simp [mArea, this])
    have hM := mem_nil w; have hB := Below.refl w.heap.size w; have hC := True.intro
    go_enter Try.func24, Try.ntmps24
    go_wp2_with (go_at_call 34; refine (cI _).mono ?_; rintro e w' ⟨rfl, rfl⟩)
    refine bodyPost_ret (by (simp [results, Try.results24, go_sem, *]; try rfl)) rfl ?_
    exact ⟨by rw [HE.out], by (repeat' (first | (with_reducible exact hB) | (with_reducible exact Below.refl _ _) | (with_reducible refine Below.alloc ?_ ?_ _) | (with_reducible refine Below.setCell ?_ ?_ _) | (with_reducible refine Below.drew ?_) | (with_reducible refine below_drewN ?_ _) | (with_reducible exact Nat.le_refl _) | (with_reducible exact hB.size) | (simp [go_sem]; done) | (have := hB.size; simp [go_sem]; omega)))⟩
  · rw [hx] at cI
    have hlen : 3 ≤ ps.length ∧ ps.length ≤ 10 := by simp [l6B] at hx; omega
    obtain ⟨h3, h10⟩ := hlen
    clear hx
    have hM := mem_nil w; have hB := Below.refl w.heap.size w; have hC := True.intro
    go_enter Try.func24, Try.ntmps24
    go_wp2_with (go_at_call 34; refine (cI _).mono ?_; rintro e w' ⟨rfl, rfl⟩)
    go_loopw [5, 6, 7] (fun v5 v6 v7 wr => SarRel ps w v5 v6 v7 wr) (fun _ _ v7 _ => ps.length - (intOf v7).toNat)
    case atStart => exact ⟨0, 0, 0, Nat.zero_le _, rfl, rfl, rfl, fun j hj => absurd hj (Nat.not_lt_zero _), fun _ => ⟨rfl, rfl⟩, by (repeat' (first | (with_reducible exact hB) | (with_reducible exact Below.refl _ _) | (with_reducible refine Below.alloc ?_ ?_ _) | (with_reducible refine Below.setCell ?_ ?_ _) | (with_reducible refine Below.drew ?_) | (with_reducible refine below_drewN ?_ _) | (with_reducible exact Nat.le_refl _) | (with_reducible exact hB.size) | (simp [go_sem]; done) | (have := hB.size; simp [go_sem]; omega)))⟩
    case round =>
      obtain ⟨i, s, t, hi, rfl, rfl, rfl, hall, hst, hB'⟩ := hrel
      have hM' := mem_nil wr
      (try clear hC); clear hM hB; have hM := hM'; have hB := hB'; clear hM' hB'; have hC := mem_facts hM; simp at hC
      clear cI
      by_cases hlt : i < ps.length
      · obtain ⟨g, rfl, h1⟩ := HC.out i hlt
        obtain ⟨g', hg', h2⟩ := HC.out ((i + 1) % ps.length) (Nat.mod_lt _ (by omega))
        obtain rfl : g' = g := by injection hg' with h; injection h with h; exact h.symm
        clear hg'
        have HA := Lib.hid hall
        have HT := Lib.hid hst
        clear hall hst
        have hmod : ((i : Int) + 1).tmod (ps.length : Int) = (((i + 1) % ps.length : Nat) : Int) := by rw [Int.tmod_eq_emod_of_nonneg (by omega)]; simp
        have hmq : ((i : Int) + 1) % (ps.length : Int) = (((i + 1) % ps.length : Nat) : Int) := by simp
        have hz : ((ps.length : Int) == 0) = false := by rw [beq_eq_false_iff_ne]; omega
        have hz2 : ((ps.length : Int) = 0) = False := eq_false (by omega)
        have hk : (i + 1) % ps.length < ps.length := Nat.mod_lt _ (by omega)
        have HN := Lib.hid (show pB (atP ps i) = false → mArea ps = ((0, 0), false) from fun h => by simp [mArea, arOk, inAll_no h])
        have c1 := fun W => sIn7_ (atP ps i).x (atP ps i).y W
        obtain ⟨h1a, h1b⟩ := h1.below hB
        obtain ⟨h2a, h2b⟩ := h2.below hB
        have hgl := World.block_lt_of_cell? wr _ h1a
        dsimp only at hgl
        have HX := Lib.hid (show inAll ps = true → pB (atP ps i) = true ∧ pB (atP ps ((i + 1) % ps.length)) = true from fun h => ⟨atP_in h _, atP_in h _⟩)
        have HS := Lib.hid (show mS ps (i + 1) = mS ps i + crsP (atP ps i) (atP ps ((i + 1) % ps.length)) from rfl)
        have HU := Lib.hid (show mE ps (i + 1) = mE ps i + Int.gcd ((atP ps ((i + 1) % ps.length)).x - (atP ps i).x) ((atP ps ((i + 1) % ps.length)).y - (atP ps i).y) from rfl)
        clear h1 h2
        generalize hq : atP ps i = q at *
        have HQ := Lib.hid hq
        clear hq
        generalize atP ps ((i + 1) % ps.length) = q2 at *
        generalize (i + 1) % ps.length = k at *
        obtain ⟨x, y⟩ := q
        obtain ⟨u, v⟩ := q2
        dsimp only at c1 h1a h1b h2a h2b
        cases ho : pB ⟨x, y⟩
        · rw [ho] at c1
          have HF := Lib.hid (HN.out ho)
          go_wp2_with (go_at_call 29; refine (c1 _).mono ?_; rintro e w' ⟨rfl, hb⟩; apply after_call (w := w) hb; (focus ((repeat' (first | (with_reducible exact hM) | (with_reducible apply mem_alloc) | (with_reducible apply mem_set) | (with_reducible apply mem_drew) | (with_reducible apply mem_drewN))); done)); (focus ((repeat' (first | (with_reducible exact hB) | (with_reducible exact Below.refl _ _) | (with_reducible refine Below.alloc ?_ ?_ _) | (with_reducible refine Below.setCell ?_ ?_ _) | (with_reducible refine Below.drew ?_) | (with_reducible refine below_drewN ?_ _) | (with_reducible exact Nat.le_refl _) | (with_reducible exact hB.size) | (simp [go_sem]; done) | (have := hB.size; simp [go_sem]; omega))); done)); (focus ((repeat' (first | (with_reducible exact hB) | (with_reducible exact Below.refl _ _) | (with_reducible refine Below.alloc ?_ ?_ _) | (with_reducible refine Below.setCell ?_ ?_ _) | (with_reducible refine Below.drew ?_) | (with_reducible refine below_drewN ?_ _) | (with_reducible exact Nat.le_refl _) | (with_reducible exact hB.size) | (simp [go_sem]; done) | (have := hB.size; simp [go_sem]; omega))); done)); clear hM hB hb; intro hM hB; (try clear hC); have hC := mem_facts hM; simp at hC)
          refine bodyPost_ret (by (simp [results, Try.results24, go_sem, *]; try rfl)) rfl ?_
          exact ⟨by rw [HF.out], by (repeat' (first | (with_reducible exact hB) | (with_reducible exact Below.refl _ _) | (with_reducible refine Below.alloc ?_ ?_ _) | (with_reducible refine Below.setCell ?_ ?_ _) | (with_reducible refine Below.drew ?_) | (with_reducible refine below_drewN ?_ _) | (with_reducible exact Nat.le_refl _) | (with_reducible exact hB.size) | (simp [go_sem]; done) | (have := hB.size; simp [go_sem]; omega)))⟩
        · rw [ho] at c1
          have HQ2 := Lib.hid (show ∀ j, j < i + 1 → pB (atP ps j) = true from fun j hj => by
            rcases Nat.lt_or_ge j i with h | h
            · exact HA.out j h
            · obtain rfl : j = i := by omega
              rw [HQ.out]; exact ho)
          cases hin : inAll ps
          · have HI := Lib.hid (show inAll ps = true → False from fun h => by rw [hin] at h; cases h)
            have cC := fun W => crsAny_ x y u v W
            have cG := fun W => gcdAny_ (wrap64 (u - x)) (wrap64 (v - y)) (wrap64_rng _) W
            clear hin HX HS HU HT HN HQ HA
            generalize hdx : wrap64 (u - x) = dx at *
            generalize hdy : wrap64 (v - y) = dy at *
            go_wp2_with (first | (go_at_call 29; refine (c1 _).mono ?_; rintro e w' ⟨rfl, hb⟩; apply after_call (w := w) hb; (focus ((repeat' (first | (with_reducible exact hM) | (with_reducible apply mem_alloc) | (with_reducible apply mem_set) | (with_reducible apply mem_drew) | (with_reducible apply mem_drewN))); done)); (focus ((repeat' (first | (with_reducible exact hB) | (with_reducible exact Below.refl _ _) | (with_reducible refine Below.alloc ?_ ?_ _) | (with_reducible refine Below.setCell ?_ ?_ _) | (with_reducible refine Below.drew ?_) | (with_reducible refine below_drewN ?_ _) | (with_reducible exact Nat.le_refl _) | (with_reducible exact hB.size) | (simp [go_sem]; done) | (have := hB.size; simp [go_sem]; omega))); done)); (focus ((repeat' (first | (with_reducible exact hB) | (with_reducible exact Below.refl _ _) | (with_reducible refine Below.alloc ?_ ?_ _) | (with_reducible refine Below.setCell ?_ ?_ _) | (with_reducible refine Below.drew ?_) | (with_reducible refine below_drewN ?_ _) | (with_reducible exact Nat.le_refl _) | (with_reducible exact hB.size) | (simp [go_sem]; done) | (have := hB.size; simp [go_sem]; omega))); done)); clear hM hB hb; intro hM hB; (try clear hC); have hC := mem_facts hM; simp at hC) | (go_at_call 42; refine (cC _).mono ?_; rintro e' w' ⟨r1, rfl, hb⟩; apply after_call (w := w) hb; (focus ((repeat' (first | (with_reducible exact hM) | (with_reducible apply mem_alloc) | (with_reducible apply mem_set) | (with_reducible apply mem_drew) | (with_reducible apply mem_drewN))); done)); (focus ((repeat' (first | (with_reducible exact hB) | (with_reducible exact Below.refl _ _) | (with_reducible refine Below.alloc ?_ ?_ _) | (with_reducible refine Below.setCell ?_ ?_ _) | (with_reducible refine Below.drew ?_) | (with_reducible refine below_drewN ?_ _) | (with_reducible exact Nat.le_refl _) | (with_reducible exact hB.size) | (simp [go_sem]; done) | (have := hB.size; simp [go_sem]; omega))); done)); (focus ((repeat' (first | (with_reducible exact hB) | (with_reducible exact Below.refl _ _) | (with_reducible refine Below.alloc ?_ ?_ _) | (with_reducible refine Below.setCell ?_ ?_ _) | (with_reducible refine Below.drew ?_) | (with_reducible refine below_drewN ?_ _) | (with_reducible exact Nat.le_refl _) | (with_reducible exact hB.size) | (simp [go_sem]; done) | (have := hB.size; simp [go_sem]; omega))); done)); clear hM hB hb; intro hM hB; (try clear hC); have hC := mem_facts hM; simp at hC) | (go_at_call 35; refine (cG _).mono ?_; rintro e' w' ⟨r2, rfl, rfl⟩))
            go_roundw
            case measure => simp [intOf]; omega
            case rel =>
              exact ⟨i + 1, _, _, by omega, rfl, rfl, by go_num, HQ2.out, fun h => (HI.out h).elim, by (repeat' (first | (with_reducible exact hB) | (with_reducible exact Below.refl _ _) | (with_reducible refine Below.alloc ?_ ?_ _) | (with_reducible refine Below.setCell ?_ ?_ _) | (with_reducible refine Below.drew ?_) | (with_reducible refine below_drewN ?_ _) | (with_reducible exact Nat.le_refl _) | (with_reducible exact hB.size) | (simp [go_sem]; done) | (have := hB.size; simp [go_sem]; omega)))⟩
          · obtain ⟨hp1, hp2⟩ := HX.out hin
            obtain ⟨k1, k2⟩ := pB_iff.1 hp1
            obtain ⟨k3, k4⟩ := pB_iff.1 hp2
            obtain ⟨rfl, rfl⟩ := HT.out hin
            dsimp only at k1 k2 k3 k4
            have hb1 := mS_bd hin i
            have hb2 := mE_bd hin i
            have hcr := crs_bd4 hp1 hp2
            have hgb := gcd_bd4 (x := u - x) (y := v - y) (by omega) (by omega)
            have cC := fun W => sCrs7_ x y u v (by omega) (by omega) (by omega) (by omega) W
            have cG := fun W => igcd7_ (u - x) (v - y) (by omega) (by omega) W
            have w0 : wrap64 (u - x) = u - x := wrap_mid (by omega)
            have w00 : wrap64 (v - y) = v - y := wrap_mid (by omega)
            dsimp only at HS HU
            generalize crsP ⟨x, y⟩ ⟨u, v⟩ = cr at *
            replace HU := Lib.hid (show ((mE ps (i + 1) : Nat) : Int) = (mE ps i : Int) + (Int.gcd (u - x) (v - y) : Nat) by rw [HU.out]; simp)
            have hg0 : 0 ≤ ((Int.gcd (u - x) (v - y) : Nat) : Int) ∧ ((Int.gcd (u - x) (v - y) : Nat) : Int) ≤ 20000 := ⟨by omega, by omega⟩
            have hm0 : 0 ≤ ((mE ps i : Nat) : Int) ∧ ((mE ps i : Nat) : Int) ≤ 20000 * (i : Int) := ⟨by omega, by omega⟩
            clear hgb hb2
            generalize ((Int.gcd (u - x) (v - y) : Nat) : Int) = gg at *
            generalize ((mE ps i : Nat) : Int) = me at *
            have w1 : wrap64 (mS ps i + cr) = mS ps i + cr := wrap_mid (by omega)
            have w2 : wrap64 (me + gg) = me + gg := wrap_mid (by omega)
            clear k1 k2 k3 k4 hp1 hp2 hin HX HT HN
            generalize mS ps i = ms at *
            generalize hdx : u - x = dx at *
            generalize hdy : v - y = dy at *
            clear HQ HA ho
            go_wp2_with (first | (go_at_call 29; refine (c1 _).mono ?_; rintro e w' ⟨rfl, hb⟩; apply after_call (w := w) hb; (focus ((repeat' (first | (with_reducible exact hM) | (with_reducible apply mem_alloc) | (with_reducible apply mem_set) | (with_reducible apply mem_drew) | (with_reducible apply mem_drewN))); done)); (focus ((repeat' (first | (with_reducible exact hB) | (with_reducible exact Below.refl _ _) | (with_reducible refine Below.alloc ?_ ?_ _) | (with_reducible refine Below.setCell ?_ ?_ _) | (with_reducible refine Below.drew ?_) | (with_reducible refine below_drewN ?_ _) | (with_reducible exact Nat.le_refl _) | (with_reducible exact hB.size) | (simp [go_sem]; done) | (have := hB.size; simp [go_sem]; omega))); done)); (focus ((repeat' (first | (with_reducible exact hB) | (with_reducible exact Below.refl _ _) | (with_reducible refine Below.alloc ?_ ?_ _) | (with_reducible refine Below.setCell ?_ ?_ _) | (with_reducible refine Below.drew ?_) | (with_reducible refine below_drewN ?_ _) | (with_reducible exact Nat.le_refl _) | (with_reducible exact hB.size) | (simp [go_sem]; done) | (have := hB.size; simp [go_sem]; omega))); done)); clear hM hB hb; intro hM hB; (try clear hC); have hC := mem_facts hM; simp at hC) | (go_at_call 42; refine (cC _).mono ?_; rintro e w' ⟨rfl, hb⟩; apply after_call (w := w) hb; (focus ((repeat' (first | (with_reducible exact hM) | (with_reducible apply mem_alloc) | (with_reducible apply mem_set) | (with_reducible apply mem_drew) | (with_reducible apply mem_drewN))); done)); (focus ((repeat' (first | (with_reducible exact hB) | (with_reducible exact Below.refl _ _) | (with_reducible refine Below.alloc ?_ ?_ _) | (with_reducible refine Below.setCell ?_ ?_ _) | (with_reducible refine Below.drew ?_) | (with_reducible refine below_drewN ?_ _) | (with_reducible exact Nat.le_refl _) | (with_reducible exact hB.size) | (simp [go_sem]; done) | (have := hB.size; simp [go_sem]; omega))); done)); (focus ((repeat' (first | (with_reducible exact hB) | (with_reducible exact Below.refl _ _) | (with_reducible refine Below.alloc ?_ ?_ _) | (with_reducible refine Below.setCell ?_ ?_ _) | (with_reducible refine Below.drew ?_) | (with_reducible refine below_drewN ?_ _) | (with_reducible exact Nat.le_refl _) | (with_reducible exact hB.size) | (simp [go_sem]; done) | (have := hB.size; simp [go_sem]; omega))); done)); clear hM hB hb; intro hM hB; (try clear hC); have hC := mem_facts hM; simp at hC) | (go_at_call 35; refine (cG _).mono ?_; rintro e w' ⟨rfl, rfl⟩))
            go_roundw
            case measure => simp [intOf]; omega
            case rel =>
              exact ⟨i + 1, ms + cr, me + gg, by omega, rfl, rfl, by go_num, HQ2.out, fun _ => ⟨HS.out.symm, HU.out.symm⟩, by (repeat' (first | (with_reducible exact hB) | (with_reducible exact Below.refl _ _) | (with_reducible refine Below.alloc ?_ ?_ _) | (with_reducible refine Below.setCell ?_ ?_ _) | (with_reducible refine Below.drew ?_) | (with_reducible refine below_drewN ?_ _) | (with_reducible exact Nat.le_refl _) | (with_reducible exact hB.size) | (simp [go_sem]; done) | (have := hB.size; simp [go_sem]; omega)))⟩
      · obtain rfl : i = ps.length := by omega
        have hin := inAll_of hall
        obtain ⟨rfl, rfl⟩ := hst hin
        have hb := mS_bd hin ps.length
        have cV := fun W => sAbs7_ (mS ps ps.length) (by omega) W
        have HE := Lib.hid (show mArea ps = ((absI (mS ps ps.length), ((mE ps ps.length : Nat) : Int)), true) by
          have : arOk ps = true := by unfold arOk; rw [hin, decide_eq_true (by omega), decide_eq_true (by omega)]; rfl
          rw [mS_all (by omega), mE_all (by omega)]
          simp [mArea, this])
        clear hb hall hst hin
        generalize absI (mS ps ps.length) = A at *
        generalize mS ps ps.length = S at *
        generalize mE ps ps.length = E at *
        go_wp2_with (go_at_call 43; refine (cV _).mono ?_; rintro e w' ⟨rfl, rfl⟩)
        refine bodyPost_ret (by (simp [results, Try.results24, go_sem, *]; try rfl)) rfl ?_
        exact ⟨by rw [HE.out], by (repeat' (first | (with_reducible exact hB) | (with_reducible exact Below.refl _ _) | (with_reducible refine Below.alloc ?_ ?_ _) | (with_reducible refine Below.setCell ?_ ?_ _) | (with_reducible refine Below.drew ?_) | (with_reducible refine below_drewN ?_ _) | (with_reducible exact Nat.le_refl _) | (with_reducible exact hB.size) | (simp [go_sem]; done) | (have := hB.size; simp [go_sem]; omega)))⟩
end Go.Proofs.Ytnbbgfcnbgjahaa

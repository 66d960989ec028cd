
/- The model's greatest divisors, counts and filled rows, walked. No condition on what is exported. -/
import Derived.Test.YtnbbgfcnbgjahaaShS
import Derived.Test.YtnbbgfcnbgjahaaShR
namespace Go.Proofs.Ytnbbgfcnbgjahaa
open Go.RowKit

/-- at the head of a round of the model's ShortGcd -/
def GcRel (R : Int × Int × Int) (w : World) (v6 v7 v8 v9 v10 v11 : Value) (wr : World) : Prop := ∃ a b u v s t : Int, v6 = .int .i64 a ∧ v7 = .int .i64 b ∧ v8 = .int .i64 u ∧ v9 = .int .i64 v ∧ v10 = .int .i64 s ∧ v11 = .int .i64 t ∧
  GcI a b u v s t ∧ gcR a b u v s t = R ∧ Below w.heap.size w wr
set_option maxHeartbeats 4000000 in
theorem sShortGcd_ (a b : Int) (w : World) : Calls Try.prog 13 #[.agg #[.int .i64 a, .int .i64 b]] w
    (fun E' W' => E' = .returned (.tuple #[.int .i64 (mGcd7 ⟨a, b⟩).1.1, .int .i64 (mGcd7 ⟨a, b⟩).1.2.1, .int .i64 (mGcd7 ⟨a, b⟩).1.2.2, .bool (mGcd7 ⟨a, b⟩).2]) ∧ Below w.heap.size w W') := by
  have c1 := fun W => sIn7_ a b W
  cases h : pB ⟨a, b⟩
  · rw [h] at c1
    have HE := Lib.hid (show mGcd7 ⟨a, b⟩ = ((0, 0, 0), false) by simp [mGcd7, h])
    have hM := mem_nil w; have hB := Below.refl w.heap.size w; have hC := True.intro
    go_enter Try.func13, Try.ntmps13
    go_wp2_with (go_at_call 29; refine (c1 _).mono ?_; rintro e w' ⟨rfl, hb⟩; apply after_call (w := w) hb; (focus ((repeat' (first | (with_reducible exact hM) | (with_reducible apply mem_alloc) | (with_reducible apply mem_set) | (with_reducible apply mem_drew) | (with_reducible apply mem_drewN))); done)); (focus ((repeat' (first | (with_reducible exact hB) | (with_reducible exact Below.refl _ _) | (with_reducible refine Below.alloc ?_ ?_ _) | (with_reducible refine Below.setCell ?_ ?_ _) | (with_reducible refine Below.drew ?_) | (with_reducible refine below_drewN ?_ _) | (with_reducible exact Nat.le_refl _) | (with_reducible exact hB.size) | (simp [go_sem]; done) | (have := hB.size; simp [go_sem]; omega))); done)); (focus ((repeat' (first | (with_reducible exact hB) | (with_reducible exact Below.refl _ _) | (with_reducible refine Below.alloc ?_ ?_ _) | (with_reducible refine Below.setCell ?_ ?_ _) | (with_reducible refine Below.drew ?_) | (with_reducible refine below_drewN ?_ _) | (with_reducible exact Nat.le_refl _) | (with_reducible exact hB.size) | (simp [go_sem]; done) | (have := hB.size; simp [go_sem]; omega))); done)); clear hM hB hb; intro hM hB; (try clear hC); have hC := mem_facts hM; simp at hC)
    refine bodyPost_ret (by (simp [results, Try.results13, go_sem, *]; try rfl)) rfl ?_
    exact ⟨by rw [HE.out], by (repeat' (first | (with_reducible exact hB) | (with_reducible exact Below.refl _ _) | (with_reducible refine Below.alloc ?_ ?_ _) | (with_reducible refine Below.setCell ?_ ?_ _) | (with_reducible refine Below.drew ?_) | (with_reducible refine below_drewN ?_ _) | (with_reducible exact Nat.le_refl _) | (with_reducible exact hB.size) | (simp [go_sem]; done) | (have := hB.size; simp [go_sem]; omega)))⟩
  · rw [h] at c1
    obtain ⟨k1, k2⟩ := pB_iff.1 h
    dsimp only at k1 k2
    have HE := Lib.hid (show mGcd7 ⟨a, b⟩ = (egs a b, true) by simp [mGcd7, h])
    have HS := Lib.hid (show egs a b = if (eg a b).1 < 0 then (-(eg a b).1, -(eg a b).2.1, -(eg a b).2.2) else eg a b from rfl)
    have HI := Lib.hid (show GcI a b 1 0 0 1 from ⟨⟨by omega, by omega⟩, ⟨by decide, by decide, by decide, by decide⟩, by simp; omega, by simp; omega⟩)
    have HG := Lib.hid (gcR_start a b)
    clear k1 k2
    have hM := mem_nil w; have hB := Below.refl w.heap.size w; have hC := True.intro
    go_enter Try.func13, Try.ntmps13
    go_wp2_with (go_at_call 29; refine (c1 _).mono ?_; rintro e w' ⟨rfl, hb⟩; apply after_call (w := w) hb; (focus ((repeat' (first | (with_reducible exact hM) | (with_reducible apply mem_alloc) | (with_reducible apply mem_set) | (with_reducible apply mem_drew) | (with_reducible apply mem_drewN))); done)); (focus ((repeat' (first | (with_reducible exact hB) | (with_reducible exact Below.refl _ _) | (with_reducible refine Below.alloc ?_ ?_ _) | (with_reducible refine Below.setCell ?_ ?_ _) | (with_reducible refine Below.drew ?_) | (with_reducible refine below_drewN ?_ _) | (with_reducible exact Nat.le_refl _) | (with_reducible exact hB.size) | (simp [go_sem]; done) | (have := hB.size; simp [go_sem]; omega))); done)); (focus ((repeat' (first | (with_reducible exact hB) | (with_reducible exact Below.refl _ _) | (with_reducible refine Below.alloc ?_ ?_ _) | (with_reducible refine Below.setCell ?_ ?_ _) | (with_reducible refine Below.drew ?_) | (with_reducible refine below_drewN ?_ _) | (with_reducible exact Nat.le_refl _) | (with_reducible exact hB.size) | (simp [go_sem]; done) | (have := hB.size; simp [go_sem]; omega))); done)); clear hM hB hb; intro hM hB; (try clear hC); have hC := mem_facts hM; simp at hC)
    go_loopw [6, 7, 8, 9, 10, 11] (fun v6 v7 v8 v9 v10 v11 wr => GcRel (eg a b) w v6 v7 v8 v9 v10 v11 wr) (fun _ v7 _ _ _ _ _ => (intOf v7).natAbs)
    case atStart => exact ⟨a, b, 1, 0, 0, 1, rfl, rfl, rfl, rfl, rfl, rfl, HI.out, HG.out, by (repeat' (first | (with_reducible exact hB) | (with_reducible exact Below.refl _ _) | (with_reducible refine Below.alloc ?_ ?_ _) | (with_reducible refine Below.setCell ?_ ?_ _) | (with_reducible refine Below.drew ?_) | (with_reducible refine below_drewN ?_ _) | (with_reducible exact Nat.le_refl _) | (with_reducible exact hB.size) | (simp [go_sem]; done) | (have := hB.size; simp [go_sem]; omega)))⟩
    case round =>
      obtain ⟨p, q, u, v, s, t, rfl, rfl, rfl, rfl, rfl, rfl, hI, hR, hB'⟩ := hrel
      clear hB hM hC c1 HI HG h
      have hB := hB'
      clear hB'
      have HR := Lib.hid hR
      clear hR
      by_cases h0 : q = 0
      · subst h0
        have hR := HR.out
        rw [gcR_zero] at hR
        rw [← hR] at HS
        clear HR hR
        obtain ⟨⟨i1, i2⟩, ⟨i3, i4, i5, i6⟩, _⟩ := hI
        have w1 : IntKind.i64.wrap (0 - p) = -p := by rw [iw, Int.zero_sub]; exact wrap_mid (by omega)
        have w2 : IntKind.i64.wrap (0 - u) = -u := by rw [iw, Int.zero_sub]; exact wrap_mid (by omega)
        have w3 : IntKind.i64.wrap (0 - v) = -v := by rw [iw, Int.zero_sub]; exact wrap_mid (by omega)
        have w4 : wrap64 (-p) = -p := wrap_mid (by omega)
        have w5 : wrap64 (-u) = -u := wrap_mid (by omega)
        have w6 : wrap64 (-v) = -v := wrap_mid (by omega)
        by_cases hp : p < 0
        · have HF := Lib.hid (HS.out.trans (if_pos hp))
          clear HS
          go_wp2
          refine bodyPost_ret (by (simp [results, Try.results13, go_sem, *]; try rfl)) rfl ?_
          exact ⟨by rw [HE.out, HF.out], by (repeat' (first | (with_reducible exact hB) | (with_reducible exact Below.refl _ _) | (with_reducible refine Below.alloc ?_ ?_ _) | (with_reducible refine Below.setCell ?_ ?_ _) | (with_reducible refine Below.drew ?_) | (with_reducible refine below_drewN ?_ _) | (with_reducible exact Nat.le_refl _) | (with_reducible exact hB.size) | (simp [go_sem]; done) | (have := hB.size; simp [go_sem]; omega)))⟩
        · have HF := Lib.hid (HS.out.trans (if_neg hp))
          clear HS
          go_wp2
          refine bodyPost_ret (by (simp [results, Try.results13, go_sem, *]; try rfl)) rfl ?_
          exact ⟨by rw [HE.out, HF.out], by (repeat' (first | (with_reducible exact hB) | (with_reducible exact Below.refl _ _) | (with_reducible refine Below.alloc ?_ ?_ _) | (with_reducible refine Below.setCell ?_ ?_ _) | (with_reducible refine Below.drew ?_) | (with_reducible refine below_drewN ?_ _) | (with_reducible exact Nat.le_refl _) | (with_reducible exact hB.size) | (simp [go_sem]; done) | (have := hB.size; simp [go_sem]; omega)))⟩
      · have hI2 := gc_step h0 hI
        have HR2 := Lib.hid ((gcR_step (a := p) (u := u) (v := v) (s := s) (t := t) h0).trans HR.out)
        have hlt := tmod_less (a := p) h0
        have hz : (q == 0) = false := by simp [h0]
        have hz2 : (q = 0) = False := by simp [h0]
        have hz3 : (q != 0) = true := by simp [h0]
        have hq : (p.tdiv q).natAbs ≤ p.natAbs := by rw [Int.natAbs_tdiv]; exact Nat.div_le_self _ _
        have e := Int.mul_tdiv_add_tmod p q
        have e2 : p - p.tdiv q * q = p.tmod q := by rw [Int.mul_comm q] at e; omega
        have HI2 := Lib.hid hI2
        obtain ⟨⟨i1, i2⟩, ⟨i3, i4, i5, i6⟩, _⟩ := hI
        obtain ⟨⟨j1, j2⟩, ⟨j3, j4, j5, j6⟩, _⟩ := hI2
        have HM := Lib.hid hlt
        generalize p.tmod q = r at *
        generalize hk : p.tdiv q = k at *
        have w0 : wrap64 k = k := wrap_mid (by omega)
        have m1 := mul_bd (x := k) (y := q) (a := 10000) (b := 10000) (by omega) (by omega)
        have m2 := mul_bd (x := k) (y := s) (a := 10000) (b := 10000) (by omega) (by omega)
        have m3 := mul_bd (x := k) (y := t) (a := 10000) (b := 10000) (by omega) (by omega)
        have w1 : wrap64 (k * q) = k * q := wrap_mid (by omega)
        have w2 : wrap64 (k * s) = k * s := wrap_mid (by omega)
        have w3 : wrap64 (k * t) = k * t := wrap_mid (by omega)
        have w4 : wrap64 (p - k * q) = r := by rw [e2]; exact wrap_mid (by omega)
        have w5 : wrap64 (u - k * s) = u - k * s := wrap_mid (by omega)
        have w6 : wrap64 (v - k * t) = v - k * t := wrap_mid (by omega)
        have HE2 := Lib.hid e2
        clear hlt hq e e2
        go_wp2
        go_roundw
        case rel => exact ⟨q, r, s, t, u - k * s, v - k * t, by simp [*], by simp [*]; exact HE2.out, by simp [*], by simp [*], by simp [*], by simp [*], HI2.out, HR2.out, by (repeat' (first | (with_reducible exact hB) | (with_reducible exact Below.refl _ _) | (with_reducible refine Below.alloc ?_ ?_ _) | (with_reducible refine Below.setCell ?_ ?_ _) | (with_reducible refine Below.drew ?_) | (with_reducible refine below_drewN ?_ _) | (with_reducible exact Nat.le_refl _) | (with_reducible exact hB.size) | (simp [go_sem]; done) | (have := hB.size; simp [go_sem]; omega)))⟩
        case measure => simp [intOf]; rw [HE2.out]; exact HM.out
theorem igcd_step7 (x y : Int) : Int.gcd y (x.tmod y) = Int.gcd x y := by
  rw [Int.gcd, Int.gcd, Int.natAbs_tmod, Nat.gcd_comm, ← Nat.gcd_rec, Nat.gcd_comm]
set_option maxHeartbeats 1000000 in
theorem igcd7_ (a b : Int) (ha : -4000000000000 ≤ a ∧ a ≤ 4000000000000) (hb : -4000000000000 ≤ b ∧ b ≤ 4000000000000) (w : World) : Calls Try.prog 35 #[.int .i64 a, .int .i64 b] w (fun E' W' => E' = .returned (.int .i64 (Int.gcd a b : Nat)) ∧ w = W') := by
  go_enter Try.func35, Try.ntmps35
  go_wp2
  go_loop [0, 1] (fun v0 v1 => ∃ x y : Int, v0 = .int .i64 x ∧ v1 = .int .i64 y ∧ (-4000000000000 ≤ x ∧ x ≤ 4000000000000) ∧ (-4000000000000 ≤ y ∧ y ≤ 4000000000000) ∧ Int.gcd x y = Int.gcd a b) (fun _ v1 => (intOf v1).natAbs)
  case atStart => exact ⟨a, b, rfl, rfl, ha, hb, rfl⟩
  case round =>
    obtain ⟨x, y, rfl, rfl, hx, hy, hg⟩ := hrel
    have HG := Lib.hid hg
    clear hg
    by_cases h0 : y = 0
    · subst h0
      have h1 : wrap64 (0 - x) = 0 - x := wrap_mid (by omega)
      have h4 : wrap64 (-x) = -x := wrap_mid (by omega)
      by_cases hn : x < 0
      · have h2 : (0 - x > x) = True := by simp; omega
        have h3 : (-x > x) = True := by simp; omega
        go_wp2
        go_ret
        have := HG.out
        rw [Int.gcd_zero_right] at this
        refine ⟨?_, rfl⟩
        rw [← this]
        simp
        omega
      · have h2 : (0 - x > x) = False := by simp; omega
        have h3 : (-x > x) = False := by simp; omega
        go_wp2
        go_ret
        have := HG.out
        rw [Int.gcd_zero_right] at this
        refine ⟨?_, rfl⟩
        rw [← this]
        simp
        omega
    · have hy0 : (y == 0) = false := by simp; omega
      have hy1 : (y != 0) = true := by simp; omega
      have hy2 : (y = 0) = False := by simp; omega
      have hlt : (x.tmod y).natAbs < y.natAbs := by rw [Int.natAbs_tmod]; exact Nat.mod_lt _ (by omega)
      have HE := Lib.hid (igcd_step7 x y)
      go_wp2
      go_round
      case rel => exact ⟨y, x.tmod y, rfl, by simp, by omega, by omega, by rw [HE.out, HG.out]⟩
      case measure => exact hlt
/-- at the head of a round of the outer loop, of the inner one -/
def SprO (n : Nat) (w : World) (v4 v5 : Value) (wr : World) : Prop := ∃ k : Nat, k ≤ n ∧ v4 = .int .i64 (prm n k : Nat) ∧ v5 = .int .i64 ((k : Int) + 1) ∧ Below w.heap.size w wr
def SprN (n k : Nat) (w : World) (v4 v6 : Value) (wr : World) : Prop := ∃ m : Nat, m ≤ n ∧ v4 = .int .i64 (prm n k + rowc (k + 1) m : Nat) ∧ v6 = .int .i64 ((m : Int) + 1) ∧ Below w.heap.size w wr
set_option maxHeartbeats 4000000 in
theorem sShortPrime_ (x : Int) (w : World) : Calls Try.prog 16 #[.int .i64 x] w (fun E' W' => E' = .returned (.tuple #[.int .i64 (mPrime x).1, .bool (mPrime x).2]) ∧ Below w.heap.size w W') := by
  have cI := fun W => l6In_ x 1 100 W
  cases hx : l6B x 1 100
  · rw [hx] at cI
    have HE := Lib.hid (show mPrime x = (0, false) by
      have : ¬ (1 ≤ x ∧ x ≤ 100) := by intro h; simp [l6B, h] at hx
      unfold mPrime; rw [if_neg this])
    have hM := mem_nil w; have hB := Below.refl w.heap.size w; have hC := True.intro
    go_enter Try.func16, Try.ntmps16
    go_wp2_with (go_at_call 34; refine (cI _).mono ?_; rintro e w' ⟨rfl, rfl⟩)
    go_ret2
    exact ⟨by rw [HE.out]; rfl, by (repeat' (first | (with_reducible exact hB) | (with_reducible exact Below.refl _ _) | (with_reducible refine Below.alloc ?_ ?_ _) | (with_reducible refine Below.setCell ?_ ?_ _) | (with_reducible refine Below.drew ?_) | (with_reducible refine below_drewN ?_ _) | (with_reducible exact Nat.le_refl _) | (with_reducible exact hB.size) | (simp [go_sem]; done) | (have := hB.size; simp [go_sem]; omega)))⟩
  · rw [hx] at cI
    have h : 1 ≤ x ∧ x ≤ 100 := by simpa [l6B] using hx
    have HE := Lib.hid (show mPrime x = (((prm x.toNat x.toNat : Nat) : Int), true) by unfold mPrime; rw [if_pos h])
    obtain ⟨n, rfl⟩ : ∃ n : Nat, x = n := ⟨x.toNat, by omega⟩
    rw [Int.toNat_natCast] at HE
    have h2 : n ≤ 100 := by omega
    clear h hx
    have hM := mem_nil w; have hB := Below.refl w.heap.size w; have hC := True.intro
    go_enter Try.func16, Try.ntmps16
    go_wp2_with (go_at_call 34; refine (cI _).mono ?_; rintro e w' ⟨rfl, rfl⟩)
    go_loopw [4, 5] (fun v4 v5 wr => SprO n w v4 v5 wr) (fun _ v5 _ => n + 1 - (intOf v5).toNat)
    case atStart => exact ⟨0, Nat.zero_le _, rfl, rfl, by (repeat' (first | (with_reducible exact hB) | (with_reducible exact Below.refl _ _) | (with_reducible refine Below.alloc ?_ ?_ _) | (with_reducible refine Below.setCell ?_ ?_ _) | (with_reducible refine Below.drew ?_) | (with_reducible refine below_drewN ?_ _) | (with_reducible exact Nat.le_refl _) | (with_reducible exact hB.size) | (simp [go_sem]; done) | (have := hB.size; simp [go_sem]; omega)))⟩
    case round =>
      obtain ⟨k, hk, rfl, rfl, hB'⟩ := hrel
      clear hB hM hC cI
      have hB := hB'
      clear hB'
      have hle := prm_le n k
      have hle2 : k * n ≤ 100 * 100 := Nat.mul_le_mul (by omega) h2
      by_cases hlt : k < n
      · have e0 : decide ((k : Int) + 1 ≤ (n : Int)) = true := decide_eq_true (by omega)
        have HF := Lib.hid (show prm n (k + 1) = prm n k + rowc (k + 1) n from rfl)
        go_wp2_with fail
        go_loopw [4, 6] (fun v4 v6 wr => SprN n k w v4 v6 wr) (fun _ v6 _ => n + 1 - (intOf v6).toNat)
        case atStart => exact ⟨0, Nat.zero_le _, rfl, rfl, by (repeat' (first | (with_reducible exact hB) | (with_reducible exact Below.refl _ _) | (with_reducible refine Below.alloc ?_ ?_ _) | (with_reducible refine Below.setCell ?_ ?_ _) | (with_reducible refine Below.drew ?_) | (with_reducible refine below_drewN ?_ _) | (with_reducible exact Nat.le_refl _) | (with_reducible exact hB.size) | (simp [go_sem]; done) | (have := hB.size; simp [go_sem]; omega)))⟩
        case round =>
          obtain ⟨m, hm, rfl, rfl, hB'⟩ := hrel
          clear hB
          have hB := hB'
          clear hB'
          have hr := rowc_le (k + 1) m
          by_cases hlm : m < n
          · have e1 : decide ((m : Int) + 1 ≤ (n : Int)) = true := decide_eq_true (by omega)
            have HS := Lib.hid (show rowc (k + 1) (m + 1) = rowc (k + 1) m + cpr (k + 1) (m + 1) from rfl)
            have c1 := fun W => igcd7_ ((k + 1 : Nat) : Int) ((m + 1 : Nat) : Int) (by omega) (by omega) W
            obtain ⟨g, hgE⟩ : ∃ g, Nat.gcd (k + 1) (m + 1) = g := ⟨_, rfl⟩
            rw [show Int.gcd ((k + 1 : Nat) : Int) ((m + 1 : Nat) : Int) = Nat.gcd (k + 1) (m + 1) from rfl, hgE] at c1
            rw [show ((k + 1 : Nat) : Int) = (k : Int) + 1 by omega, show ((m + 1 : Nat) : Int) = (m : Int) + 1 by omega] at c1
            have HC := Lib.hid (show cpr (k + 1) (m + 1) = cond (g == 1) 1 0 by rw [cpr, hgE])
            clear hgE
            by_cases hg : g = 1
            · subst hg
              have HD := Lib.hid (show cpr (k + 1) (m + 1) = 1 by rw [HC.out]; rfl)
              go_wp2_with (go_at_call 35; refine (c1 _).mono ?_; rintro e w' ⟨rfl, rfl⟩)
              go_roundw
              case rel => exact ⟨m + 1, by omega, by rw [HS.out, HD.out]; go_num, by go_num, by (repeat' (first | (with_reducible exact hB) | (with_reducible exact Below.refl _ _) | (with_reducible refine Below.alloc ?_ ?_ _) | (with_reducible refine Below.setCell ?_ ?_ _) | (with_reducible refine Below.drew ?_) | (with_reducible refine below_drewN ?_ _) | (with_reducible exact Nat.le_refl _) | (with_reducible exact hB.size) | (simp [go_sem]; done) | (have := hB.size; simp [go_sem]; omega)))⟩
              case measure => simp [intOf]; omega
            · have HD := Lib.hid (show cpr (k + 1) (m + 1) = 0 by rw [HC.out, show (g == 1) = false by simp [hg]]; rfl)
              have hg1 : ((g : Int) == 1) = false := by simp; omega
              have hg2 : ((g : Int) = 1) = False := by simp; omega
              go_wp2_with (go_at_call 35; refine (c1 _).mono ?_; rintro e w' ⟨rfl, rfl⟩)
              go_roundw
              case rel => exact ⟨m + 1, by omega, by rw [HS.out, HD.out]; go_num, by go_num, by (repeat' (first | (with_reducible exact hB) | (with_reducible exact Below.refl _ _) | (with_reducible refine Below.alloc ?_ ?_ _) | (with_reducible refine Below.setCell ?_ ?_ _) | (with_reducible refine Below.drew ?_) | (with_reducible refine below_drewN ?_ _) | (with_reducible exact Nat.le_refl _) | (with_reducible exact hB.size) | (simp [go_sem]; done) | (have := hB.size; simp [go_sem]; omega)))⟩
              case measure => simp [intOf]; omega
          · obtain rfl : m = n := by omega
            go_wp2_with fail
            go_roundw
            case rel => exact ⟨k + 1, by omega, by rw [HF.out], by go_num, by (repeat' (first | (with_reducible exact hB) | (with_reducible exact Below.refl _ _) | (with_reducible refine Below.alloc ?_ ?_ _) | (with_reducible refine Below.setCell ?_ ?_ _) | (with_reducible refine Below.drew ?_) | (with_reducible refine below_drewN ?_ _) | (with_reducible exact Nat.le_refl _) | (with_reducible exact hB.size) | (simp [go_sem]; done) | (have := hB.size; simp [go_sem]; omega)))⟩
            case measure => simp [intOf]; omega
      · obtain rfl : k = n := by omega
        go_wp2
        go_ret2
        exact ⟨by rw [HE.out]; rfl, by (repeat' (first | (with_reducible exact hB) | (with_reducible exact Below.refl _ _) | (with_reducible refine Below.alloc ?_ ?_ _) | (with_reducible refine Below.setCell ?_ ?_ _) | (with_reducible refine Below.drew ?_) | (with_reducible refine below_drewN ?_ _) | (with_reducible exact Nat.le_refl _) | (with_reducible exact hB.size) | (simp [go_sem]; done) | (have := hB.size; simp [go_sem]; omega)))⟩
set_option maxHeartbeats 4000000 in
theorem sShortFull_ (a b : Int) (w : World) : Calls Try.prog 19 #[.agg #[.int .i64 a, .int .i64 b]] w (fun E' W' => E' = .returned (.tuple #[.agg #[.int .i64 ((mFull ⟨a, b⟩).1).a, .int .i64 ((mFull ⟨a, b⟩).1).b, .int .i64 ((mFull ⟨a, b⟩).1).c, .int .i64 ((mFull ⟨a, b⟩).1).d], .bool (mFull ⟨a, b⟩).2]) ∧ Below w.heap.size w W') := by
  have c1 := fun W => sIn7_ a b W
  cases h : pB ⟨a, b⟩
  · rw [h] at c1
    have HE := Lib.hid (show mFull ⟨a, b⟩ = (zm, false) by simp [mFull, h])
    have hM := mem_nil w; have hB := Below.refl w.heap.size w; have hC := True.intro
    go_enter Try.func19, Try.ntmps19
    go_wp2_with (first | (go_at_call 29; refine (c1 _).mono ?_; rintro e w' ⟨rfl, hb⟩; apply after_call (w := w) hb; (focus ((repeat' (first | (with_reducible exact hM) | (with_reducible apply mem_alloc) | (with_reducible apply mem_set) | (with_reducible apply mem_drew) | (with_reducible apply mem_drewN))); done)); (focus ((repeat' (first | (with_reducible exact hB) | (with_reducible exact Below.refl _ _) | (with_reducible refine Below.alloc ?_ ?_ _) | (with_reducible refine Below.setCell ?_ ?_ _) | (with_reducible refine Below.drew ?_) | (with_reducible refine below_drewN ?_ _) | (with_reducible exact Nat.le_refl _) | (with_reducible exact hB.size) | (simp [go_sem]; done) | (have := hB.size; simp [go_sem]; omega))); done)); (focus ((repeat' (first | (with_reducible exact hB) | (with_reducible exact Below.refl _ _) | (with_reducible refine Below.alloc ?_ ?_ _) | (with_reducible refine Below.setCell ?_ ?_ _) | (with_reducible refine Below.drew ?_) | (with_reducible refine below_drewN ?_ _) | (with_reducible exact Nat.le_refl _) | (with_reducible exact hB.size) | (simp [go_sem]; done) | (have := hB.size; simp [go_sem]; omega))); done)); clear hM hB hb; intro hM hB; (try clear hC); have hC := mem_facts hM; simp at hC) | (go_at_call 37; refine (l1None_ _).mono ?_; rintro e w' ⟨rfl, hb⟩; apply after_call (w := w) hb; (focus ((repeat' (first | (with_reducible exact hM) | (with_reducible apply mem_alloc) | (with_reducible apply mem_set) | (with_reducible apply mem_drew) | (with_reducible apply mem_drewN))); done)); (focus ((repeat' (first | (with_reducible exact hB) | (with_reducible exact Below.refl _ _) | (with_reducible refine Below.alloc ?_ ?_ _) | (with_reducible refine Below.setCell ?_ ?_ _) | (with_reducible refine Below.drew ?_) | (with_reducible refine below_drewN ?_ _) | (with_reducible exact Nat.le_refl _) | (with_reducible exact hB.size) | (simp [go_sem]; done) | (have := hB.size; simp [go_sem]; omega))); done)); (focus ((repeat' (first | (with_reducible exact hB) | (with_reducible exact Below.refl _ _) | (with_reducible refine Below.alloc ?_ ?_ _) | (with_reducible refine Below.setCell ?_ ?_ _) | (with_reducible refine Below.drew ?_) | (with_reducible refine below_drewN ?_ _) | (with_reducible exact Nat.le_refl _) | (with_reducible exact hB.size) | (simp [go_sem]; done) | (have := hB.size; simp [go_sem]; omega))); done)); clear hM hB hb; intro hM hB; (try clear hC); have hC := mem_facts hM; simp at hC))
    refine bodyPost_ret (by (simp [results, Try.results19, go_sem, *]; try rfl)) rfl ?_
    exact ⟨by rw [HE.out]; rfl, by (repeat' (first | (with_reducible exact hB) | (with_reducible exact Below.refl _ _) | (with_reducible refine Below.alloc ?_ ?_ _) | (with_reducible refine Below.setCell ?_ ?_ _) | (with_reducible refine Below.drew ?_) | (with_reducible refine below_drewN ?_ _) | (with_reducible exact Nat.le_refl _) | (with_reducible exact hB.size) | (simp [go_sem]; done) | (have := hB.size; simp [go_sem]; omega)))⟩
  · rw [h] at c1
    obtain ⟨k1, k2⟩ := pB_iff.1 h
    dsimp only at k1 k2
    have c2 := fun W => igcd7_ a b (by omega) (by omega) W
    have hs := egs_spec a b
    have HE := Lib.hid (show mFull ⟨a, b⟩ = if (Int.gcd a b : Nat) = 1 then (fullU a b (egs a b).2.1, true) else (zm, false) by simp [mFull, h])
    by_cases hg : Int.gcd a b = 1
    · have HF := Lib.hid (HE.out.trans (if_pos hg))
      clear HE
      rw [hg] at c2
      have hu := hs.2
      rw [hs.1, hg] at hu
      generalize (egs a b).2.1 = u at *
      generalize (egs a b).2.2 = v at *
      clear hs
      by_cases h0 : b = 0
      · subst h0
        have HG := Lib.hid (show fullU a 0 u = ⟨a, 0, 0, a⟩ from if_pos rfl)
        have hM := mem_nil w; have hB := Below.refl w.heap.size w; have hC := True.intro
        go_enter Try.func19, Try.ntmps19
        go_wp2_with (first | (go_at_call 29; refine (c1 _).mono ?_; rintro e w' ⟨rfl, hb⟩; apply after_call (w := w) hb; (focus ((repeat' (first | (with_reducible exact hM) | (with_reducible apply mem_alloc) | (with_reducible apply mem_set) | (with_reducible apply mem_drew) | (with_reducible apply mem_drewN))); done)); (focus ((repeat' (first | (with_reducible exact hB) | (with_reducible exact Below.refl _ _) | (with_reducible refine Below.alloc ?_ ?_ _) | (with_reducible refine Below.setCell ?_ ?_ _) | (with_reducible refine Below.drew ?_) | (with_reducible refine below_drewN ?_ _) | (with_reducible exact Nat.le_refl _) | (with_reducible exact hB.size) | (simp [go_sem]; done) | (have := hB.size; simp [go_sem]; omega))); done)); (focus ((repeat' (first | (with_reducible exact hB) | (with_reducible exact Below.refl _ _) | (with_reducible refine Below.alloc ?_ ?_ _) | (with_reducible refine Below.setCell ?_ ?_ _) | (with_reducible refine Below.drew ?_) | (with_reducible refine below_drewN ?_ _) | (with_reducible exact Nat.le_refl _) | (with_reducible exact hB.size) | (simp [go_sem]; done) | (have := hB.size; simp [go_sem]; omega))); done)); clear hM hB hb; intro hM hB; (try clear hC); have hC := mem_facts hM; simp at hC) | (go_at_call 35; refine (c2 _).mono ?_; rintro e w' ⟨rfl, rfl⟩))
        refine bodyPost_ret (by (simp [results, Try.results19, go_sem, *]; try rfl)) rfl ?_
        exact ⟨by rw [HF.out, HG.out], by (repeat' (first | (with_reducible exact hB) | (with_reducible exact Below.refl _ _) | (with_reducible refine Below.alloc ?_ ?_ _) | (with_reducible refine Below.setCell ?_ ?_ _) | (with_reducible refine Below.drew ?_) | (with_reducible refine below_drewN ?_ _) | (with_reducible exact Nat.le_refl _) | (with_reducible exact hB.size) | (simp [go_sem]; done) | (have := hB.size; simp [go_sem]; omega)))⟩
      · have HG := Lib.hid (show fullU a b u = ⟨a, b, (a * (u % absI b) - 1).tdiv b, u % absI b⟩ from if_neg h0)
        obtain ⟨⟨q0, q1⟩, q2, q3⟩ := fullU_bd u k1 h0 k2
        have hA := absI_bd b
        have HL := Lib.hid (show ∀ d, 0 ≤ d → b ∣ a * d - 1 → u % absI b ≤ d from fun d hd => full_least hu h0 hd)
        have HD := Lib.hid (full_dvd hu)
        have hb0 : (b = 0) = False := by simp [h0]
        have hb1 : (b == 0) = false := by simp [h0]
        have hDn : u % absI b = ((u % absI b).toNat : Int) := by omega
        generalize hDD : (u % absI b).toNat = D at *
        rw [hDn] at HG HL HD q1 q2 q3
        clear q0 hu hDn hDD
        have hM := mem_nil w; have hB := Below.refl w.heap.size w; have hC := True.intro
        go_enter Try.func19, Try.ntmps19
        go_wp2_with (first | (go_at_call 29; refine (c1 _).mono ?_; rintro e w' ⟨rfl, hb⟩; apply after_call (w := w) hb; (focus ((repeat' (first | (with_reducible exact hM) | (with_reducible apply mem_alloc) | (with_reducible apply mem_set) | (with_reducible apply mem_drew) | (with_reducible apply mem_drewN))); done)); (focus ((repeat' (first | (with_reducible exact hB) | (with_reducible exact Below.refl _ _) | (with_reducible refine Below.alloc ?_ ?_ _) | (with_reducible refine Below.setCell ?_ ?_ _) | (with_reducible refine Below.drew ?_) | (with_reducible refine below_drewN ?_ _) | (with_reducible exact Nat.le_refl _) | (with_reducible exact hB.size) | (simp [go_sem]; done) | (have := hB.size; simp [go_sem]; omega))); done)); (focus ((repeat' (first | (with_reducible exact hB) | (with_reducible exact Below.refl _ _) | (with_reducible refine Below.alloc ?_ ?_ _) | (with_reducible refine Below.setCell ?_ ?_ _) | (with_reducible refine Below.drew ?_) | (with_reducible refine below_drewN ?_ _) | (with_reducible exact Nat.le_refl _) | (with_reducible exact hB.size) | (simp [go_sem]; done) | (have := hB.size; simp [go_sem]; omega))); done)); clear hM hB hb; intro hM hB; (try clear hC); have hC := mem_facts hM; simp at hC) | (go_at_call 35; refine (c2 _).mono ?_; rintro e w' ⟨rfl, rfl⟩))
        go_loop [4] (fun v4 => ∃ d : Nat, d ≤ D ∧ v4 = .int .i64 d) (fun v4 => D - (intOf v4).toNat)
        case atStart => exact ⟨0, Nat.zero_le _, rfl⟩
        case round =>
          obtain ⟨d, hd, rfl⟩ := hrel
          have m1 := mul_bd (x := a) (y := (d : Int)) (a := 10000) (b := 10000) k1 (by omega)
          have w1 : wrap64 (a * (d : Int)) = a * d := wrap_mid (by omega)
          have w2 : wrap64 (a * (d : Int) - 1) = a * d - 1 := wrap_mid (by omega)
          by_cases hr : (a * (d : Int) - 1).tmod b = 0
          · obtain rfl : d = D := by
              have := HL.out d (by omega) (Int.dvd_of_tmod_eq_zero hr)
              omega
            have w3 : wrap64 ((a * (d : Int) - 1).tdiv b) = (a * (d : Int) - 1).tdiv b := wrap_mid (by omega)
            clear HL HD m1 q1 q2 q3
            generalize hC0 : (a * (d : Int) - 1).tdiv b = c at *
            go_wp2_with fail
            go_region
            go_wp2_with fail
            refine bodyPost_ret (by (simp [results, Try.results19, go_sem, *]; try rfl)) rfl ?_
            exact ⟨by rw [HF.out, HG.out], by (repeat' (first | (with_reducible exact hB) | (with_reducible exact Below.refl _ _) | (with_reducible refine Below.alloc ?_ ?_ _) | (with_reducible refine Below.setCell ?_ ?_ _) | (with_reducible refine Below.drew ?_) | (with_reducible refine below_drewN ?_ _) | (with_reducible exact Nat.le_refl _) | (with_reducible exact hB.size) | (simp [go_sem]; done) | (have := hB.size; simp [go_sem]; omega)))⟩
          · have hne : d ≠ D := by
              rintro rfl
              exact hr (Int.tmod_eq_zero_of_dvd HD.out)
            have hr1 : ((a * (d : Int) - 1).tmod b == 0) = false := by simp [hr]
            have hr2 : ((a * (d : Int) - 1).tmod b != 0) = true := by simp [hr]
            have hr3 : ((a * (d : Int) - 1).tmod b = 0) = False := by simp [hr]
            clear HL HD hr
            go_wp2_with fail
            go_round
            case rel => exact ⟨d + 1, by omega, by go_num⟩
            case measure => simp [intOf]; omega
    · have HF := Lib.hid (HE.out.trans (if_neg hg))
      clear HE hs
      generalize Int.gcd a b = g at *
      have hg1 : ((g : Int) == 1) = false := by simp; omega
      have hg2 : ((g : Int) = 1) = False := by simp; omega
      have hg3 : ((g : Int) != 1) = true := by simp; omega
      have hM := mem_nil w; have hB := Below.refl w.heap.size w; have hC := True.intro
      go_enter Try.func19, Try.ntmps19
      go_wp2_with (first | (go_at_call 29; refine (c1 _).mono ?_; rintro e w' ⟨rfl, hb⟩; apply after_call (w := w) hb; (focus ((repeat' (first | (with_reducible exact hM) | (with_reducible apply mem_alloc) | (with_reducible apply mem_set) | (with_reducible apply mem_drew) | (with_reducible apply mem_drewN))); done)); (focus ((repeat' (first | (with_reducible exact hB) | (with_reducible exact Below.refl _ _) | (with_reducible refine Below.alloc ?_ ?_ _) | (with_reducible refine Below.setCell ?_ ?_ _) | (with_reducible refine Below.drew ?_) | (with_reducible refine below_drewN ?_ _) | (with_reducible exact Nat.le_refl _) | (with_reducible exact hB.size) | (simp [go_sem]; done) | (have := hB.size; simp [go_sem]; omega))); done)); (focus ((repeat' (first | (with_reducible exact hB) | (with_reducible exact Below.refl _ _) | (with_reducible refine Below.alloc ?_ ?_ _) | (with_reducible refine Below.setCell ?_ ?_ _) | (with_reducible refine Below.drew ?_) | (with_reducible refine below_drewN ?_ _) | (with_reducible exact Nat.le_refl _) | (with_reducible exact hB.size) | (simp [go_sem]; done) | (have := hB.size; simp [go_sem]; omega))); done)); clear hM hB hb; intro hM hB; (try clear hC); have hC := mem_facts hM; simp at hC) | (go_at_call 35; refine (c2 _).mono ?_; rintro e w' ⟨rfl, rfl⟩) | (go_at_call 37; refine (l1None_ _).mono ?_; rintro e w' ⟨rfl, hb⟩; apply after_call (w := w) hb; (focus ((repeat' (first | (with_reducible exact hM) | (with_reducible apply mem_alloc) | (with_reducible apply mem_set) | (with_reducible apply mem_drew) | (with_reducible apply mem_drewN))); done)); (focus ((repeat' (first | (with_reducible exact hB) | (with_reducible exact Below.refl _ _) | (with_reducible refine Below.alloc ?_ ?_ _) | (with_reducible refine Below.setCell ?_ ?_ _) | (with_reducible refine Below.drew ?_) | (with_reducible refine below_drewN ?_ _) | (with_reducible exact Nat.le_refl _) | (with_reducible exact hB.size) | (simp [go_sem]; done) | (have := hB.size; simp [go_sem]; omega))); done)); (focus ((repeat' (first | (with_reducible exact hB) | (with_reducible exact Below.refl _ _) | (with_reducible refine Below.alloc ?_ ?_ _) | (with_reducible refine Below.setCell ?_ ?_ _) | (with_reducible refine Below.drew ?_) | (with_reducible refine below_drewN ?_ _) | (with_reducible exact Nat.le_refl _) | (with_reducible exact hB.size) | (simp [go_sem]; done) | (have := hB.size; simp [go_sem]; omega))); done)); clear hM hB hb; intro hM hB; (try clear hC); have hC := mem_facts hM; simp at hC))
      refine bodyPost_ret (by (simp [results, Try.results19, go_sem, *]; try rfl)) rfl ?_
      exact ⟨by rw [HF.out]; rfl, by (repeat' (first | (with_reducible exact hB) | (with_reducible exact Below.refl _ _) | (with_reducible refine Below.alloc ?_ ?_ _) | (with_reducible refine Below.setCell ?_ ?_ _) | (with_reducible refine Below.drew ?_) | (with_reducible refine below_drewN ?_ _) | (with_reducible exact Nat.le_refl _) | (with_reducible exact hB.size) | (simp [go_sem]; done) | (have := hB.size; simp [go_sem]; omega)))⟩
end Go.Proofs.Ytnbbgfcnbgjahaa

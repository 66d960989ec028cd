
/- The model's joins, walked: the same answers as the program's. No condition. -/
import Derived.Test.YtcnhjnmnflehhaaLaV
namespace Go.Proofs.Ytcnhjnmnflehhaa
open Go.RowKit

/-- some multiple of one number, taken off the greatest divisor, leaves a multiple of the other one -/
theorem bez_ex {p p' : Int} (h1 : 1 ≤ p) (h2 : 1 ≤ p') : ∃ x : Nat, (x : Int) < p' ∧ (((Int.gcd p p' : Nat) : Int) - x * p).tmod p' = 0 := by
  obtain ⟨u, v, h⟩ := bezout p.natAbs p'.natAbs
  have e1 : ((p.natAbs : Nat) : Int) = p := by omega
  have e2 : ((p'.natAbs : Nat) : Int) = p' := by omega
  rw [e1, e2] at h
  have hb1 := Int.emod_nonneg u (b := p') (by omega)
  have hb2 := Int.emod_lt_of_pos u (b := p') (by omega)
  refine ⟨(u % p').toNat, by omega, ?_⟩
  rw [tmod0_iff]
  have e3 : (((u % p').toNat : Nat) : Int) = u % p' := by omega
  rw [e3]
  have e4 := Int.mul_ediv_add_emod u p'
  generalize u % p' = r at *
  generalize u / p' = k at *
  have : ((Int.gcd p p' : Nat) : Int) - r * p = p' * (k * p + v) := by rw [Int.gcd, h]; grind
  rw [this, Int.mul_emod_right]
def SjR (m n f g : M) (b4 b5 : Nat) (X : Nat) (w : World) (v : Value) (wr : World) : Prop := ∃ x : Nat, v = .int .i64 x ∧ x ≤ X ∧ Mem wr (SmL m n f g w b4 b5) ∧ Below w.heap.size w wr
set_option maxRecDepth 100000 in
set_option maxHeartbeats 8000000 in
theorem sLatticeJoin_ (a b c d e f g h : Int) (w : World) : Calls Try.prog 31 #[.agg #[.int .i64 a, .int .i64 b, .int .i64 c, .int .i64 d], .agg #[.int .i64 e, .int .i64 f, .int .i64 g, .int .i64 h]] w (fun E' W' => E' = .returned (.tuple #[.agg #[.int .i64 ((mJoin ⟨a, b, c, d⟩ ⟨e, f, g, h⟩).1).a, .int .i64 ((mJoin ⟨a, b, c, d⟩ ⟨e, f, g, h⟩).1).b, .int .i64 ((mJoin ⟨a, b, c, d⟩ ⟨e, f, g, h⟩).1).c, .int .i64 ((mJoin ⟨a, b, c, d⟩ ⟨e, f, g, h⟩).1).d], .bool (mJoin ⟨a, b, c, d⟩ ⟨e, f, g, h⟩).2]) ∧ Below w.heap.size w W') := by
  have c1 := fun W => sBoth_ a b c d e f g h W
  have HE := Lib.hid (show mJoin ⟨a, b, c, d⟩ ⟨e, f, g, h⟩ = if ltB 100 ⟨a, b, c, d⟩ && ltB 100 ⟨e, f, g, h⟩ then (jnM (nf ⟨a, b, c, d⟩) (nf ⟨e, f, g, h⟩), true) else (zm, false) from rfl)
  cases ho : (ltB 100 ⟨a, b, c, d⟩ && ltB 100 ⟨e, f, g, h⟩)
  · rw [ho] at HE
    rw [ho] at c1
    clear ho
    have hM := mem_nil w; have hB := Below.refl w.heap.size w; have hC := True.intro
    go_enter Try.func31, Try.ntmps31
    go_wp2_with (first | (go_at_call 59; refine (c1 _).mono ?_; rintro e w' ⟨rfl, hb⟩; apply after_call (w := w) hb; (focus ((repeat' (first | (with_reducible exact hM) | (with_reducible apply mem_alloc) | (with_reducible apply mem_set) | (with_reducible apply mem_drew) | (with_reducible apply mem_drewN))); done)); (focus ((repeat' (first | (with_reducible exact hB) | (with_reducible exact Below.refl _ _) | (with_reducible refine Below.alloc ?_ ?_ _) | (with_reducible refine Below.setCell ?_ ?_ _) | (with_reducible refine Below.drew ?_) | (with_reducible refine below_drewN ?_ _) | (with_reducible exact Nat.le_refl _) | (with_reducible exact hB.size) | (simp [go_sem]; done) | (have := hB.size; simp [go_sem]; omega))); done)); (focus ((repeat' (first | (with_reducible exact hB) | (with_reducible exact Below.refl _ _) | (with_reducible refine Below.alloc ?_ ?_ _) | (with_reducible refine Below.setCell ?_ ?_ _) | (with_reducible refine Below.drew ?_) | (with_reducible refine below_drewN ?_ _) | (with_reducible exact Nat.le_refl _) | (with_reducible exact hB.size) | (simp [go_sem]; done) | (have := hB.size; simp [go_sem]; omega))); done)); clear hM hB hb; intro hM hB; (try clear hC); have hC := mem_facts hM; simp at hC) | (go_at_call 35; refine (l1None_ _).mono ?_; rintro e w' ⟨rfl, hb⟩; apply after_call (w := w) hb; (focus ((repeat' (first | (with_reducible exact hM) | (with_reducible apply mem_alloc) | (with_reducible apply mem_set) | (with_reducible apply mem_drew) | (with_reducible apply mem_drewN))); done)); (focus ((repeat' (first | (with_reducible exact hB) | (with_reducible exact Below.refl _ _) | (with_reducible refine Below.alloc ?_ ?_ _) | (with_reducible refine Below.setCell ?_ ?_ _) | (with_reducible refine Below.drew ?_) | (with_reducible refine below_drewN ?_ _) | (with_reducible exact Nat.le_refl _) | (with_reducible exact hB.size) | (simp [go_sem]; done) | (have := hB.size; simp [go_sem]; omega))); done)); (focus ((repeat' (first | (with_reducible exact hB) | (with_reducible exact Below.refl _ _) | (with_reducible refine Below.alloc ?_ ?_ _) | (with_reducible refine Below.setCell ?_ ?_ _) | (with_reducible refine Below.drew ?_) | (with_reducible refine below_drewN ?_ _) | (with_reducible exact Nat.le_refl _) | (with_reducible exact hB.size) | (simp [go_sem]; done) | (have := hB.size; simp [go_sem]; omega))); done)); clear hM hB hb; intro hM hB; (try clear hC); have hC := mem_facts hM; simp at hC))
    refine bodyPost_ret (by (simp [results, Try.results31, go_sem, *]; try rfl)) rfl ?_
    exact ⟨by rw [HE.out]; rfl, by (repeat' (first | (with_reducible exact hB) | (with_reducible exact Below.refl _ _) | (with_reducible refine Below.alloc ?_ ?_ _) | (with_reducible refine Below.setCell ?_ ?_ _) | (with_reducible refine Below.drew ?_) | (with_reducible refine below_drewN ?_ _) | (with_reducible exact Nat.le_refl _) | (with_reducible exact hB.size) | (simp [go_sem]; done) | (have := hB.size; simp [go_sem]; omega)))⟩
  · rw [ho] at HE
    rw [ho] at c1
    obtain ⟨ho1, ho2⟩ := Bool.and_eq_true_iff.1 ho
    clear ho
    obtain ⟨_, s1, _, _, _, _, _, r1, r2, r3, r4⟩ := ltM_rf ho1
    obtain ⟨_, s2, _, _, _, _, _, q1, q2, q3, q4⟩ := ltM_rf ho2
    have cF := fun W => sFormT_ a b c d ho1 W
    have cG := fun W => sFormT_ e f g h ho2 W
    clear ho1 ho2
    generalize nf ⟨a, b, c, d⟩ = l at *
    generalize nf ⟨e, f, g, h⟩ = n at *
    obtain ⟨p, q, r, t⟩ := l
    obtain ⟨p', q', r', t'⟩ := n
    dsimp only at cF cG r1 r2 r3 r4 q1 q2 q3 q4
    subst r3 q3
    have H1 := Lib.hid s1
    have H2 := Lib.hid s2
    clear s1 s2
    have kA := fun W => igcd_ p p' (by omega) (by omega) W
    have kB := fun W => igcd_ t t' (by omega) (by omega) W
    obtain ⟨X, hX1, hX2⟩ := bez_ex r1.1 q1.1
    have HX := Lib.hid hX2
    clear hX2
    have HA1 := Lib.hid (show ((Int.gcd p p' : Nat) : Int) ∣ p from Int.gcd_dvd_left ..)
    have HA2 := Lib.hid (show ((Int.gcd p p' : Nat) : Int) ∣ p' from Int.gcd_dvd_right ..)
    have hA3 : 1 ≤ Int.gcd p p' ∧ Int.gcd p p' ≤ 100 := by
      have k1 : 0 < Int.gcd p p' := by rw [Int.gcd]; exact Nat.gcd_pos_of_pos_left _ (by omega)
      have k2 : Int.gcd p p' ≤ 100 := gcd_le' (by omega) (by omega)
      omega
    have hT : Int.gcd t t' ≤ 100 := gcd_le' (by omega) (by omega)
    have HT := Lib.hid (show Int.gcd t t' = Nat.gcd t.natAbs t'.natAbs from rfl)
    generalize Int.gcd p p' = G at *
    generalize Int.gcd t t' = T at *
    have hp0 : (p' = 0) = False := by simp; omega
    have hp1 : (p' == 0) = false := by simp; omega
    have hg0 : (G = 0) = False := by simp; omega
    have hg1 : (G == 0) = false := by simp; omega
    have hM := mem_nil w; have hB := Below.refl w.heap.size w; have hC := True.intro
    go_enter Try.func31, Try.ntmps31
    go_upto_region 4 with (first | (go_at_call 59; refine (c1 _).mono ?_; rintro e w' ⟨rfl, hb⟩; apply after_call (w := w) hb; (focus ((repeat' (first | (with_reducible exact hM) | (with_reducible apply mem_alloc) | (with_reducible apply mem_set) | (with_reducible apply mem_drew) | (with_reducible apply mem_drewN))); done)); (focus ((repeat' (first | (with_reducible exact hB) | (with_reducible exact Below.refl _ _) | (with_reducible refine Below.alloc ?_ ?_ _) | (with_reducible refine Below.setCell ?_ ?_ _) | (with_reducible refine Below.drew ?_) | (with_reducible refine below_drewN ?_ _) | (with_reducible exact Nat.le_refl _) | (with_reducible exact hB.size) | (simp [go_sem]; done) | (have := hB.size; simp [go_sem]; omega))); done)); (focus ((repeat' (first | (with_reducible exact hB) | (with_reducible exact Below.refl _ _) | (with_reducible refine Below.alloc ?_ ?_ _) | (with_reducible refine Below.setCell ?_ ?_ _) | (with_reducible refine Below.drew ?_) | (with_reducible refine below_drewN ?_ _) | (with_reducible exact Nat.le_refl _) | (with_reducible exact hB.size) | (simp [go_sem]; done) | (have := hB.size; simp [go_sem]; omega))); done)); clear hM hB hb; intro hM hB; (try clear hC); have hC := mem_facts hM; simp at hC) | ((go_at_call 36; refine (cF _).mono ?_; rintro e w' ⟨rfl, hb⟩; apply after_call (w := w) hb; (focus ((repeat' (first | (with_reducible exact hM) | (with_reducible apply mem_alloc) | (with_reducible apply mem_set) | (with_reducible apply mem_drew) | (with_reducible apply mem_drewN))); done)); (focus ((repeat' (first | (with_reducible exact hB) | (with_reducible exact Below.refl _ _) | (with_reducible refine Below.alloc ?_ ?_ _) | (with_reducible refine Below.setCell ?_ ?_ _) | (with_reducible refine Below.drew ?_) | (with_reducible refine below_drewN ?_ _) | (with_reducible exact Nat.le_refl _) | (with_reducible exact hB.size) | (simp [go_sem]; done) | (have := hB.size; simp [go_sem]; omega))); done)); (focus ((repeat' (first | (with_reducible exact hB) | (with_reducible exact Below.refl _ _) | (with_reducible refine Below.alloc ?_ ?_ _) | (with_reducible refine Below.setCell ?_ ?_ _) | (with_reducible refine Below.drew ?_) | (with_reducible refine below_drewN ?_ _) | (with_reducible exact Nat.le_refl _) | (with_reducible exact hB.size) | (simp [go_sem]; done) | (have := hB.size; simp [go_sem]; omega))); done)); clear hM hB hb; intro hM hB; (try clear hC); have hC := mem_facts hM; simp at hC); clear cF))
    have hs1 : w.heap.size ≤ w'.heap.size := hB.size
    obtain ⟨w1, rfl⟩ : ∃ w1 : World, w1 = w' := ⟨_, rfl⟩
    go_upto_region 5 with ((go_at_call 36; refine (cG _).mono ?_; rintro e w' ⟨rfl, hb⟩; apply after_call (w := w) hb; (focus ((repeat' (first | (with_reducible exact hM) | (with_reducible apply mem_alloc) | (with_reducible apply mem_set) | (with_reducible apply mem_drew) | (with_reducible apply mem_drewN))); done)); (focus ((repeat' (first | (with_reducible exact hB) | (with_reducible exact Below.refl _ _) | (with_reducible refine Below.alloc ?_ ?_ _) | (with_reducible refine Below.setCell ?_ ?_ _) | (with_reducible refine Below.drew ?_) | (with_reducible refine below_drewN ?_ _) | (with_reducible exact Nat.le_refl _) | (with_reducible exact hB.size) | (simp [go_sem]; done) | (have := hB.size; simp [go_sem]; omega))); done)); (focus ((repeat' (first | (with_reducible exact hB) | (with_reducible exact Below.refl _ _) | (with_reducible refine Below.alloc ?_ ?_ _) | (with_reducible refine Below.setCell ?_ ?_ _) | (with_reducible refine Below.drew ?_) | (with_reducible refine below_drewN ?_ _) | (with_reducible exact Nat.le_refl _) | (with_reducible exact hB.size) | (simp [go_sem]; done) | (have := hB.size; simp [go_sem]; omega))); done)); clear hM hB hb; intro hM hB; (try clear hC); have hC := mem_facts hM; simp at hC); clear cG)
    have hs2 : w.heap.size ≤ w'.heap.size := hB.size
    obtain ⟨w2, rfl⟩ : ∃ w2 : World, w2 = w' := ⟨_, rfl⟩
    go_wp2_with ((go_at_call 53; refine (kA _).mono ?_; rintro e w' ⟨rfl, rfl⟩); clear kA)
    go_loopw [9] (fun v9 wr => SjR ⟨a, b, c, d⟩ ⟨e, f, g, h⟩ ⟨p, q, 0, t⟩ ⟨p', q', 0, t'⟩ w1.heap.size w2.heap.size X w v9 wr) (fun v9 _ => X - (intOf v9).toNat)
    case atStart =>
      refine ⟨0, rfl, Nat.zero_le _, ?_, by (repeat' (first | (with_reducible exact hB) | (with_reducible exact Below.refl _ _) | (with_reducible refine Below.alloc ?_ ?_ _) | (with_reducible refine Below.setCell ?_ ?_ _) | (with_reducible refine Below.drew ?_) | (with_reducible refine below_drewN ?_ _) | (with_reducible exact Nat.le_refl _) | (with_reducible exact hB.size) | (simp [go_sem]; done) | (have := hB.size; simp [go_sem]; omega)))⟩
      apply mem_drop 0
      · (repeat' (first | (with_reducible exact hM) | (with_reducible apply mem_alloc) | (with_reducible apply mem_set) | (with_reducible apply mem_drew) | (with_reducible apply mem_drewN)))
      · simp [SmL]
    case round =>
      obtain ⟨x, rfl, hx, hM', hB'⟩ := hrel
      unfold SmL at hM'
      dsimp only at hM'
      (try clear hC); clear hM hB; have hM := hM'; have hB := hB'; clear hM' hB'; have hC := mem_facts hM; simp at hC
      have m1 := mul_bd (x := (x : Int)) (y := p) (a := 100) (b := 100) ⟨by omega, by omega⟩ ⟨by omega, by omega⟩
      have w3 : wrap64 ((x : Int) * p) = (x : Int) * p := wrap_mid (by omega)
      have w4 : wrap64 ((G : Int) - (x : Int) * p) = (G : Int) - (x : Int) * p := wrap_mid (by omega)
      by_cases hR : ((G : Int) - (x : Int) * p).tmod p' = 0
      · have hd : p' ∣ (G : Int) - (x : Int) * p := Int.dvd_of_tmod_eq_zero hR
        obtain ⟨y, hy⟩ := hd
        have hq : ((G : Int) - (x : Int) * p).tdiv p' = y := by rw [hy, Int.mul_tdiv_cancel_left _ (by omega)]
        have hyb : -20000 ≤ y ∧ y ≤ 20000 := by
          have k1 : (y).natAbs ≤ ((G : Int) - (x : Int) * p).natAbs := by
            rw [hy, Int.natAbs_mul]
            exact Nat.le_mul_of_pos_left _ (by omega)
          omega
        have hxy : (G : Int) = (x : Int) * p + y * p' := by grind
        have m2 := mul_bd (x := (x : Int)) (y := q) (a := 100) (b := 100) ⟨by omega, by omega⟩ ⟨by omega, by omega⟩
        have m3 := mul_bd (x := y) (y := q') (a := 20000) (b := 100) ⟨by omega, by omega⟩ ⟨by omega, by omega⟩
        have m4 := mul_bd (x := p) (y := q') (a := 100) (b := 100) ⟨by omega, by omega⟩ ⟨by omega, by omega⟩
        have m5 := mul_bd (x := p') (y := q) (a := 100) (b := 100) ⟨by omega, by omega⟩ ⟨by omega, by omega⟩
        have hKb : -20000 ≤ (p * q' - p' * q).tdiv (G : Int) ∧ (p * q' - p' * q).tdiv (G : Int) ≤ 20000 := by
          have k1 : ((p * q' - p' * q).tdiv (G : Int)).natAbs ≤ (p * q' - p' * q).natAbs := by rw [Int.natAbs_tdiv]; exact Nat.div_le_self _ _
          omega
        have kC : ∀ W : World, Calls Try.prog 53 #[.int .i64 T, .int .i64 (IntKind.i64.wrap ((IntKind.i64.wrap (IntKind.i64.wrap (p * q') - IntKind.i64.wrap (p' * q))).tdiv (G : Int)))] W (fun E' W' => E' = .returned (.int .i64 (Int.gcd T ((p * q' - p' * q).tdiv (G : Int)) : Nat)) ∧ W = W') := by
          intro W
          rw [iw, iw, iw, iw, wrap_mid (x := p * q') (by omega), wrap_mid (x := p' * q) (by omega), wrap_mid (x := p * q' - p' * q) (by omega), wrap_mid (by omega)]
          exact igcd_ (T : Int) _ (by omega) (by omega) W
        have hjs := join_s H1.out H2.out (a := (G : Int)) (x := (x : Int)) (y := y) (by omega) HA1.out HA2.out hxy (e := Int.gcd T ((p * q' - p' * q).tdiv (G : Int))) (by rw [Int.gcd, Int.natAbs_natCast, HT.out])
        obtain ⟨j1, j2, j3, j4⟩ := hjs
        dsimp only at j2 j3 j4
        have w5 : wrap64 ((x : Int) * q) = (x : Int) * q := wrap_mid (by omega)
        have w6 : wrap64 (y * q') = y * q' := wrap_mid (by omega)
        have w7 : wrap64 ((x : Int) * q + y * q') = (x : Int) * q + y * q' := wrap_mid (by omega)
        have w8 : wrap64 y = y := wrap_mid (by omega)
        have hb : -2010000 ≤ (x : Int) * q + y * q' ∧ (x : Int) * q + y * q' ≤ 2010000 := by omega
        generalize hBe : (x : Int) * q + y * q' = B at *
        generalize Int.gcd T ((p * q' - p' * q).tdiv (G : Int)) = E at *
        have hcl : clG ⟨(G : Int), B, 0, (E : Int)⟩ ⟨(G : Int), B, 0, (E : Int)⟩ := by
          have g1 := absI_nat (G : Int)
          have g2 := absI_nat (E : Int)
          have g3 : absI B ≤ 2010000 := by unfold absI; split <;> omega
          have e0 : absI 0 = 0 := rfl
          have g4 := mul_bd (x := absI (G : Int)) (y := absI (E : Int)) (a := 100) (b := 100) ⟨by omega, by omega⟩ ⟨by omega, by omega⟩
          exact ⟨LatE.refl _, rfl, by dsimp only; omega, by rw [e0]; omega, by dsimp only; rw [e0, Int.zero_mul]; omega, by dsimp only; omega, by dsimp only; omega⟩
        have cL := fun W => sForm_ (G : Int) B 0 (E : Int) hcl j3 W
        rw [j4] at cL
        have HJ := Lib.hid (show mJoin ⟨a, b, c, d⟩ ⟨e, f, g, h⟩ = (jnM ⟨p, q, 0, t⟩ ⟨p', q', 0, t'⟩, true) from HE.out)
        clear m1 m2 m3 m4 m5 hKb hxy hyb j1 j2 j3 j4 hcl hb HE hx hX1 hT hA3 hy r1 r2 r4 q1 q2 q4
        generalize jnM ⟨p, q, 0, t⟩ ⟨p', q', 0, t'⟩ = J at *
        go_wp2_with fail
        (refine wp_region_T2 (fun W' => ((W'.cell? ⟨w1.heap.size, 0, none⟩ = some (.int .i64 p) ∧ W'.cell? ⟨w1.heap.size, 1, none⟩ = some (.int .i64 q) ∧ W'.cell? ⟨w1.heap.size, 2, none⟩ = some (.int .i64 0) ∧ W'.cell? ⟨w1.heap.size, 3, none⟩ = some (.int .i64 t)) ∧ (W'.cell? ⟨w2.heap.size, 0, none⟩ = some (.int .i64 p') ∧ W'.cell? ⟨w2.heap.size, 1, none⟩ = some (.int .i64 q') ∧ W'.cell? ⟨w2.heap.size, 2, none⟩ = some (.int .i64 0) ∧ W'.cell? ⟨w2.heap.size, 3, none⟩ = some (.int .i64 t')))) 100 (by kernel_rfl) ?_ ?_; (focus (simp [*, go_sem]; done)); intro hS)
        (refine wpT_take (i := 0) (oi := ?_) (v := ?_) hS ?_ ?_ ?_ ?_ ?_ ?_; rotate_left 2; (focus (simp only [List.getElem?_toArray, List.getElem?_cons_zero]; exact rfl)); (focus (kernel_rfl)); (focus (rfl)); (focus (intro w' hW; (try dsimp only at hW); go_simp; (try with_reducible rfl); done)); (focus (exact fun _ _ _ h => h)); (try simp only [Act.put, List.setIfInBounds_toArray, List.set_cons_zero, List.set_cons_succ])); (refine wpT_take (i := 1) (oi := ?_) (v := ?_) hS ?_ ?_ ?_ ?_ ?_ ?_; rotate_left 2; (focus (simp only [List.getElem?_toArray, List.getElem?_cons_zero, List.getElem?_cons_succ]; exact rfl)); (focus (kernel_rfl)); (focus (rfl)); (focus (intro w' hW; (try dsimp only at hW); go_simp; (try with_reducible rfl); done)); (focus (exact fun _ _ _ h => h)); (try simp only [Act.put, List.setIfInBounds_toArray, List.set_cons_zero, List.set_cons_succ])); (refine wpT_take (i := 2) (oi := ?_) (v := ?_) hS ?_ ?_ ?_ ?_ ?_ ?_; rotate_left 2; (focus (simp only [List.getElem?_toArray, List.getElem?_cons_zero, List.getElem?_cons_succ]; exact rfl)); (focus (kernel_rfl)); (focus (rfl)); (focus (intro w' hW; (try dsimp only at hW); go_simp; (try with_reducible rfl); done)); (focus (exact fun _ _ _ h => h)); (try simp only [Act.put, List.setIfInBounds_toArray, List.set_cons_zero, List.set_cons_succ])); (refine wpT_take (i := 3) (oi := ?_) (v := ?_) hS ?_ ?_ ?_ ?_ ?_ ?_; rotate_left 2; (focus (simp only [List.getElem?_toArray, List.getElem?_cons_zero, List.getElem?_cons_succ]; exact rfl)); (focus (kernel_rfl)); (focus (rfl)); (focus (intro w' hW; (try dsimp only at hW); go_simp; (try with_reducible rfl); done)); (focus (exact fun _ _ _ h => h)); (try simp only [Act.put, List.setIfInBounds_toArray, List.set_cons_zero, List.set_cons_succ])); (refine wpT_take (i := 5) (oi := ?_) (v := ?_) hS ?_ ?_ ?_ ?_ ?_ ?_; rotate_left 2; (focus (simp only [List.getElem?_toArray, List.getElem?_cons_zero, List.getElem?_cons_succ]; exact rfl)); (focus (kernel_rfl)); (focus (rfl)); (focus (intro w' hW; (try dsimp only at hW); go_simp; (try with_reducible rfl); done)); (focus (exact fun _ _ _ h => h)); (try simp only [Act.put, List.setIfInBounds_toArray, List.set_cons_zero, List.set_cons_succ])); (refine wpT_take (i := 6) (oi := ?_) (v := ?_) hS ?_ ?_ ?_ ?_ ?_ ?_; rotate_left 2; (focus (simp only [List.getElem?_toArray, List.getElem?_cons_zero, List.getElem?_cons_succ]; exact rfl)); (focus (kernel_rfl)); (focus (rfl)); (focus (intro w' hW; (try dsimp only at hW); go_simp; (try with_reducible rfl); done)); (focus (exact fun _ _ _ h => h)); (try simp only [Act.put, List.setIfInBounds_toArray, List.set_cons_zero, List.set_cons_succ])); (refine wpT_take (i := 7) (oi := ?_) (v := ?_) hS ?_ ?_ ?_ ?_ ?_ ?_; rotate_left 2; (focus (simp only [List.getElem?_toArray, List.getElem?_cons_zero, List.getElem?_cons_succ]; exact rfl)); (focus (kernel_rfl)); (focus (rfl)); (focus (intro w' hW; (try dsimp only at hW); go_simp; (try with_reducible rfl); done)); (focus (exact fun _ _ _ h => h)); (try simp only [Act.put, List.setIfInBounds_toArray, List.set_cons_zero, List.set_cons_succ])); (refine wpT_take (i := 8) (oi := ?_) (v := ?_) hS ?_ ?_ ?_ ?_ ?_ ?_; rotate_left 2; (focus (simp only [List.getElem?_toArray, List.getElem?_cons_zero, List.getElem?_cons_succ]; exact rfl)); (focus (kernel_rfl)); (focus (rfl)); (focus (intro w' hW; (try dsimp only at hW); go_simp; (try with_reducible rfl); done)); (focus (exact fun _ _ _ h => h)); (try simp only [Act.put, List.setIfInBounds_toArray, List.set_cons_zero, List.set_cons_succ])); (refine wpT_take (i := 9) (oi := ?_) (v := ?_) hS ?_ ?_ ?_ ?_ ?_ ?_; rotate_left 2; (focus (simp only [List.getElem?_toArray, List.getElem?_cons_zero, List.getElem?_cons_succ]; exact rfl)); (focus (kernel_rfl)); (focus (rfl)); (focus (intro w' hW; (try dsimp only at hW); go_simp; (try with_reducible rfl); done)); (focus (exact fun _ _ _ h => h)); (try simp only [Act.put, List.setIfInBounds_toArray, List.set_cons_zero, List.set_cons_succ])); (refine wpT_take (i := 10) (oi := ?_) (v := ?_) hS ?_ ?_ ?_ ?_ ?_ ?_; rotate_left 2; (focus (simp only [List.getElem?_toArray, List.getElem?_cons_zero, List.getElem?_cons_succ]; exact rfl)); (focus (kernel_rfl)); (focus (rfl)); (focus (intro w' hW; (try dsimp only at hW); go_simp; (try with_reducible rfl); done)); (focus (exact fun _ _ _ h => h)); (try simp only [Act.put, List.setIfInBounds_toArray, List.set_cons_zero, List.set_cons_succ])); (refine wpT_take (i := 11) (oi := ?_) (v := ?_) hS ?_ ?_ ?_ ?_ ?_ ?_; rotate_left 2; (focus (simp only [List.getElem?_toArray, List.getElem?_cons_zero, List.getElem?_cons_succ]; exact rfl)); (focus (kernel_rfl)); (focus (rfl)); (focus (intro w' hW; (try dsimp only at hW); go_simp; (try with_reducible rfl); done)); (focus (exact fun _ _ _ h => h)); (try simp only [Act.put, List.setIfInBounds_toArray, List.set_cons_zero, List.set_cons_succ])); (refine wpT_take (i := 12) (oi := ?_) (v := ?_) hS ?_ ?_ ?_ ?_ ?_ ?_; rotate_left 2; (focus (simp only [List.getElem?_toArray, List.getElem?_cons_zero, List.getElem?_cons_succ]; exact rfl)); (focus (kernel_rfl)); (focus (rfl)); (focus (intro w' hW; (try dsimp only at hW); go_simp; (try with_reducible rfl); done)); (focus (exact fun _ _ _ h => h)); (try simp only [Act.put, List.setIfInBounds_toArray, List.set_cons_zero, List.set_cons_succ])); (refine wpT_take (i := 13) (oi := ?_) (v := ?_) hS ?_ ?_ ?_ ?_ ?_ ?_; rotate_left 2; (focus (simp only [List.getElem?_toArray, List.getElem?_cons_zero, List.getElem?_cons_succ]; exact rfl)); (focus (kernel_rfl)); (focus (rfl)); (focus (intro w' hW; (try dsimp only at hW); go_simp; (try with_reducible rfl); done)); (focus (exact fun _ _ _ h => h)); (try simp only [Act.put, List.setIfInBounds_toArray, List.set_cons_zero, List.set_cons_succ])); (refine wpT_take (i := 14) (oi := ?_) (v := ?_) hS ?_ ?_ ?_ ?_ ?_ ?_; rotate_left 2; (focus (simp only [List.getElem?_toArray, List.getElem?_cons_zero, List.getElem?_cons_succ]; exact rfl)); (focus (kernel_rfl)); (focus (rfl)); (focus (intro w' hW; (try dsimp only at hW); go_simp; (try with_reducible rfl); done)); (focus (exact fun _ _ _ h => h)); (try simp only [Act.put, List.setIfInBounds_toArray, List.set_cons_zero, List.set_cons_succ])); (refine wpT_take (i := 15) (oi := ?_) (v := ?_) hS ?_ ?_ ?_ ?_ ?_ ?_; rotate_left 2; (focus (simp only [List.getElem?_toArray, List.getElem?_cons_zero, List.getElem?_cons_succ]; exact rfl)); (focus (kernel_rfl)); (focus (rfl)); (focus (intro w' hW; (try dsimp only at hW); go_simp; (try with_reducible rfl); done)); (focus (exact fun _ _ _ h => h)); (try simp only [Act.put, List.setIfInBounds_toArray, List.set_cons_zero, List.set_cons_succ])); (refine wpT_take (i := 16) (oi := ?_) (v := ?_) hS ?_ ?_ ?_ ?_ ?_ ?_; rotate_left 2; (focus (simp only [List.getElem?_toArray, List.getElem?_cons_zero, List.getElem?_cons_succ]; exact rfl)); (focus (kernel_rfl)); (focus (rfl)); (focus (intro w' hW; (try dsimp only at hW); go_simp; (try with_reducible rfl); done)); (focus (exact fun _ _ _ h => h)); (try simp only [Act.put, List.setIfInBounds_toArray, List.set_cons_zero, List.set_cons_succ])); (refine wpT_take (i := 17) (oi := ?_) (v := ?_) hS ?_ ?_ ?_ ?_ ?_ ?_; rotate_left 2; (focus (simp only [List.getElem?_toArray, List.getElem?_cons_zero, List.getElem?_cons_succ]; exact rfl)); (focus (kernel_rfl)); (focus (rfl)); (focus (intro w' hW; (try dsimp only at hW); go_simp; (try with_reducible rfl); done)); (focus (exact fun _ _ _ h => h)); (try simp only [Act.put, List.setIfInBounds_toArray, List.set_cons_zero, List.set_cons_succ]))
        (refine wpT_one (i := 4) (oi := ?_) ?_ ?_ ?_ ?_; rotate_left 1; (focus (kernel_rfl)); (focus (simp only [List.getElem?_toArray, List.getElem?_cons_zero, List.getElem?_cons_succ]; exact rfl)); (focus (rfl)); go_simp)
        (go_at_call 53; refine (kB _).mono ?_; rintro e w' ⟨rfl, rfl⟩)
        (first | (with_reducible refine wpT_hold ?_ ?_; (focus (simp [*, go_sem]; done)); clear hS; intro hS; (try dsimp only at hS)) | (refine held_intro ?_ ?_; (focus (simp [*, go_sem]; done)); clear hS; intro hS))
        (refine wpT_one (i := 18) (oi := ?_) ?_ ?_ ?_ ?_; rotate_left 1; (focus (kernel_rfl)); (focus (simp only [List.getElem?_toArray, List.getElem?_cons_zero, List.getElem?_cons_succ]; exact rfl)); (focus (rfl)); go_simp)
        (go_at_call 53; refine (kC _).mono ?_; rintro e w' ⟨rfl, rfl⟩)
        (first | (with_reducible refine wpT_hold ?_ ?_; (focus (simp [*, go_sem]; done)); clear hS; intro hS; (try dsimp only at hS)) | (refine held_intro ?_ ?_; (focus (simp [*, go_sem]; done)); clear hS; intro hS))
        (refine wpT_take (i := 19) (oi := ?_) (v := ?_) hS ?_ ?_ ?_ ?_ ?_ ?_; rotate_left 2; (focus (simp only [List.getElem?_toArray, List.getElem?_cons_zero, List.getElem?_cons_succ]; exact rfl)); (focus (kernel_rfl)); (focus (rfl)); (focus (intro w' hW; (try dsimp only at hW); go_simp; (try with_reducible rfl); done)); (focus (exact fun _ _ _ h => h)); (try simp only [Act.put, List.setIfInBounds_toArray, List.set_cons_zero, List.set_cons_succ]))
        refine wpT_done (by kernel_rfl) ?_ _
        go_wp2_with ((go_at_call 36; refine (cL _).mono ?_; rintro e w' ⟨rfl, hb⟩; apply after_call (w := w) hb; (focus ((repeat' (first | (with_reducible exact hM) | (with_reducible apply mem_alloc) | (with_reducible apply mem_set) | (with_reducible apply mem_drew) | (with_reducible apply mem_drewN))); done)); (focus ((repeat' (first | (with_reducible exact hB) | (with_reducible exact Below.refl _ _) | (with_reducible refine Below.alloc ?_ ?_ _) | (with_reducible refine Below.setCell ?_ ?_ _) | (with_reducible refine Below.drew ?_) | (with_reducible refine below_drewN ?_ _) | (with_reducible exact Nat.le_refl _) | (with_reducible exact hB.size) | (simp [go_sem]; done) | (have := hB.size; simp [go_sem]; omega))); done)); (focus ((repeat' (first | (with_reducible exact hB) | (with_reducible exact Below.refl _ _) | (with_reducible refine Below.alloc ?_ ?_ _) | (with_reducible refine Below.setCell ?_ ?_ _) | (with_reducible refine Below.drew ?_) | (with_reducible refine below_drewN ?_ _) | (with_reducible exact Nat.le_refl _) | (with_reducible exact hB.size) | (simp [go_sem]; done) | (have := hB.size; simp [go_sem]; omega))); done)); clear hM hB hb; intro hM hB; (try clear hC); have hC := mem_facts hM; simp at hC))
        refine bodyPost_ret (by (simp [results, Try.results31, go_sem, *]; try rfl)) rfl ?_
        exact ⟨by rw [HJ.out], by (repeat' (first | (with_reducible exact hB) | (with_reducible exact Below.refl _ _) | (with_reducible refine Below.alloc ?_ ?_ _) | (with_reducible refine Below.setCell ?_ ?_ _) | (with_reducible refine Below.drew ?_) | (with_reducible refine below_drewN ?_ _) | (with_reducible exact Nat.le_refl _) | (with_reducible exact hB.size) | (simp [go_sem]; done) | (have := hB.size; simp [go_sem]; omega)))⟩
      · have hlt : x < X := by
          rcases Nat.lt_or_ge x X with k | k
          · exact k
          · exfalso; have : x = X := by omega
            subst this; exact hR HX.out
        have hR1 : (((G : Int) - (x : Int) * p).tmod p' = 0) = False := by simp [hR]
        have hR2 : (((G : Int) - (x : Int) * p).tmod p' == 0) = false := by simp [hR]
        have hR3 : (((G : Int) - (x : Int) * p).tmod p' != 0) = true := by simp [hR]
        go_wp2_with fail
        go_roundw
        case rel =>
          refine ⟨x + 1, by simp, by omega, ?_, by (repeat' (first | (with_reducible exact hB) | (with_reducible exact Below.refl _ _) | (with_reducible refine Below.alloc ?_ ?_ _) | (with_reducible refine Below.setCell ?_ ?_ _) | (with_reducible refine Below.drew ?_) | (with_reducible refine below_drewN ?_ _) | (with_reducible exact Nat.le_refl _) | (with_reducible exact hB.size) | (simp [go_sem]; done) | (have := hB.size; simp [go_sem]; omega)))⟩
          apply mem_drop 0
          · (repeat' (first | (with_reducible exact hM) | (with_reducible apply mem_alloc) | (with_reducible apply mem_set) | (with_reducible apply mem_drew) | (with_reducible apply mem_drewN)))
          · simp [SmL]
        case measure => simp [intOf]; omega
end Go.Proofs.Ytcnhjnmnflehhaa


/- Counts of pairs without common divisors: the law walked over every slice of bytes. -/
import Derived.Test.YtnbbgfcnbgjahaaDrawP
import Derived.Test.YtnbbgfcnbgjahaaShX
import Derived.Test.YtnbbgfcnbgjahaaShF
namespace Go.Proofs.Ytnbbgfcnbgjahaa
open Go.RowKit

/-- at the head of a round -/
def PmRel (n : Nat) (w : World) (v8 v9 : Value) (wr : World) : Prop := ∃ j : Nat, j ≤ n ∧ v8 = .int .i64 (sumP n j : Nat) ∧ v9 = .int .i64 ((j : Int) + 1) ∧ Below w.heap.size w wr
theorem mPrime_nat {n : Nat} (h1 : 1 ≤ n) (h2 : n ≤ 100) : mPrime (n : Int) = (((prm n n : Nat) : Int), true) := by
  unfold mPrime
  rw [if_pos (by omega), Int.toNat_natCast]
set_option maxRecDepth 100000 in
set_option maxHeartbeats 4000000 in
theorem lawPrime (A : Option Addr) (len cap : Nat) (zs : List Int) (w : World) (hRow : RowB .u8 w w.heap.size A len cap zs) : Calls Try.prog 5 #[.slice A len cap] w (fun E' W' => E' = .returned (.bool true) ∧ Below w.heap.size w W') := by
  by_cases hl : 1048576 < len
  · have hM := mem_nil w; have hB := Below.refl w.heap.size w; have hC := True.intro
    go_enter Try.func5, Try.ntmps5
    go_wp2
    go_ret
    exact ⟨rfl, by (repeat' (first | (with_reducible exact hB) | (with_reducible exact Below.refl _ _) | (with_reducible refine Below.alloc ?_ ?_ _) | (with_reducible refine Below.setCell ?_ ?_ _) | (with_reducible refine Below.drew ?_) | (with_reducible refine below_drewN ?_ _) | (with_reducible exact Nat.le_refl _) | (with_reducible exact hB.size) | (simp [go_sem]; done) | (have := hB.size; simp [go_sem]; omega)))⟩
  · have hM := mem_nil w; have hB := Below.refl w.heap.size w; have hC := True.intro
    go_enter Try.func5, Try.ntmps5
    go_upto_region 4 with (go_at_call 14; apply use_nrow (w := w) hRow (DrawShortPrime_ _ _ _ _); (focus ((repeat' (first | (with_reducible exact hB) | (with_reducible exact Below.refl _ _) | (with_reducible refine Below.alloc ?_ ?_ _) | (with_reducible refine Below.setCell ?_ ?_ _) | (with_reducible refine Below.drew ?_) | (with_reducible refine below_drewN ?_ _) | (with_reducible exact Nat.le_refl _) | (with_reducible exact hB.size) | (simp [go_sem]; done) | (have := hB.size; simp [go_sem]; omega))); done)); (focus ((repeat' (first | (with_reducible exact hB) | (with_reducible exact Below.refl _ _) | (with_reducible refine Below.alloc ?_ ?_ _) | (with_reducible refine Below.setCell ?_ ?_ _) | (with_reducible refine Below.drew ?_) | (with_reducible refine below_drewN ?_ _) | (with_reducible exact Nat.le_refl _) | (with_reducible exact hB.size) | (simp [go_sem]; done) | (have := hB.size; simp [go_sem]; omega))); done)); rintro k w' hb; apply after_call (w := w) hb; (focus ((repeat' (first | (with_reducible exact hM) | (with_reducible apply mem_alloc) | (with_reducible apply mem_set) | (with_reducible apply mem_drew) | (with_reducible apply mem_drewN))); done)); (focus ((repeat' (first | (with_reducible exact hB) | (with_reducible exact Below.refl _ _) | (with_reducible refine Below.alloc ?_ ?_ _) | (with_reducible refine Below.setCell ?_ ?_ _) | (with_reducible refine Below.drew ?_) | (with_reducible refine below_drewN ?_ _) | (with_reducible exact Nat.le_refl _) | (with_reducible exact hB.size) | (simp [go_sem]; done) | (have := hB.size; simp [go_sem]; omega))); done)); (focus ((repeat' (first | (with_reducible exact hB) | (with_reducible exact Below.refl _ _) | (with_reducible refine Below.alloc ?_ ?_ _) | (with_reducible refine Below.setCell ?_ ?_ _) | (with_reducible refine Below.drew ?_) | (with_reducible refine below_drewN ?_ _) | (with_reducible exact Nat.le_refl _) | (with_reducible exact hB.size) | (simp [go_sem]; done) | (have := hB.size; simp [go_sem]; omega))); done)); clear hM hB hb; intro hM hB; (try clear hC); have hC := mem_facts hM; simp at hC)
    have c1 := fun W => ShortPrime_ k W
    have c2 := fun W => sShortPrime_ k W
    by_cases hk : 1 ≤ k ∧ k ≤ 100
    · obtain ⟨n, rfl⟩ : ∃ n : Nat, k = n := ⟨k.toNat, by omega⟩
      have h1 : 1 ≤ n := by omega
      have h2 : n ≤ 100 := by omega
      rw [mPrime_nat h1 h2] at c1 c2
      dsimp only at c1 c2
      obtain ⟨f1, f2, f3⟩ := prime_facts h1 h2
      have hn2 : n * n ≤ 100 * 100 := Nat.mul_le_mul h2 h2
      have hp := prm_le n n
      have HS := Lib.hid f1
      have hP1 : ((prm n n : Nat) : Int).tmod 2 = 1 := by rw [Int.tmod_eq_emod_of_nonneg (by omega)]; omega
      have hP2 : ((prm n n : Nat) : Int) % 2 = 1 := by omega
      have HP := Lib.hid (show n = 1 → ((prm n n : Nat) : Int) = 1 from fun h => by subst h; rfl)
      have HQ := Lib.hid (show n ≠ 1 → ((prm n n : Nat) : Int) ≠ (n : Int) * n from fun h e => by
        have e2 : prm n n = n * n := by rw [← Int.natCast_mul] at e; exact Int.ofNat.inj e
        rw [e2] at f3
        simp [h] at f3)
      have hb : 0 ≤ ((prm n n : Nat) : Int) ∧ ((prm n n : Nat) : Int) ≤ 10000 := ⟨by omega, by omega⟩
      clear f1 f2 f3 hk hp
      generalize hPP : ((prm n n : Nat) : Int) = P at *
      clear hPP
      go_wp2_with (first | ((go_at_call 15; refine (c1 _).mono ?_; rintro e w' ⟨rfl, hb⟩; apply after_call (w := w) hb; (focus ((repeat' (first | (with_reducible exact hM) | (with_reducible apply mem_alloc) | (with_reducible apply mem_set) | (with_reducible apply mem_drew) | (with_reducible apply mem_drewN))); done)); (focus ((repeat' (first | (with_reducible exact hB) | (with_reducible exact Below.refl _ _) | (with_reducible refine Below.alloc ?_ ?_ _) | (with_reducible refine Below.setCell ?_ ?_ _) | (with_reducible refine Below.drew ?_) | (with_reducible refine below_drewN ?_ _) | (with_reducible exact Nat.le_refl _) | (with_reducible exact hB.size) | (simp [go_sem]; done) | (have := hB.size; simp [go_sem]; omega))); done)); (focus ((repeat' (first | (with_reducible exact hB) | (with_reducible exact Below.refl _ _) | (with_reducible refine Below.alloc ?_ ?_ _) | (with_reducible refine Below.setCell ?_ ?_ _) | (with_reducible refine Below.drew ?_) | (with_reducible refine below_drewN ?_ _) | (with_reducible exact Nat.le_refl _) | (with_reducible exact hB.size) | (simp [go_sem]; done) | (have := hB.size; simp [go_sem]; omega))); done)); clear hM hB hb; intro hM hB; (try clear hC); have hC := mem_facts hM; simp at hC); clear c1) | (go_at_call 16; refine (c2 _).mono ?_; rintro e w' ⟨rfl, hb⟩; apply after_call (w := w) hb; (focus ((repeat' (first | (with_reducible exact hM) | (with_reducible apply mem_alloc) | (with_reducible apply mem_set) | (with_reducible apply mem_drew) | (with_reducible apply mem_drewN))); done)); (focus ((repeat' (first | (with_reducible exact hB) | (with_reducible exact Below.refl _ _) | (with_reducible refine Below.alloc ?_ ?_ _) | (with_reducible refine Below.setCell ?_ ?_ _) | (with_reducible refine Below.drew ?_) | (with_reducible refine below_drewN ?_ _) | (with_reducible exact Nat.le_refl _) | (with_reducible exact hB.size) | (simp [go_sem]; done) | (have := hB.size; simp [go_sem]; omega))); done)); (focus ((repeat' (first | (with_reducible exact hB) | (with_reducible exact Below.refl _ _) | (with_reducible refine Below.alloc ?_ ?_ _) | (with_reducible refine Below.setCell ?_ ?_ _) | (with_reducible refine Below.drew ?_) | (with_reducible refine below_drewN ?_ _) | (with_reducible exact Nat.le_refl _) | (with_reducible exact hB.size) | (simp [go_sem]; done) | (have := hB.size; simp [go_sem]; omega))); done)); clear hM hB hb; intro hM hB; (try clear hC); have hC := mem_facts hM; simp at hC))
      clear c2
      go_loopw [8, 9] (fun v8 v9 wr => PmRel n w v8 v9 wr) (fun _ v9 _ => n + 1 - (intOf v9).toNat)
      case atStart => exact ⟨0, Nat.zero_le _, rfl, rfl, by (repeat' (first | (with_reducible exact hB) | (with_reducible exact Below.refl _ _) | (with_reducible refine Below.alloc ?_ ?_ _) | (with_reducible refine Below.setCell ?_ ?_ _) | (with_reducible refine Below.drew ?_) | (with_reducible refine below_drewN ?_ _) | (with_reducible exact Nat.le_refl _) | (with_reducible exact hB.size) | (simp [go_sem]; done) | (have := hB.size; simp [go_sem]; omega)))⟩
      case round =>
        obtain ⟨j, hj, rfl, rfl, hB'⟩ := hrel
        have hM' := mem_nil wr
        (try clear hC); clear hM hB; have hM := hM'; have hB := hB'; clear hM' hB'; have hC := mem_facts hM; simp at hC
        have hle := sumP_le (n := n) j
        have hle2 : j * (n * n) ≤ 100 * (100 * 100) := Nat.mul_le_mul (by omega) hn2
        by_cases hlt : j < n
        · have e0 : decide ((j : Int) + 1 ≤ (n : Int)) = true := decide_eq_true (by omega)
          have hz : ((j : Int) + 1 == 0) = false := by rw [beq_eq_false_iff_ne]; omega
          have hdiv : ((n : Int)).tdiv ((j : Int) + 1) = ((n / (j + 1) : Nat) : Int) := by rw [Int.tdiv_eq_ediv_of_nonneg (by omega)]; simp
          have hdq : (n : Int) / ((j : Int) + 1) = ((n / (j + 1) : Nat) : Int) := by simp
          have hq1 : 1 ≤ n / (j + 1) := (Nat.le_div_iff_mul_le (by omega)).2 (by omega)
          have hq2 : n / (j + 1) ≤ 100 := Nat.le_trans (Nat.div_le_self _ _) h2
          have c3 := fun W => ShortPrime_ ((n / (j + 1) : Nat) : Int) W
          rw [mPrime_nat hq1 hq2] at c3
          dsimp only at c3
          have hpb := prm_le (n / (j + 1)) (n / (j + 1))
          have hqq : n / (j + 1) * (n / (j + 1)) ≤ 100 * 100 := Nat.mul_le_mul hq2 hq2
          have HU := Lib.hid (show ((sumP n (j + 1) : Nat) : Int) = (sumP n j : Nat) + (prm (n / (j + 1)) (n / (j + 1)) : Nat) by rw [sumP]; simp)
          have g1 : 0 ≤ ((sumP n j : Nat) : Int) ∧ ((sumP n j : Nat) : Int) ≤ 1000000 := ⟨by omega, by omega⟩
          have g2 : 0 ≤ ((prm (n / (j + 1)) (n / (j + 1)) : Nat) : Int) ∧ ((prm (n / (j + 1)) (n / (j + 1)) : Nat) : Int) ≤ 10000 := ⟨by omega, by omega⟩
          clear hpb hqq hq1 hle
          generalize ((prm (n / (j + 1)) (n / (j + 1)) : Nat) : Int) = pp at *
          generalize ((sumP n j : Nat) : Int) = ss at *
          generalize n / (j + 1) = q at *
          go_wp2_with (go_at_call 15; refine (c3 _).mono ?_; rintro e w' ⟨rfl, hb⟩; apply after_call (w := w) hb; (focus ((repeat' (first | (with_reducible exact hM) | (with_reducible apply mem_alloc) | (with_reducible apply mem_set) | (with_reducible apply mem_drew) | (with_reducible apply mem_drewN))); done)); (focus ((repeat' (first | (with_reducible exact hB) | (with_reducible exact Below.refl _ _) | (with_reducible refine Below.alloc ?_ ?_ _) | (with_reducible refine Below.setCell ?_ ?_ _) | (with_reducible refine Below.drew ?_) | (with_reducible refine below_drewN ?_ _) | (with_reducible exact Nat.le_refl _) | (with_reducible exact hB.size) | (simp [go_sem]; done) | (have := hB.size; simp [go_sem]; omega))); done)); (focus ((repeat' (first | (with_reducible exact hB) | (with_reducible exact Below.refl _ _) | (with_reducible refine Below.alloc ?_ ?_ _) | (with_reducible refine Below.setCell ?_ ?_ _) | (with_reducible refine Below.drew ?_) | (with_reducible refine below_drewN ?_ _) | (with_reducible exact Nat.le_refl _) | (with_reducible exact hB.size) | (simp [go_sem]; done) | (have := hB.size; simp [go_sem]; omega))); done)); clear hM hB hb; intro hM hB; (try clear hC); have hC := mem_facts hM; simp at hC)
          go_roundw
          case measure => simp [intOf]; omega
          case rel => exact ⟨j + 1, by omega, by rw [HU.out], by go_num, by (repeat' (first | (with_reducible exact hB) | (with_reducible exact Below.refl _ _) | (with_reducible refine Below.alloc ?_ ?_ _) | (with_reducible refine Below.setCell ?_ ?_ _) | (with_reducible refine Below.drew ?_) | (with_reducible refine below_drewN ?_ _) | (with_reducible exact Nat.le_refl _) | (with_reducible exact hB.size) | (simp [go_sem]; done) | (have := hB.size; simp [go_sem]; omega)))⟩
        · obtain rfl : j = n := by omega
          rw [HS.out]
          have w1 : wrap64 ((j : Int) * j) = (j : Int) * j := wrap_mid (by rw [← Int.natCast_mul]; omega)
          have e1 : ((j * j : Nat) : Int) = (j : Int) * j := Int.natCast_mul ..
          rw [e1]
          by_cases h1' : j = 1
          · have hp1 := HP.out h1'
            subst h1'
            subst hp1
            clear w1 e1
            go_wp2_with fail
            go_ret
            exact ⟨rfl, by (repeat' (first | (with_reducible exact hB) | (with_reducible exact Below.refl _ _) | (with_reducible refine Below.alloc ?_ ?_ _) | (with_reducible refine Below.setCell ?_ ?_ _) | (with_reducible refine Below.drew ?_) | (with_reducible refine below_drewN ?_ _) | (with_reducible exact Nat.le_refl _) | (with_reducible exact hB.size) | (simp [go_sem]; done) | (have := hB.size; simp [go_sem]; omega)))⟩
          · have hne := HQ.out h1'
            have e2 : (P == (j : Int) * j) = false := by rw [beq_eq_false_iff_ne]; exact hne
            have e3 : ((j : Int) == 1) = false := by rw [beq_eq_false_iff_ne]; omega
            clear e1
            go_wp2_with fail
            go_ret
            exact ⟨rfl, by (repeat' (first | (with_reducible exact hB) | (with_reducible exact Below.refl _ _) | (with_reducible refine Below.alloc ?_ ?_ _) | (with_reducible refine Below.setCell ?_ ?_ _) | (with_reducible refine Below.drew ?_) | (with_reducible refine below_drewN ?_ _) | (with_reducible exact Nat.le_refl _) | (with_reducible exact hB.size) | (simp [go_sem]; done) | (have := hB.size; simp [go_sem]; omega)))⟩
    · have e : mPrime k = (0, false) := by unfold mPrime; rw [if_neg hk]
      rw [e] at c1 c2
      dsimp only at c1 c2
      go_wp2_with (first | ((go_at_call 15; refine (c1 _).mono ?_; rintro e w' ⟨rfl, hb⟩; apply after_call (w := w) hb; (focus ((repeat' (first | (with_reducible exact hM) | (with_reducible apply mem_alloc) | (with_reducible apply mem_set) | (with_reducible apply mem_drew) | (with_reducible apply mem_drewN))); done)); (focus ((repeat' (first | (with_reducible exact hB) | (with_reducible exact Below.refl _ _) | (with_reducible refine Below.alloc ?_ ?_ _) | (with_reducible refine Below.setCell ?_ ?_ _) | (with_reducible refine Below.drew ?_) | (with_reducible refine below_drewN ?_ _) | (with_reducible exact Nat.le_refl _) | (with_reducible exact hB.size) | (simp [go_sem]; done) | (have := hB.size; simp [go_sem]; omega))); done)); (focus ((repeat' (first | (with_reducible exact hB) | (with_reducible exact Below.refl _ _) | (with_reducible refine Below.alloc ?_ ?_ _) | (with_reducible refine Below.setCell ?_ ?_ _) | (with_reducible refine Below.drew ?_) | (with_reducible refine below_drewN ?_ _) | (with_reducible exact Nat.le_refl _) | (with_reducible exact hB.size) | (simp [go_sem]; done) | (have := hB.size; simp [go_sem]; omega))); done)); clear hM hB hb; intro hM hB; (try clear hC); have hC := mem_facts hM; simp at hC); clear c1) | (go_at_call 16; refine (c2 _).mono ?_; rintro e w' ⟨rfl, hb⟩; apply after_call (w := w) hb; (focus ((repeat' (first | (with_reducible exact hM) | (with_reducible apply mem_alloc) | (with_reducible apply mem_set) | (with_reducible apply mem_drew) | (with_reducible apply mem_drewN))); done)); (focus ((repeat' (first | (with_reducible exact hB) | (with_reducible exact Below.refl _ _) | (with_reducible refine Below.alloc ?_ ?_ _) | (with_reducible refine Below.setCell ?_ ?_ _) | (with_reducible refine Below.drew ?_) | (with_reducible refine below_drewN ?_ _) | (with_reducible exact Nat.le_refl _) | (with_reducible exact hB.size) | (simp [go_sem]; done) | (have := hB.size; simp [go_sem]; omega))); done)); (focus ((repeat' (first | (with_reducible exact hB) | (with_reducible exact Below.refl _ _) | (with_reducible refine Below.alloc ?_ ?_ _) | (with_reducible refine Below.setCell ?_ ?_ _) | (with_reducible refine Below.drew ?_) | (with_reducible refine below_drewN ?_ _) | (with_reducible exact Nat.le_refl _) | (with_reducible exact hB.size) | (simp [go_sem]; done) | (have := hB.size; simp [go_sem]; omega))); done)); clear hM hB hb; intro hM hB; (try clear hC); have hC := mem_facts hM; simp at hC))
      go_ret
      exact ⟨rfl, by (repeat' (first | (with_reducible exact hB) | (with_reducible exact Below.refl _ _) | (with_reducible refine Below.alloc ?_ ?_ _) | (with_reducible refine Below.setCell ?_ ?_ _) | (with_reducible refine Below.drew ?_) | (with_reducible refine below_drewN ?_ _) | (with_reducible exact Nat.le_refl _) | (with_reducible exact hB.size) | (simp [go_sem]; done) | (have := hB.size; simp [go_sem]; omega)))⟩
theorem goPrime (A : Option Addr) (len cap : Nat) (zs : List Int) (w : World) (h : IsRow .u8 w A len cap zs) : Calls Try.prog 5 #[.slice A len cap] w (fun E' W' => E' = .returned (.bool true) ∧ Below w.heap.size w W') := lawPrime A len cap zs w (rowB h)
end Go.Proofs.Ytnbbgfcnbgjahaa

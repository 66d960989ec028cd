
/- All matrices in row form with an index: plain; the program's and the model's, walked. No condition on what is exported. -/
import Derived.Test.YtkihoccfmjigiaaMats
import Derived.Test.YtkihoccfmjigiaaSpecA
import Derived.Laws.OwnMore
namespace Go.Proofs.Ytkihoccfmjigiaa
open Go.RowKit

def rowsM (n a : Nat) : List M := if n % a = 0 then (List.range (n / a)).map (fun (b : Nat) => ⟨(a : Int), (b : Int), 0, ((n / a : Nat) : Int)⟩) else []
def frmsM (n : Nat) : Nat → List M
  | 0 => []
  | k + 1 => frmsM n k ++ rowsM n (k + 1)
def mAllL (x : Int) : List M × Bool := if 1 ≤ x ∧ x ≤ 60 then (frmsM x.toNat x.toNat, true) else ([], false)
theorem rowsM_len (n a : Nat) : (rowsM n a).length ≤ n := by
  unfold rowsM
  split
  · simp; exact Nat.div_le_self _ _
  · simp
theorem frmsM_len (n : Nat) : ∀ k, (frmsM n k).length ≤ k * n
  | 0 => by simp [frmsM]
  | k + 1 => by
    have h1 := frmsM_len n k
    have h2 := rowsM_len n (k + 1)
    simp only [frmsM, List.length_append]
    have : (k + 1) * n = k * n + n := Nat.succ_mul _ _
    omega
/-- the first b of a row -/
def partQ (a q b : Nat) : List M := (List.range b).map (fun (b : Nat) => ⟨(a : Int), (b : Int), 0, (q : Int)⟩)
theorem partQ_succ (a q b : Nat) : partQ a q (b + 1) = partQ a q b ++ [⟨(a : Int), (b : Int), 0, (q : Int)⟩] := by simp [partQ, List.range_succ]
theorem partQ_len (a q b : Nat) : (partQ a q b).length = b := by simp [partQ]
theorem frmsM_yes {n k : Nat} (h : n % (k + 1) = 0) : frmsM n (k + 1) = frmsM n k ++ partQ (k + 1) (n / (k + 1)) (n / (k + 1)) := by simp only [frmsM, rowsM, h, if_true, partQ]
theorem frmsM_no {n k : Nat} (h : ¬ n % (k + 1) = 0) : frmsM n (k + 1) = frmsM n k := by simp only [frmsM, rowsM, h, if_false, List.append_nil]
theorem infoMat : (Try.prog.info? 29).map (fun i => (i.zero, i.size, i.bytes)) = some (some (.agg #[.int .i64 0, .int .i64 0, .int .i64 0, .int .i64 0]), 4, 32) := by kernel_rfl
theorem info_parts4 {P : Program} {t : TypeId} {z : Value} {s b : Nat} (h : (P.info? t).map (fun i => (i.zero, i.size, i.bytes)) = some (some z, s, b)) : ∃ i, P.info? t = some i ∧ i.zero = some z ∧ i.size = s ∧ i.bytes = b := by
  cases hi : P.info? t with
  | none => rw [hi] at h; cases h
  | some i =>
    rw [hi] at h
    simp only [Option.map_some, Option.some.injEq, Prod.mk.injEq] at h
    exact ⟨i, rfl, h.1, h.2.1, h.2.2⟩
theorem cell_four_new (w : World) (a b c d : Value) (t : TypeId) : ∀ j u, [a, b, c, d][j]? = some u → (w.alloc (.cells #[a, b, c, d] t)).cell? ((⟨w.heap.size, 0, none⟩ : Addr).add j) = some u := by
  intro j u h
  match j, h with
  | 0, h => simpa [go_sem, Addr.add] using h
  | 1, h => simpa [go_sem, Addr.add] using h
  | 2, h => simpa [go_sem, Addr.add] using h
  | 3, h => simpa [go_sem, Addr.add] using h
  | j + 4, h => simp at h
/-- at the heads of the rounds: the matrices that are told so far -/
def AlO (n : Nat) (w : World) (v3 v4 : Value) (wr : World) : Prop := ∃ k : Nat, k ≤ n ∧ v4 = .int .i64 ((k : Int) + 1) ∧ MatRow w.heap.size wr v3 (frmsM n k) ∧ Below w.heap.size w wr
def AlI (n k q : Nat) (w : World) (v3 v18 : Value) (wr : World) : Prop := ∃ b : Nat, b ≤ q ∧ v18 = .int .i64 b ∧ MatRow w.heap.size wr v3 (frmsM n k ++ partQ (k + 1) q b) ∧ Below w.heap.size w wr
theorem al_snoc {n k q b : Nat} {base : Nat} {W : World} {v : Value} (h : W.ownsRow base 29 4 v ((frmsM n k ++ partQ (k + 1) q b).length + 1) (cs4 (frmsM n k ++ partQ (k + 1) q b) ++ [.int .i64 ((k : Int) + 1), .int .i64 b, .int .i64 0, .int .i64 q])) : MatRow base W v (frmsM n k ++ partQ (k + 1) q (b + 1)) := by
  unfold MatRow
  rw [partQ_succ, ← List.append_assoc, cs4_append, List.length_append]
  have e : ((k + 1 : Nat) : Int) = (k : Int) + 1 := by omega
  simpa [cs4, c4, e] using h
/-- what a list of matrices that is made anew leaves -/
def AllPost (ms : List M) (w : World) (e : Ending) (W' : World) : Prop := ∃ v, e = .returned v ∧ MatRow w.heap.size W' v ms ∧ Below w.heap.size w W'
/-- behind an append of one matrix -/
theorem after_app4 {w wr w1 : World} {v : Value} {k : Nat} {xs : List Value} {c : Obj} {e : TypeId} {G : Prop} (hgrow : (wr.alloc c).grownBy w1 v.ownBlock) (hrow : wr.ownsRow w.heap.size e 4 v k xs) (hB : Below w.heap.size w wr)
    (g : Below w.heap.size w w1 → G) : G := by
  refine g ((hB.alloc hB.size _).grown hgrow ?_ fun j ej => (hrow.lt j ej).1)
  have := hB.size; simp; omega
set_option maxHeartbeats 4000000 in
theorem formsWith_ (n : Nat) (h1 : 1 ≤ n) (h2 : n ≤ 60) (w : World) : Calls Try.prog 11 #[.int .i64 n] w (AllPost (frmsM n n) w) := by
  obtain ⟨i0, hi, hz0, hz1, hz2⟩ := info_parts4 infoMat
  have hM := mem_nil w; have hB := Below.refl w.heap.size w; have hC := True.intro
  go_enter Try.func11, Try.ntmps11
  go_wp2
  go_loopw [3, 4] (fun v3 v4 wr => AlO n w v3 v4 wr) (fun _ v4 _ => n + 1 - (intOf v4).toNat)
  case atStart => exact ⟨0, Nat.zero_le _, rfl, World.ownsRow_nil _ _ _ _, by (repeat' (first | (with_reducible exact hB) | (with_reducible exact Below.refl _ _) | (with_reducible refine Below.alloc ?_ ?_ _) | (with_reducible refine Below.setCell ?_ ?_ _) | (with_reducible refine Below.drew ?_) | (with_reducible refine below_drewN ?_ _) | (with_reducible exact Nat.le_refl _) | (with_reducible exact hB.size) | (simp [go_sem]; done) | (have := hB.size; simp [go_sem]; omega)))⟩
  case round =>
    obtain ⟨k, hk, rfl, hR, hB'⟩ := hrel
    clear hB hM hC
    have hB := hB'
    clear hB'
    have hlen := frmsM_len n k
    have hlen2 : k * n ≤ 60 * 60 := Nat.mul_le_mul (by omega) h2
    by_cases hlt : k < n
    · have e0 : decide ((k : Int) + 1 ≤ (n : Int)) = true := decide_eq_true (by omega)
      have hz : ((k : Int) + 1 == 0) = false := by simp; omega
      have hmod : ((n : Int)).tmod ((k : Int) + 1) = ((n % (k + 1) : Nat) : Int) := by rw [Int.tmod_eq_emod_of_nonneg (by omega)]; simp
      have hdiv : ((n : Int)).tdiv ((k : Int) + 1) = ((n / (k + 1) : Nat) : Int) := by rw [Int.tdiv_eq_ediv_of_nonneg (by omega)]; simp
      have hdq : (n : Int) / ((k : Int) + 1) = ((n / (k + 1) : Nat) : Int) := by simp
      have hmq : (n : Int) % ((k : Int) + 1) = ((n % (k + 1) : Nat) : Int) := by simp
      have hq60 : n / (k + 1) ≤ 60 := Nat.le_trans (Nat.div_le_self _ _) h2
      obtain ⟨ao, cap, rfl⟩ := row_form4 hR
      by_cases hd : n % (k + 1) = 0
      · have HF := Lib.hid (frmsM_yes hd)
        replace hmod : (n : Int).tmod ((k : Int) + 1) = 0 := by rw [hmod, hd]; rfl
        replace hmq : (n : Int) % ((k : Int) + 1) = 0 := by rw [hmq, hd]; rfl
        generalize n / (k + 1) = q at *
        have HR := Lib.hid hR
        clear hR hd
        go_wp2_with fail
        go_loopw [3, 18] (fun v3 v18 wr => AlI n k q w v3 v18 wr) (fun _ v18 _ => q - (intOf v18).toNat)
        case atStart => exact ⟨0, Nat.zero_le _, rfl, by simpa [partQ, MatRow] using HR.out, by (repeat' (first | (with_reducible exact hB) | (with_reducible exact Below.refl _ _) | (with_reducible refine Below.alloc ?_ ?_ _) | (with_reducible refine Below.setCell ?_ ?_ _) | (with_reducible refine Below.drew ?_) | (with_reducible refine below_drewN ?_ _) | (with_reducible exact Nat.le_refl _) | (with_reducible exact hB.size) | (simp [go_sem]; done) | (have := hB.size; simp [go_sem]; omega)))⟩
        case round =>
          obtain ⟨b, hb, rfl, hR, hB'⟩ := hrel
          clear hB HR
          have hB := hB'
          clear hB'
          have hL : (frmsM n k ++ partQ (k + 1) q b).length ≤ 3700 := by rw [List.length_append, partQ_len]; omega
          by_cases hlb : b < q
          · obtain ⟨ao, cap, rfl⟩ := row_form4 hR
            replace hR : wr.ownsRow w.heap.size 29 4 (.slice ao (frmsM n k ++ partQ (k + 1) q b).length cap) (frmsM n k ++ partQ (k + 1) q b).length (cs4 (frmsM n k ++ partQ (k + 1) q b)) := hR
            go_wp2_with (at_builtin; refine wpList_append_own _ rfl _ _ 24 rfl w.heap.size 29 i0 (.agg #[.int .i64 0, .int .i64 0, .int .i64 0, .int .i64 0]) 4 32 Try.underlying24 hi hz0 hz1 hz2 rfl (by decide) _ _ _ rfl (hR.alloc _) ⟨_, 0, none⟩ 1 1 [.int .i64 ((k : Int) + 1), .int .i64 (b : Int), .int .i64 0, .int .i64 (q : Int)] rfl rfl (cell_four_new _ _ _ _ _ _) (by simp [Value.oneCell']) (by unfold maxLen; omega) (by omega) (by have := hB.size; simp; omega) ?_; intro v' w1 hown' hgrow _; apply after_app4 hgrow hR hB; clear hB hgrow hR; intro hB; have hR := hown'; clear hown')
            go_roundw
            case rel => exact ⟨b + 1, by omega, by go_num, al_snoc hR, by (repeat' (first | (with_reducible exact hB) | (with_reducible exact Below.refl _ _) | (with_reducible refine Below.alloc ?_ ?_ _) | (with_reducible refine Below.setCell ?_ ?_ _) | (with_reducible refine Below.drew ?_) | (with_reducible refine below_drewN ?_ _) | (with_reducible exact Nat.le_refl _) | (with_reducible exact hB.size) | (simp [go_sem]; done) | (have := hB.size; simp [go_sem]; omega)))⟩
            case measure => simp [intOf]; omega
          · obtain rfl : b = q := by omega
            obtain ⟨ao, cap, rfl⟩ := row_form4 hR
            have HR := Lib.hid hR
            clear hR
            go_wp2_with fail
            go_roundw
            case rel => exact ⟨k + 1, by omega, by go_num, by rw [HF.out]; exact HR.out, by (repeat' (first | (with_reducible exact hB) | (with_reducible exact Below.refl _ _) | (with_reducible refine Below.alloc ?_ ?_ _) | (with_reducible refine Below.setCell ?_ ?_ _) | (with_reducible refine Below.drew ?_) | (with_reducible refine below_drewN ?_ _) | (with_reducible exact Nat.le_refl _) | (with_reducible exact hB.size) | (simp [go_sem]; done) | (have := hB.size; simp [go_sem]; omega)))⟩
            case measure => simp [intOf]; omega
      · have HF := Lib.hid (frmsM_no hd)
        have hm3 : ((n % (k + 1) : Nat) : Int) ≠ 0 := by omega
        have hm4 : (n % (k + 1) == 0) = false := by simp [hd]
        have hm5 : (n % (k + 1) = 0) = False := by simp [hd]
        generalize n % (k + 1) = rm at *
        have HR := Lib.hid hR
        clear hR
        go_wp2_with fail
        go_roundw
        case rel => exact ⟨k + 1, by omega, by go_num, by rw [HF.out]; exact HR.out, by (repeat' (first | (with_reducible exact hB) | (with_reducible exact Below.refl _ _) | (with_reducible refine Below.alloc ?_ ?_ _) | (with_reducible refine Below.setCell ?_ ?_ _) | (with_reducible refine Below.drew ?_) | (with_reducible refine below_drewN ?_ _) | (with_reducible exact Nat.le_refl _) | (with_reducible exact hB.size) | (simp [go_sem]; done) | (have := hB.size; simp [go_sem]; omega)))⟩
        case measure => simp [intOf]; omega
    · obtain rfl : k = n := by omega
      obtain ⟨ao, cap, rfl⟩ := row_form4 hR
      have HR := Lib.hid hR
      clear hR
      go_wp2
      go_ret
      exact ⟨_, rfl, HR.out, by (repeat' (first | (with_reducible exact hB) | (with_reducible exact Below.refl _ _) | (with_reducible refine Below.alloc ?_ ?_ _) | (with_reducible refine Below.setCell ?_ ?_ _) | (with_reducible refine Below.drew ?_) | (with_reducible refine below_drewN ?_ _) | (with_reducible exact Nat.le_refl _) | (with_reducible exact hB.size) | (simp [go_sem]; done) | (have := hB.size; simp [go_sem]; omega)))⟩
/-- what both return -/
def AllOk (x : Int) (w : World) (e : Ending) (W' : World) : Prop := ∃ v, e = .returned (.tuple #[v, .bool (mAllL x).2]) ∧ MatRow w.heap.size W' v (mAllL x).1 ∧ Below w.heap.size w W'
set_option maxHeartbeats 1000000 in
theorem LatticeAll_ (x : Int) (w : World) : Calls Try.prog 5 #[.int .i64 x] w (AllOk x w) := by
  by_cases h : 1 ≤ x ∧ x ≤ 60
  · obtain ⟨n, rfl⟩ : ∃ n : Nat, x = n := ⟨x.toNat, by omega⟩
    have HE := Lib.hid (show mAllL (n : Int) = (frmsM n n, true) by unfold mAllL; rw [if_pos h, Int.toNat_natCast])
    have c1 := fun W => formsWith_ n (by omega) (by omega) W
    have h3 : decide ((n : Int) < 1) = false := decide_eq_false (by omega)
    have h4 : decide ((n : Int) > 60) = false := decide_eq_false (by omega)
    have h5 : decide ((60 : Int) < (n : Int)) = false := decide_eq_false (by omega)
    have hM := mem_nil w; have hB := Below.refl w.heap.size w; have hC := True.intro
    go_enter Try.func5, Try.ntmps5
    go_wp2_with fail
    refine (c1 _).mono ?_
    rintro e w1 ⟨v, rfl, hR, hb⟩
    have HR := Lib.hid hR
    have HB := Lib.hid hb
    clear hR hb
    go_wp2_with fail
    go_ret2
    exact ⟨v, by rw [HE.out]; rfl, by rw [HE.out]; exact HR.out, HB.out⟩
  · have HE := Lib.hid (show mAllL x = ([], false) by unfold mAllL; rw [if_neg h])
    by_cases h1 : x < 1
    · have hM := mem_nil w; have hB := Below.refl w.heap.size w; have hC := True.intro
      go_enter Try.func5, Try.ntmps5
      go_wp2_with fail
      go_ret2
      exact ⟨_, by rw [HE.out]; rfl, by rw [HE.out]; exact World.ownsRow_nil _ _ _ _, by (repeat' (first | (with_reducible exact hB) | (with_reducible exact Below.refl _ _) | (with_reducible refine Below.alloc ?_ ?_ _) | (with_reducible refine Below.setCell ?_ ?_ _) | (with_reducible refine Below.drew ?_) | (with_reducible refine below_drewN ?_ _) | (with_reducible exact Nat.le_refl _) | (with_reducible exact hB.size) | (simp [go_sem]; done) | (have := hB.size; simp [go_sem]; omega)))⟩
    · have h2 : 60 < x := by omega
      have hM := mem_nil w; have hB := Below.refl w.heap.size w; have hC := True.intro
      go_enter Try.func5, Try.ntmps5
      go_wp2_with fail
      go_ret2
      exact ⟨_, by rw [HE.out]; rfl, by rw [HE.out]; exact World.ownsRow_nil _ _ _ _, by (repeat' (first | (with_reducible exact hB) | (with_reducible exact Below.refl _ _) | (with_reducible refine Below.alloc ?_ ?_ _) | (with_reducible refine Below.setCell ?_ ?_ _) | (with_reducible refine Below.drew ?_) | (with_reducible refine below_drewN ?_ _) | (with_reducible exact Nat.le_refl _) | (with_reducible exact hB.size) | (simp [go_sem]; done) | (have := hB.size; simp [go_sem]; omega)))⟩
def AlS (n : Nat) (w : World) (v4 v5 : Value) (wr : World) : Prop := ∃ k : Nat, k ≤ n ∧ v5 = .int .i64 ((k : Int) + 1) ∧ MatRow w.heap.size wr v4 (frmsM n k) ∧ Below w.heap.size w wr
set_option maxHeartbeats 4000000 in
theorem sLatticeAll_ (x : Int) (w : World) : Calls Try.prog 6 #[.int .i64 x] w (AllOk x w) := by
  cases hx : l6B x 1 60
  · have HE := Lib.hid (show mAllL x = ([], false) by
      have : ¬ (1 ≤ x ∧ x ≤ 60) := by intro h; simp [l6B, h] at hx
      unfold mAllL; rw [if_neg this])
    have hM := mem_nil w; have hB := Below.refl w.heap.size w; have hC := True.intro
    go_enter Try.func6, Try.ntmps6
    go_wp2_with (go_at_call 12; refine (l6In_ _ _ _ _).mono ?_; rintro e w' ⟨rfl, rfl⟩)
    go_ret2
    exact ⟨_, by rw [HE.out]; rfl, by rw [HE.out]; exact World.ownsRow_lit w #[] 0 (Nat.le_refl _) (by decide) rfl, by (repeat' (first | (with_reducible exact hB) | (with_reducible exact Below.refl _ _) | (with_reducible refine Below.alloc ?_ ?_ _) | (with_reducible refine Below.setCell ?_ ?_ _) | (with_reducible refine Below.drew ?_) | (with_reducible refine below_drewN ?_ _) | (with_reducible exact Nat.le_refl _) | (with_reducible exact hB.size) | (simp [go_sem]; done) | (have := hB.size; simp [go_sem]; omega)))⟩
  · have h : 1 ≤ x ∧ x ≤ 60 := by simpa [l6B] using hx
    obtain ⟨n, rfl⟩ : ∃ n : Nat, x = n := ⟨x.toNat, by omega⟩
    have HE := Lib.hid (show mAllL (n : Int) = (frmsM n n, true) by unfold mAllL; rw [if_pos h, Int.toNat_natCast])
    have h1 : 1 ≤ n := by omega
    have h2 : n ≤ 60 := by omega
    clear h
    obtain ⟨i0, hi, hz0, hz1, hz2⟩ := info_parts4 infoMat
    have hM := mem_nil w; have hB := Below.refl w.heap.size w; have hC := True.intro
    go_enter Try.func6, Try.ntmps6
    go_wp2_with (go_at_call 12; refine (l6In_ _ _ _ _).mono ?_; rintro e w' ⟨rfl, rfl⟩)
    go_loopw [4, 5] (fun v4 v5 wr => AlS n w v4 v5 wr) (fun _ v5 _ => n + 1 - (intOf v5).toNat)
    case atStart => exact ⟨0, Nat.zero_le _, rfl, World.ownsRow_lit w #[] 0 (Nat.le_refl _) (by decide) rfl, by (repeat' (first | (with_reducible exact hB) | (with_reducible exact Below.refl _ _) | (with_reducible refine Below.alloc ?_ ?_ _) | (with_reducible refine Below.setCell ?_ ?_ _) | (with_reducible refine Below.drew ?_) | (with_reducible refine below_drewN ?_ _) | (with_reducible exact Nat.le_refl _) | (with_reducible exact hB.size) | (simp [go_sem]; done) | (have := hB.size; simp [go_sem]; omega)))⟩
    case round =>
      obtain ⟨k, hk, rfl, hR, hB'⟩ := hrel
      clear hB hM hC
      have hB := hB'
      clear hB'
      have hlen := frmsM_len n k
      have hlen2 : k * n ≤ 60 * 60 := Nat.mul_le_mul (by omega) h2
      by_cases hlt : k < n
      · have e0 : decide ((k : Int) + 1 ≤ (n : Int)) = true := decide_eq_true (by omega)
        have hz : ((k : Int) + 1 == 0) = false := by simp; omega
        have hmod : ((n : Int)).tmod ((k : Int) + 1) = ((n % (k + 1) : Nat) : Int) := by rw [Int.tmod_eq_emod_of_nonneg (by omega)]; simp
        have hdiv : ((n : Int)).tdiv ((k : Int) + 1) = ((n / (k + 1) : Nat) : Int) := by rw [Int.tdiv_eq_ediv_of_nonneg (by omega)]; simp
        have hdq : (n : Int) / ((k : Int) + 1) = ((n / (k + 1) : Nat) : Int) := by simp
        have hmq : (n : Int) % ((k : Int) + 1) = ((n % (k + 1) : Nat) : Int) := by simp
        have hq60 : n / (k + 1) ≤ 60 := Nat.le_trans (Nat.div_le_self _ _) h2
        obtain ⟨ao, cap, rfl⟩ := row_form4 hR
        by_cases hd : n % (k + 1) = 0
        · have HF := Lib.hid (frmsM_yes hd)
          replace hmod : (n : Int).tmod ((k : Int) + 1) = 0 := by rw [hmod, hd]; rfl
          replace hmq : (n : Int) % ((k : Int) + 1) = 0 := by rw [hmq, hd]; rfl
          generalize n / (k + 1) = q at *
          have HR := Lib.hid hR
          clear hR hd
          go_wp2_with fail
          go_loopw [4, 6] (fun v4 v6 wr => AlI n k q w v4 v6 wr) (fun _ v6 _ => q - (intOf v6).toNat)
          case atStart => exact ⟨0, Nat.zero_le _, rfl, by simpa [partQ, MatRow] using HR.out, by (repeat' (first | (with_reducible exact hB) | (with_reducible exact Below.refl _ _) | (with_reducible refine Below.alloc ?_ ?_ _) | (with_reducible refine Below.setCell ?_ ?_ _) | (with_reducible refine Below.drew ?_) | (with_reducible refine below_drewN ?_ _) | (with_reducible exact Nat.le_refl _) | (with_reducible exact hB.size) | (simp [go_sem]; done) | (have := hB.size; simp [go_sem]; omega)))⟩
          case round =>
            obtain ⟨b, hb, rfl, hR, hB'⟩ := hrel
            clear hB HR
            have hB := hB'
            clear hB'
            have hL : (frmsM n k ++ partQ (k + 1) q b).length ≤ 3700 := by rw [List.length_append, partQ_len]; omega
            by_cases hlb : b < q
            · obtain ⟨ao, cap, rfl⟩ := row_form4 hR
              replace hR : wr.ownsRow w.heap.size 29 4 (.slice ao (frmsM n k ++ partQ (k + 1) q b).length cap) (frmsM n k ++ partQ (k + 1) q b).length (cs4 (frmsM n k ++ partQ (k + 1) q b)) := hR
              go_wp2_with (at_builtin; refine wpList_append_own _ rfl _ _ 24 rfl w.heap.size 29 i0 (.agg #[.int .i64 0, .int .i64 0, .int .i64 0, .int .i64 0]) 4 32 Try.underlying24 hi hz0 hz1 hz2 rfl (by decide) _ _ _ rfl (hR.alloc _) ⟨_, 0, none⟩ 1 1 [.int .i64 ((k : Int) + 1), .int .i64 (b : Int), .int .i64 0, .int .i64 (q : Int)] rfl rfl (cell_four_new _ _ _ _ _ _) (by simp [Value.oneCell']) (by unfold maxLen; omega) (by omega) (by have := hB.size; simp; omega) ?_; intro v' w1 hown' hgrow _; apply after_app4 hgrow hR hB; clear hB hgrow hR; intro hB; have hR := hown'; clear hown')
              go_roundw
              case rel => exact ⟨b + 1, by omega, by go_num, al_snoc hR, by (repeat' (first | (with_reducible exact hB) | (with_reducible exact Below.refl _ _) | (with_reducible refine Below.alloc ?_ ?_ _) | (with_reducible refine Below.setCell ?_ ?_ _) | (with_reducible refine Below.drew ?_) | (with_reducible refine below_drewN ?_ _) | (with_reducible exact Nat.le_refl _) | (with_reducible exact hB.size) | (simp [go_sem]; done) | (have := hB.size; simp [go_sem]; omega)))⟩
              case measure => simp [intOf]; omega
            · obtain rfl : b = q := by omega
              obtain ⟨ao, cap, rfl⟩ := row_form4 hR
              have HR := Lib.hid hR
              clear hR
              go_wp2_with fail
              go_roundw
              case rel => exact ⟨k + 1, by omega, by go_num, by rw [HF.out]; exact HR.out, by (repeat' (first | (with_reducible exact hB) | (with_reducible exact Below.refl _ _) | (with_reducible refine Below.alloc ?_ ?_ _) | (with_reducible refine Below.setCell ?_ ?_ _) | (with_reducible refine Below.drew ?_) | (with_reducible refine below_drewN ?_ _) | (with_reducible exact Nat.le_refl _) | (with_reducible exact hB.size) | (simp [go_sem]; done) | (have := hB.size; simp [go_sem]; omega)))⟩
              case measure => simp [intOf]; omega
        · have HF := Lib.hid (frmsM_no hd)
          have hm3 : ((n % (k + 1) : Nat) : Int) ≠ 0 := by omega
          have hm4 : (n % (k + 1) == 0) = false := by simp [hd]
          have hm5 : (n % (k + 1) = 0) = False := by simp [hd]
          generalize n % (k + 1) = rm at *
          have hm6 : ((rm : Int) == 0) = false := by simp; omega
          have HR := Lib.hid hR
          clear hR
          go_wp2_with fail
          go_loopw [4, 6] (fun v4 v6 wr => AlI n k 0 w v4 v6 wr) (fun _ v6 _ => 1 - (intOf v6).toNat)
          case atStart => exact ⟨0, Nat.zero_le _, rfl, by simpa [partQ, MatRow] using HR.out, by (repeat' (first | (with_reducible exact hB) | (with_reducible exact Below.refl _ _) | (with_reducible refine Below.alloc ?_ ?_ _) | (with_reducible refine Below.setCell ?_ ?_ _) | (with_reducible refine Below.drew ?_) | (with_reducible refine below_drewN ?_ _) | (with_reducible exact Nat.le_refl _) | (with_reducible exact hB.size) | (simp [go_sem]; done) | (have := hB.size; simp [go_sem]; omega)))⟩
          case round =>
            obtain ⟨b, hb, rfl, hR, hB'⟩ := hrel
            clear hB HR
            have hB := hB'
            clear hB'
            obtain rfl : b = 0 := by omega
            obtain ⟨ao, cap, rfl⟩ := row_form4 hR
            have HR := Lib.hid hR
            clear hR
            go_wp2_with fail
            go_roundw
            case rel => exact ⟨k + 1, by omega, by go_num, by rw [HF.out]; simpa [partQ, MatRow] using HR.out, by (repeat' (first | (with_reducible exact hB) | (with_reducible exact Below.refl _ _) | (with_reducible refine Below.alloc ?_ ?_ _) | (with_reducible refine Below.setCell ?_ ?_ _) | (with_reducible refine Below.drew ?_) | (with_reducible refine below_drewN ?_ _) | (with_reducible exact Nat.le_refl _) | (with_reducible exact hB.size) | (simp [go_sem]; done) | (have := hB.size; simp [go_sem]; omega)))⟩
            case measure => simp [intOf]; omega
      · obtain rfl : k = n := by omega
        obtain ⟨ao, cap, rfl⟩ := row_form4 hR
        have HR := Lib.hid hR
        clear hR
        go_wp2
        go_ret2
        exact ⟨_, by rw [HE.out]; rfl, by rw [HE.out]; exact HR.out, by (repeat' (first | (with_reducible exact hB) | (with_reducible exact Below.refl _ _) | (with_reducible refine Below.alloc ?_ ?_ _) | (with_reducible refine Below.setCell ?_ ?_ _) | (with_reducible refine Below.drew ?_) | (with_reducible refine below_drewN ?_ _) | (with_reducible exact Nat.le_refl _) | (with_reducible exact hB.size) | (simp [go_sem]; done) | (have := hB.size; simp [go_sem]; omega)))⟩
end Go.Proofs.Ytkihoccfmjigiaa

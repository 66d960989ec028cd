
/- The promise on all matrices in row form, walked over every slice of bytes: its loops. -/
import Derived.Test.YtkihoccfmjigiaaLawLe
import Derived.Test.YtkihoccfmjigiaaLawLd
import Derived.Deep.DeepCutAuto
namespace Go.Proofs.Ytkihoccfmjigiaa
open Go.RowKit

theorem forms_own {n : Nat} (hn : n ≤ 60) {m : M} (h : m ∈ frmsM n n) : m.c = 0 ∧ m.a * m.d = n ∧ mForm m = (m, true) := by
  obtain ⟨h1, h2⟩ := frms_ok hn n m h
  obtain ⟨k1, k2⟩ := rf_own h1 (Int.le_refl _) (by omega)
  exact ⟨h1.1, h2, by simp only [mForm, ltM, k1, k2, if_true]⟩
set_option maxRecDepth 100000 in
set_option maxHeartbeats 8000000 in
theorem lawLatticeAllD (A : Option Addr) (len cap : Nat) (zs : List Int) (w : World) (hRow : RowB .u8 w w.heap.size A len cap zs) : Calls Try.prog 3 #[.slice A len cap] w (fun E' W' => E' = .returned (.bool true) ∧ Below w.heap.size w W') := by
  by_cases hl : 1048576 < len
  · have hM := mem_nil w; have hB := Below.refl w.heap.size w; have hC := True.intro
    go_enter Try.func3, Try.ntmps3
    go_wp2
    go_ret
    exact ⟨rfl, by (repeat' (first | (with_reducible exact hB) | (with_reducible exact Below.refl _ _) | (with_reducible refine Below.alloc ?_ ?_ _) | (with_reducible refine Below.setCell ?_ ?_ _) | (with_reducible refine Below.drew ?_) | (with_reducible refine below_drewN ?_ _) | (with_reducible exact Nat.le_refl _) | (with_reducible exact hB.size) | (simp [go_sem]; done) | (have := hB.size; simp [go_sem]; omega)))⟩
  · have hM := mem_nil w; have hB := Below.refl w.heap.size w; have hC := True.intro
    go_enter Try.func3, Try.ntmps3
    go_upto_region 4 with (go_at_call 4; apply use_onerow (w := w) hRow (DrawLatticeAll_ _ _ _ _); (focus ((repeat' (first | (with_reducible exact hB) | (with_reducible exact Below.refl _ _) | (with_reducible refine Below.alloc ?_ ?_ _) | (with_reducible refine Below.setCell ?_ ?_ _) | (with_reducible refine Below.drew ?_) | (with_reducible refine below_drewN ?_ _) | (with_reducible exact Nat.le_refl _) | (with_reducible exact hB.size) | (simp [go_sem]; done) | (have := hB.size; simp [go_sem]; omega))); done)); (focus ((repeat' (first | (with_reducible exact hB) | (with_reducible exact Below.refl _ _) | (with_reducible refine Below.alloc ?_ ?_ _) | (with_reducible refine Below.setCell ?_ ?_ _) | (with_reducible refine Below.drew ?_) | (with_reducible refine below_drewN ?_ _) | (with_reducible exact Nat.le_refl _) | (with_reducible exact hB.size) | (simp [go_sem]; done) | (have := hB.size; simp [go_sem]; omega))); done)); rintro k w' hk0 hk1 hb; apply after_call (w := w) hb; (focus ((repeat' (first | (with_reducible exact hM) | (with_reducible apply mem_alloc) | (with_reducible apply mem_set) | (with_reducible apply mem_drew) | (with_reducible apply mem_drewN))); done)); (focus ((repeat' (first | (with_reducible exact hB) | (with_reducible exact Below.refl _ _) | (with_reducible refine Below.alloc ?_ ?_ _) | (with_reducible refine Below.setCell ?_ ?_ _) | (with_reducible refine Below.drew ?_) | (with_reducible refine below_drewN ?_ _) | (with_reducible exact Nat.le_refl _) | (with_reducible exact hB.size) | (simp [go_sem]; done) | (have := hB.size; simp [go_sem]; omega))); done)); (focus ((repeat' (first | (with_reducible exact hB) | (with_reducible exact Below.refl _ _) | (with_reducible refine Below.alloc ?_ ?_ _) | (with_reducible refine Below.setCell ?_ ?_ _) | (with_reducible refine Below.drew ?_) | (with_reducible refine below_drewN ?_ _) | (with_reducible exact Nat.le_refl _) | (with_reducible exact hB.size) | (simp [go_sem]; done) | (have := hB.size; simp [go_sem]; omega))); done)); clear hM hB hb; intro hM hB; (try clear hC); have hC := mem_facts hM; simp at hC)
    obtain ⟨w1, rfl⟩ : ∃ w1 : World, w1 = w' := ⟨_, rfl⟩
    have hz := mAllL_len k
    have HS := Lib.hid (fun W => sLatticeAll_ k W)
    have HI := Lib.hid (fun W => LatticeAll_ k W)
    have HB0 := Lib.hid hB
    clear hM hB hC
    unfold AllOk at HS HI
    by_cases hk : 1 ≤ k ∧ k ≤ 60
    · obtain ⟨n, rfl⟩ : ∃ n : Nat, k = n := ⟨k.toNat, by omega⟩
      have hE : mAllL (n : Int) = (frmsM n n, true) := by unfold mAllL; rw [if_pos hk, Int.toNat_natCast]
      rw [hE] at HS HI hz
      dsimp only at HS HI hz
      have HSD := Lib.hid (sdiv_all n (by omega) (by omega))
      have HFO := Lib.hid (fun m h => forms_own (n := n) (m := m) (by omega) h)
      have hn60 : n ≤ 60 := by omega
      clear hE hk hk0 hk1
      go_wp2_with fail
      refine (HI.out _).mono ?_
      rintro e w2 ⟨v1, rfl, hv1, hb1⟩
      have HV1 := Lib.hid hv1
      have HB1 := Lib.hid hb1
      clear hv1 hb1
      go_wp2_with fail
      refine (HS.out _).mono ?_
      rintro e w3 ⟨v0, rfl, hv0, hb2⟩
      have HV0 := Lib.hid hv0
      have HB2 := Lib.hid hb2
      clear hv0 hb2
      go_wp2_with fail
      refine (sameMats_same v1 v0 (frmsM n n) (by omega) _ (HV1.out.below HB2.out).reads HV0.out.reads).mono ?_
      rintro e w4 ⟨rfl, hb3⟩
      have HB3 := Lib.hid hb3
      clear hb3
      obtain ⟨ao, cap1, rfl, hcc⟩ := ((HV1.out.below HB2.out).below HB3.out).reads
      have HC := Lib.hid hcc
      have s0 := HB0.out.size
      have s1 := HB1.out.size
      have s2 := HB2.out.size
      have b4 := Lib.hid (((HB0.out.trans (HB1.out.mono s0)).trans (HB2.out.mono (by omega))).trans (HB3.out.mono (by omega)))
      clear hcc HV1 HV0 HB1 HB2 HB3 HB0 s0 s1 s2 HS HI
      go_wp2_with fail
      go_loop [8, 9] (fun v8 v9 => ∃ j : Nat, j ≤ n ∧ v9 = .int .i64 ((j : Int) + 1) ∧ v8 = .int .i64 (sdiv n j : Nat)) (fun _ v9 => n + 1 - (intOf v9).toNat)
      case atStart => exact ⟨0, Nat.zero_le _, rfl, rfl⟩
      case round =>
        obtain ⟨j, hj, rfl, rfl⟩ := hrel
        have hsb := sdiv_le n j
        have hjj : j * j ≤ 60 * 60 := Nat.mul_le_mul (by omega) (by omega)
        by_cases hlt : j < n
        · have e0 : decide ((j : Int) + 1 ≤ (n : Int)) = true := decide_eq_true (by omega)
          have hmod : ((n : Int)).tmod ((j : Int) + 1) = ((n % (j + 1) : Nat) : Int) := by rw [Int.tmod_eq_emod_of_nonneg (by omega)]; simp
          have hmq : (n : Int) % ((j : Int) + 1) = ((n % (j + 1) : Nat) : Int) := by simp
          by_cases hd : n % (j + 1) = 0
          · have HX := Lib.hid (show sdiv n (j + 1) = sdiv n j + (j + 1) by simp [sdiv, hd])
            replace hmod : (n : Int).tmod ((j : Int) + 1) = 0 := by rw [hmod, hd]; rfl
            replace hmq : (n : Int) % ((j : Int) + 1) = 0 := by rw [hmq, hd]; rfl
            clear hd
            generalize sdiv n j = sd at *
            go_wp2_with fail
            go_round
            case rel => exact ⟨j + 1, by omega, by go_num, by rw [HX.out]; first | (simp; done) | (simp; omega)⟩
            case measure => simp [intOf]; omega
          · have HX := Lib.hid (show sdiv n (j + 1) = sdiv n j by simp [sdiv, hd])
            have hm5 : (n % (j + 1) = 0) = False := by simp [hd]
            have hm4 : (n % (j + 1) == 0) = false := by simp [hd]
            generalize n % (j + 1) = rm at *
            generalize sdiv n j = sd at *
            go_wp2_with fail
            go_round
            case rel => exact ⟨j + 1, by omega, by go_num, by rw [HX.out]⟩
            case measure => simp [intOf]; omega
        · obtain rfl : j = n := by omega
          have HSD2 := Lib.hid HSD.out
          rw [HSD.out]
          go_wp2_with fail
          clear hRow hl hsb hjj
          obtain ⟨wA, hwA⟩ : ∃ x : World, x = w := ⟨_, rfl⟩
          subst hwA
          obtain ⟨w, hw4⟩ : ∃ x : World, x = w4 := ⟨_, rfl⟩
          subst hw4
          have hM := mem_nil w; have hB := Below.refl w.heap.size w; have hC := True.intro
          go_loopw [10] (fun v10 wr => ∃ i : Nat, i ≤ (frmsM j j).length ∧ v10 = .int .i64 i ∧ Below w.heap.size w wr) (fun v10 _ => (frmsM j j).length - (intOf v10).toNat)
          case atStart => exact ⟨0, Nat.zero_le _, rfl, by (repeat' (first | (with_reducible exact hB) | (with_reducible exact Below.refl _ _) | (with_reducible refine Below.alloc ?_ ?_ _) | (with_reducible refine Below.setCell ?_ ?_ _) | (with_reducible refine Below.drew ?_) | (with_reducible refine below_drewN ?_ _) | (with_reducible exact Nat.le_refl _) | (with_reducible exact hB.size) | (simp [go_sem]; done) | (have := hB.size; simp [go_sem]; omega)))⟩
          case round =>
            obtain ⟨i, hi, rfl, hB'⟩ := hrel
            clear hB hM hC
            have hB := hB'
            clear hB'
            by_cases hlt : i < (frmsM j j).length
            · obtain ⟨g, rfl, h1⟩ := HC.out i hlt
              have hfo := HFO.out _ (getD_mem hlt)
              generalize (frmsM j j).getD i zm = m at h1 hfo
              obtain ⟨p, q, r, t⟩ := m
              obtain ⟨f1, f2, f3⟩ := hfo
              dsimp only at f1 f2
              subst f1
              have c1 := fun W => LatticeForm_ p q 0 t W
              rw [f3] at c1
              dsimp only at c1
              have HQ := Lib.hid (show ∀ W' : World, Below w.heap.size w W' → W'.cell? ⟨g, i * 4, none⟩ = some (.int .i64 p) ∧ W'.cell? ⟨g, i * 4 + 1, none⟩ = some (.int .i64 q) ∧ W'.cell? ⟨g, i * 4 + 2, none⟩ = some (.int .i64 0) ∧ W'.cell? ⟨g, i * 4 + 3, none⟩ = some (.int .i64 t) from fun W' hb => h1.below hb)
              have hw : IntKind.i64.wrap (p * t) = (j : Int) := by rw [f2, iw]; exact wrap_mid (by omega)
              have hE := run_neqM p q 0 t
              clear h1 f2 f3
              obtain ⟨a1, a2, a3, a4⟩ := HQ.out _ hB
              have hM := mem_nil wr
              have hC := True.intro
              go_wp2_with ((go_at_call 8; refine (c1 _).mono ?_; rintro e w' ⟨rfl, hb⟩; apply after_call (w := w) hb; (focus ((repeat' (first | (with_reducible exact hM) | (with_reducible apply mem_alloc) | (with_reducible apply mem_set) | (with_reducible apply mem_drew) | (with_reducible apply mem_drewN))); done)); (focus ((repeat' (first | (with_reducible exact hB) | (with_reducible exact Below.refl _ _) | (with_reducible refine Below.alloc ?_ ?_ _) | (with_reducible refine Below.setCell ?_ ?_ _) | (with_reducible refine Below.drew ?_) | (with_reducible refine below_drewN ?_ _) | (with_reducible exact Nat.le_refl _) | (with_reducible exact hB.size) | (simp [go_sem]; done) | (have := hB.size; simp [go_sem]; omega))); done)); (focus ((repeat' (first | (with_reducible exact hB) | (with_reducible exact Below.refl _ _) | (with_reducible refine Below.alloc ?_ ?_ _) | (with_reducible refine Below.setCell ?_ ?_ _) | (with_reducible refine Below.drew ?_) | (with_reducible refine below_drewN ?_ _) | (with_reducible exact Nat.le_refl _) | (with_reducible exact hB.size) | (simp [go_sem]; done) | (have := hB.size; simp [go_sem]; omega))); done)); clear hM hB hb; intro hM hB; (try clear hC); have hC := mem_facts hM; simp at hC); (try clear a1 a2 a3 a4))
              have q2 := HQ.out _ hB
              obtain ⟨w5, rfl⟩ : ∃ x : World, x = w' := ⟨_, rfl⟩
              have hg : g < w5.heap.size := World.block_lt_of_cell? w5 _ q2.1
              have hgn : (g = w5.heap.size) = False := by simp; omega
              have hgn' : (w5.heap.size = g) = False := by simp; omega
              (refine wp_region_T2 (fun W' => (W'.cell? ⟨w5.heap.size, 0, none⟩ = some (.int .i64 p) ∧ W'.cell? ⟨w5.heap.size, 1, none⟩ = some (.int .i64 q) ∧ W'.cell? ⟨w5.heap.size, 2, none⟩ = some (.int .i64 0) ∧ W'.cell? ⟨w5.heap.size, 3, none⟩ = some (.int .i64 t)) ∧ (W'.cell? ⟨g, i * 4, none⟩ = some (.int .i64 p) ∧ W'.cell? ⟨g, i * 4 + 1, none⟩ = some (.int .i64 q) ∧ W'.cell? ⟨g, i * 4 + 2, none⟩ = some (.int .i64 0) ∧ W'.cell? ⟨g, i * 4 + 3, none⟩ = some (.int .i64 t))) 100 (by kernel_rfl) ?_ ?_; (focus (simp [*, go_sem]; done)); intro hS)
              (refine wpT_take (i := 0) (oi := ?_) (v := ?_) hS ?_ ?_ ?_ ?_ ?_ ?_; rotate_left 2; (focus (simp only [List.getElem?_toArray, List.getElem?_cons_zero]; exact rfl)); (focus (kernel_rfl)); (focus (rfl)); (focus (intro w' hW; (try dsimp only at hW); go_simp; (try with_reducible rfl); done)); (focus (exact fun _ _ _ h => h)); (try simp only [Act.put, List.setIfInBounds_toArray, List.set_cons_zero, List.set_cons_succ])); (refine wpT_take (i := 1) (oi := ?_) (v := ?_) hS ?_ ?_ ?_ ?_ ?_ ?_; rotate_left 2; (focus (simp only [List.getElem?_toArray, List.getElem?_cons_zero, List.getElem?_cons_succ]; exact rfl)); (focus (kernel_rfl)); (focus (rfl)); (focus (intro w' hW; (try dsimp only at hW); go_simp; (try with_reducible rfl); done)); (focus (exact fun _ _ _ h => h)); (try simp only [Act.put, List.setIfInBounds_toArray, List.set_cons_zero, List.set_cons_succ])); (refine wpT_take (i := 2) (oi := ?_) (v := ?_) hS ?_ ?_ ?_ ?_ ?_ ?_; rotate_left 2; (focus (simp only [List.getElem?_toArray, List.getElem?_cons_zero, List.getElem?_cons_succ]; exact rfl)); (focus (kernel_rfl)); (focus (rfl)); (focus (intro w' hW; (try dsimp only at hW); go_simp; (try with_reducible rfl); done)); (focus (exact fun _ _ _ h => h)); (try simp only [Act.put, List.setIfInBounds_toArray, List.set_cons_zero, List.set_cons_succ])); (refine wpT_take (i := 3) (oi := ?_) (v := ?_) hS ?_ ?_ ?_ ?_ ?_ ?_; rotate_left 2; (focus (simp only [List.getElem?_toArray, List.getElem?_cons_zero, List.getElem?_cons_succ]; exact rfl)); (focus (kernel_rfl)); (focus (rfl)); (focus (intro w' hW; (try dsimp only at hW); go_simp; (try with_reducible rfl); done)); (focus (exact fun _ _ _ h => h)); (try simp only [Act.put, List.setIfInBounds_toArray, List.set_cons_zero, List.set_cons_succ])); (refine wpT_take (i := 4) (oi := ?_) (v := ?_) hS ?_ ?_ ?_ ?_ ?_ ?_; rotate_left 2; (focus (simp only [List.getElem?_toArray, List.getElem?_cons_zero, List.getElem?_cons_succ]; exact rfl)); (focus (kernel_rfl)); (focus (rfl)); (focus (intro w' hW; (try dsimp only at hW); go_simp; (try with_reducible rfl); done)); (focus (exact fun _ _ _ h => h)); (try simp only [Act.put, List.setIfInBounds_toArray, List.set_cons_zero, List.set_cons_succ])); (refine wpT_take (i := 5) (oi := ?_) (v := ?_) hS ?_ ?_ ?_ ?_ ?_ ?_; rotate_left 2; (focus (simp only [List.getElem?_toArray, List.getElem?_cons_zero, List.getElem?_cons_succ]; exact rfl)); (focus (kernel_rfl)); (focus (rfl)); (focus (intro w' hW; (try dsimp only at hW); go_simp; (try with_reducible rfl); done)); (focus (exact fun _ _ _ h => h)); (try simp only [Act.put, List.setIfInBounds_toArray, List.set_cons_zero, List.set_cons_succ])); (refine wpT_take (i := 6) (oi := ?_) (v := ?_) hS ?_ ?_ ?_ ?_ ?_ ?_; rotate_left 2; (focus (simp only [List.getElem?_toArray, List.getElem?_cons_zero, List.getElem?_cons_succ]; exact rfl)); (focus (kernel_rfl)); (focus (rfl)); (focus (intro w' hW; (try dsimp only at hW); go_simp; (try with_reducible rfl); done)); (focus (exact fun _ _ _ h => h)); (try simp only [Act.put, List.setIfInBounds_toArray, List.set_cons_zero, List.set_cons_succ])); (refine wpT_take (i := 7) (oi := ?_) (v := ?_) hS ?_ ?_ ?_ ?_ ?_ ?_; rotate_left 2; (focus (simp only [List.getElem?_toArray, List.getElem?_cons_zero, List.getElem?_cons_succ]; exact rfl)); (focus (kernel_rfl)); (focus (rfl)); (focus (intro w' hW; (try dsimp only at hW); go_simp; (try with_reducible rfl); done)); (focus (exact fun _ _ _ h => h)); (try simp only [Act.put, List.setIfInBounds_toArray, List.set_cons_zero, List.set_cons_succ])); (refine wpT_take (i := 8) (oi := ?_) (v := ?_) hS ?_ ?_ ?_ ?_ ?_ ?_; rotate_left 2; (focus (simp only [List.getElem?_toArray, List.getElem?_cons_zero, List.getElem?_cons_succ]; exact rfl)); (focus (kernel_rfl)); (focus (rfl)); (focus (intro w' hW; (try dsimp only at hW); go_simp; (try with_reducible rfl); done)); (focus (exact fun _ _ _ h => h)); (try simp only [Act.put, List.setIfInBounds_toArray, List.set_cons_zero, List.set_cons_succ])); (refine wpT_take (i := 9) (oi := ?_) (v := ?_) hS ?_ ?_ ?_ ?_ ?_ ?_; rotate_left 2; (focus (simp only [List.getElem?_toArray, List.getElem?_cons_zero, List.getElem?_cons_succ]; exact rfl)); (focus (kernel_rfl)); (focus (rfl)); (focus (intro w' hW; (try dsimp only at hW); go_simp; (try with_reducible rfl); done)); (focus (exact fun _ _ _ h => h)); (try simp only [Act.put, List.setIfInBounds_toArray, List.set_cons_zero, List.set_cons_succ])); (refine wpT_take (i := 10) (oi := ?_) (v := ?_) hS ?_ ?_ ?_ ?_ ?_ ?_; rotate_left 2; (focus (simp only [List.getElem?_toArray, List.getElem?_cons_zero, List.getElem?_cons_succ]; exact rfl)); (focus (kernel_rfl)); (focus (rfl)); (focus (intro w' hW; (try dsimp only at hW); go_simp; (try with_reducible rfl); done)); (focus (exact fun _ _ _ h => h)); (try simp only [Act.put, List.setIfInBounds_toArray, List.set_cons_zero, List.set_cons_succ])); (refine wpT_take (i := 11) (oi := ?_) (v := ?_) hS ?_ ?_ ?_ ?_ ?_ ?_; rotate_left 2; (focus (simp only [List.getElem?_toArray, List.getElem?_cons_zero, List.getElem?_cons_succ]; exact rfl)); (focus (kernel_rfl)); (focus (rfl)); (focus (intro w' hW; (try dsimp only at hW); go_simp; (try with_reducible rfl); done)); (focus (exact fun _ _ _ h => h)); (try simp only [Act.put, List.setIfInBounds_toArray, List.set_cons_zero, List.set_cons_succ])); (refine wpT_take (i := 12) (oi := ?_) (v := ?_) hS ?_ ?_ ?_ ?_ ?_ ?_; rotate_left 2; (focus (simp only [List.getElem?_toArray, List.getElem?_cons_zero, List.getElem?_cons_succ]; exact rfl)); (focus (kernel_rfl)); (focus (rfl)); (focus (intro w' hW; (try dsimp only at hW); go_simp; (try with_reducible rfl); done)); (focus (exact fun _ _ _ h => h)); (try simp only [Act.put, List.setIfInBounds_toArray, List.set_cons_zero, List.set_cons_succ])); (refine wpT_take (i := 13) (oi := ?_) (v := ?_) hS ?_ ?_ ?_ ?_ ?_ ?_; rotate_left 2; (focus (simp only [List.getElem?_toArray, List.getElem?_cons_zero, List.getElem?_cons_succ]; exact rfl)); (focus (kernel_rfl)); (focus (rfl)); (focus (intro w' hW; (try dsimp only at hW); go_simp; (try with_reducible rfl); done)); (focus (exact fun _ _ _ h => h)); (try simp only [Act.put, List.setIfInBounds_toArray, List.set_cons_zero, List.set_cons_succ])); (refine wpT_take (i := 14) (oi := ?_) (v := ?_) hS ?_ ?_ ?_ ?_ ?_ ?_; rotate_left 2; (focus (simp only [List.getElem?_toArray, List.getElem?_cons_zero, List.getElem?_cons_succ]; exact rfl)); (focus (kernel_rfl)); (focus (rfl)); (focus (intro w' hW; (try dsimp only at hW); go_simp; (try with_reducible rfl); done)); (focus (exact fun _ _ _ h => h)); (try simp only [Act.put, List.setIfInBounds_toArray, List.set_cons_zero, List.set_cons_succ])); (refine wpT_take (i := 15) (oi := ?_) (v := ?_) hS ?_ ?_ ?_ ?_ ?_ ?_; rotate_left 2; (focus (simp only [List.getElem?_toArray, List.getElem?_cons_zero, List.getElem?_cons_succ]; exact rfl)); (focus (kernel_rfl)); (focus (rfl)); (focus (intro w' hW; (try dsimp only at hW); go_simp; (try with_reducible rfl); done)); (focus (exact fun _ _ _ h => h)); (try simp only [Act.put, List.setIfInBounds_toArray, List.set_cons_zero, List.set_cons_succ])); (refine wpT_take (i := 16) (oi := ?_) (v := ?_) hS ?_ ?_ ?_ ?_ ?_ ?_; rotate_left 2; (focus (simp only [List.getElem?_toArray, List.getElem?_cons_zero, List.getElem?_cons_succ]; exact rfl)); (focus (kernel_rfl)); (focus (rfl)); (focus (intro w' hW; (try dsimp only at hW); go_simp; (try with_reducible rfl); done)); (focus (exact fun _ _ _ h => h)); (try simp only [Act.put, List.setIfInBounds_toArray, List.set_cons_zero, List.set_cons_succ])); (refine wpT_take (i := 17) (oi := ?_) (v := ?_) hS ?_ ?_ ?_ ?_ ?_ ?_; rotate_left 2; (focus (simp only [List.getElem?_toArray, List.getElem?_cons_zero, List.getElem?_cons_succ]; exact rfl)); (focus (kernel_rfl)); (focus (rfl)); (focus (intro w' hW; (try dsimp only at hW); go_simp; (try with_reducible rfl); done)); (focus (exact fun _ _ _ h => h)); (try simp only [Act.put, List.setIfInBounds_toArray, List.set_cons_zero, List.set_cons_succ])); (refine wpT_take (i := 18) (oi := ?_) (v := ?_) hS ?_ ?_ ?_ ?_ ?_ ?_; rotate_left 2; (focus (simp only [List.getElem?_toArray, List.getElem?_cons_zero, List.getElem?_cons_succ]; exact rfl)); (focus (kernel_rfl)); (focus (rfl)); (focus (intro w' hW; (try dsimp only at hW); go_simp; (try with_reducible rfl); done)); (focus (exact fun _ _ _ h => h)); (try simp only [Act.put, List.setIfInBounds_toArray, List.set_cons_zero, List.set_cons_succ]))
              refine wpT_done (by kernel_rfl) ?_ _
              go_wp2_with fail
              go_roundw
              case rel => exact ⟨i + 1, by omega, by go_num, by (repeat' (first | (with_reducible exact hB) | (with_reducible exact Below.refl _ _) | (with_reducible refine Below.alloc ?_ ?_ _) | (with_reducible refine Below.setCell ?_ ?_ _) | (with_reducible refine Below.drew ?_) | (with_reducible refine below_drewN ?_ _) | (with_reducible exact Nat.le_refl _) | (with_reducible exact hB.size) | (simp [go_sem]; done) | (have := hB.size; simp [go_sem]; omega)))⟩
              case measure => simp [intOf]; omega
            · obtain rfl : i = (frmsM j j).length := by omega
              have hnn : (((frmsM j j).length : Int) == ((frmsM j j).length : Int)) = true := by simp
              go_wp2_with fail
              go_ret
              exact ⟨rfl, b4.out.trans (hB.mono b4.out.size)⟩
    · have hE : mAllL k = ([], false) := by unfold mAllL; rw [if_neg hk]
      rw [hE] at HS HI
      dsimp only at HS HI
      clear hE
      go_wp2_with fail
      refine (HI.out _).mono ?_
      rintro e w2 ⟨v1, rfl, hv1, hb1⟩
      have HV1 := Lib.hid hv1
      have HB1 := Lib.hid hb1
      clear hv1 hb1
      go_wp2_with fail
      refine (HS.out _).mono ?_
      rintro e w3 ⟨v0, rfl, hv0, hb2⟩
      have HV0 := Lib.hid hv0
      have HB2 := Lib.hid hb2
      clear hv0 hb2
      go_wp2_with fail
      refine (sameMats_same v1 v0 [] (by simp) _ (HV1.out.below HB2.out).reads HV0.out.reads).mono ?_
      rintro e w4 ⟨rfl, hb3⟩
      have HB3 := Lib.hid hb3
      clear hb3
      go_wp2_with fail
      refine (sameMats_same v1 v0 [] (by simp) _ ((HV1.out.below HB2.out).below HB3.out).reads (HV0.out.below HB3.out).reads).mono ?_
      rintro e w5 ⟨rfl, hb4⟩
      have HB4 := Lib.hid hb4
      clear hb4
      have s0 := HB0.out.size
      have s1 := HB1.out.size
      have s2 := HB2.out.size
      have s3 := HB3.out.size
      go_wp2_with fail
      go_ret
      exact ⟨rfl, (((HB0.out.trans (HB1.out.mono s0)).trans (HB2.out.mono (by omega))).trans (HB3.out.mono (by omega))).trans (HB4.out.mono (by omega))⟩
theorem goLatticeAll (A : Option Addr) (len cap : Nat) (zs : List Int) (w : World) (h : IsRow .u8 w A len cap zs) : Calls Try.prog 3 #[.slice A len cap] w (fun E' W' => E' = .returned (.bool true) ∧ Below w.heap.size w W') := lawLatticeAllD A len cap zs w (rowB h)
end Go.Proofs.Ytkihoccfmjigiaa

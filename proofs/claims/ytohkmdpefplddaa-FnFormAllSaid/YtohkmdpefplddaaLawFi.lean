
/- The promise on all plain short forms with a discriminant, walked over every slice of bytes. -/
import Derived.Test.YtohkmdpefplddaaDrawFo
import Derived.Test.YtohkmdpefplddaaLawFb
import Derived.Test.YtohkmdpefplddaaFoZ
import Derived.Deep.DeepCutAuto
namespace Go.Proofs.Ytohkmdpefplddaa
open Go.RowKit

theorem getD_memF {ms : List F3} {j : Nat} (h : j < ms.length) : ms.getD j zF ∈ ms := by
  rw [List.getD_eq_getElem?_getD, List.getElem?_eq_getElem h]; exact List.getElem_mem h
theorem run_neqF (a b c : Int) (W : World) : (binOp .neq 29 (.agg #[.int .i64 a, .int .i64 b, .int .i64 c]) (.agg #[.int .i64 a, .int .i64 b, .int .i64 c])).run Try.prog W = .ok (.bool false) W := by go_simp
set_option maxHeartbeats 2000000 in
theorem sameForms_same (v u : Value) (ms : List F3) (hz : ms.length ≤ 1000000) (w : World) (hv : ReadsF w v ms) (hu : ReadsF w u ms) : Calls Try.prog 8 #[v, u] w (fun E' W' => E' = .returned (.bool true) ∧ Below w.heap.size w W') := by
  obtain ⟨ao, cap, rfl, hc⟩ := hv
  obtain ⟨bo, cap', rfl, hd⟩ := hu
  have HC := Lib.hid hc
  have HD := Lib.hid hd
  clear hc hd
  have hM := mem_nil w; have hB := Below.refl w.heap.size w; have hC := True.intro
  go_enter Try.func8, Try.ntmps8
  go_wp2
  go_loopw [5] (fun i wr => ∃ k : Nat, k ≤ ms.length ∧ i = .int .i64 k ∧ Below w.heap.size w wr) (fun i _ => ms.length - (intOf i).toNat)
  case atStart => exact ⟨0, Nat.zero_le _, rfl, by (repeat' (first | (with_reducible exact hB) | (with_reducible exact Below.refl _ _) | (with_reducible refine Below.alloc ?_ ?_ _) | (with_reducible refine Below.setCell ?_ ?_ _) | (with_reducible refine Below.drew ?_) | (with_reducible refine below_drewN ?_ _) | (with_reducible exact Nat.le_refl _) | (with_reducible exact hB.size) | (simp [go_sem]; done) | (have := hB.size; simp [go_sem]; omega)))⟩
  case round =>
    obtain ⟨k, hk, rfl, hB'⟩ := hrel
    clear hB hM hC
    have hB := hB'
    clear hB'
    by_cases hlt : k < ms.length
    · obtain ⟨g, rfl, h1⟩ := HC.out k hlt
      obtain ⟨g', rfl, h2⟩ := HD.out k hlt
      generalize ms.getD k zF = m at h1 h2
      obtain ⟨p, q, r⟩ := m
      obtain ⟨a1, a2, a3⟩ := h1.below hB
      obtain ⟨b1, b2, b3⟩ := h2.below hB
      clear h1 h2
      dsimp only at a1 a2 a3 b1 b2 b3
      have hE := run_neqF p q r
      go_wp2_with fail
      go_quiet (fail)
      go_wp2
      go_roundw
      case rel => exact ⟨k + 1, by omega, by go_num, by (repeat' (first | (with_reducible exact hB) | (with_reducible exact Below.refl _ _) | (with_reducible refine Below.alloc ?_ ?_ _) | (with_reducible refine Below.setCell ?_ ?_ _) | (with_reducible refine Below.drew ?_) | (with_reducible refine below_drewN ?_ _) | (with_reducible exact Nat.le_refl _) | (with_reducible exact hB.size) | (simp [go_sem]; done) | (have := hB.size; simp [go_sem]; omega)))⟩
      case measure => simp [intOf]; omega
    · obtain rfl : k = ms.length := by omega
      go_wp2
      go_ret
      exact ⟨rfl, by (repeat' (first | (with_reducible exact hB) | (with_reducible exact Below.refl _ _) | (with_reducible refine Below.alloc ?_ ?_ _) | (with_reducible refine Below.setCell ?_ ?_ _) | (with_reducible refine Below.drew ?_) | (with_reducible refine below_drewN ?_ _) | (with_reducible exact Nat.le_refl _) | (with_reducible exact hB.size) | (simp [go_sem]; done) | (have := hB.size; simp [go_sem]; omega)))⟩
set_option maxRecDepth 100000 in
set_option maxHeartbeats 4000000 in
theorem lawFAll (A : Option Addr) (len cap : Nat) (zs : List Int) (w : World) (hRow : RowB .u8 w w.heap.size A len cap zs) : Calls Try.prog 3 #[.slice A len cap] w (fun E' W' => E' = .returned (.bool true) ∧ Below w.heap.size w W') := by
  by_cases hl : 1048576 < len
  · have hM := mem_nil w; have hB := Below.refl w.heap.size w; have hC := True.intro
    go_enter Try.func3, Try.ntmps3
    go_wp2
    go_ret
    exact ⟨rfl, by (repeat' (first | (with_reducible exact hB) | (with_reducible exact Below.refl _ _) | (with_reducible refine Below.alloc ?_ ?_ _) | (with_reducible refine Below.setCell ?_ ?_ _) | (with_reducible refine Below.drew ?_) | (with_reducible refine below_drewN ?_ _) | (with_reducible exact Nat.le_refl _) | (with_reducible exact hB.size) | (simp [go_sem]; done) | (have := hB.size; simp [go_sem]; omega)))⟩
  · have hM := mem_nil w; have hB := Below.refl w.heap.size w; have hC := True.intro
    go_enter Try.func3, Try.ntmps3
    go_upto_region 4 with (go_at_call 5; apply use_fnu (w := w) hRow (DrawFormAll_ _ _ _ _); (focus ((repeat' (first | (with_reducible exact hB) | (with_reducible exact Below.refl _ _) | (with_reducible refine Below.alloc ?_ ?_ _) | (with_reducible refine Below.setCell ?_ ?_ _) | (with_reducible refine Below.drew ?_) | (with_reducible refine below_drewN ?_ _) | (with_reducible exact Nat.le_refl _) | (with_reducible exact hB.size) | (simp [go_sem]; done) | (have := hB.size; simp [go_sem]; omega))); done)); (focus ((repeat' (first | (with_reducible exact hB) | (with_reducible exact Below.refl _ _) | (with_reducible refine Below.alloc ?_ ?_ _) | (with_reducible refine Below.setCell ?_ ?_ _) | (with_reducible refine Below.drew ?_) | (with_reducible refine below_drewN ?_ _) | (with_reducible exact Nat.le_refl _) | (with_reducible exact hB.size) | (simp [go_sem]; done) | (have := hB.size; simp [go_sem]; omega))); done)); rintro k w' hb; apply after_call (w := w) hb; (focus ((repeat' (first | (with_reducible exact hM) | (with_reducible apply mem_alloc) | (with_reducible apply mem_set) | (with_reducible apply mem_drew) | (with_reducible apply mem_drewN))); done)); (focus ((repeat' (first | (with_reducible exact hB) | (with_reducible exact Below.refl _ _) | (with_reducible refine Below.alloc ?_ ?_ _) | (with_reducible refine Below.setCell ?_ ?_ _) | (with_reducible refine Below.drew ?_) | (with_reducible refine below_drewN ?_ _) | (with_reducible exact Nat.le_refl _) | (with_reducible exact hB.size) | (simp [go_sem]; done) | (have := hB.size; simp [go_sem]; omega))); done)); (focus ((repeat' (first | (with_reducible exact hB) | (with_reducible exact Below.refl _ _) | (with_reducible refine Below.alloc ?_ ?_ _) | (with_reducible refine Below.setCell ?_ ?_ _) | (with_reducible refine Below.drew ?_) | (with_reducible refine below_drewN ?_ _) | (with_reducible exact Nat.le_refl _) | (with_reducible exact hB.size) | (simp [go_sem]; done) | (have := hB.size; simp [go_sem]; omega))); done)); clear hM hB hb; intro hM hB; (try clear hC); have hC := mem_facts hM; simp at hC)
    obtain ⟨w1, rfl⟩ : ∃ w1 : World, w1 = w' := ⟨_, rfl⟩
    have hz := fAll_len k
    have HS := Lib.hid (fun W => sFormAll_ k W)
    have HI := Lib.hid (fun W => FormAll_ k W)
    have HB0 := Lib.hid hB
    clear hM hB hC
    unfold FaOk at HS HI
    have hf := @all_facts k
    generalize (fAll k).1 = fs at *
    generalize (fAll k).2 = ok at *
    cases ok
    · clear hf
      go_wp2_with fail
      refine (HI.out _).mono ?_
      rintro e w2 ⟨v1, rfl, hv1, hb1⟩
      have HV1 := Lib.hid hv1
      have HB1 := Lib.hid hb1
      clear hv1 hb1
      go_wp2_with fail
      refine (HS.out _).mono ?_
      rintro e w3 ⟨v0, rfl, hv0, hb2⟩
      have HV0 := Lib.hid hv0
      have HB2 := Lib.hid hb2
      clear hv0 hb2
      go_wp2_with fail
      refine (sameForms_same v1 v0 fs (by omega) _ (HV1.out.below HB2.out).reads HV0.out.reads).mono ?_
      rintro e w4 ⟨rfl, hb3⟩
      have HB3 := Lib.hid hb3
      clear hb3
      go_wp2_with fail
      refine (sameForms_same v1 v0 fs (by omega) _ ((HV1.out.below HB2.out).below HB3.out).reads (HV0.out.below HB3.out).reads).mono ?_
      rintro e w5 ⟨rfl, hb4⟩
      have HB4 := Lib.hid hb4
      clear hb4
      have s0 := HB0.out.size
      have s1 := HB1.out.size
      have s2 := HB2.out.size
      have s3 := HB3.out.size
      go_wp2_with fail
      go_ret
      exact ⟨rfl, (((HB0.out.trans (HB1.out.mono s0)).trans (HB2.out.mono (by omega))).trans (HB3.out.mono (by omega))).trans (HB4.out.mono (by omega))⟩
    · obtain ⟨d, rfl, hd1, hd2, hok, hmod⟩ := hf rfl
      have HOK := Lib.hid hok
      have HMD := Lib.hid hmod
      clear hf hok hmod
      go_wp2_with fail
      refine (HI.out _).mono ?_
      rintro e w2 ⟨v1, rfl, hv1, hb1⟩
      have HV1 := Lib.hid hv1
      have HB1 := Lib.hid hb1
      clear hv1 hb1
      go_wp2_with fail
      refine (HS.out _).mono ?_
      rintro e w3 ⟨v0, rfl, hv0, hb2⟩
      have HV0 := Lib.hid hv0
      have HB2 := Lib.hid hb2
      clear hv0 hb2
      go_wp2_with fail
      refine (sameForms_same v1 v0 fs (by omega) _ (HV1.out.below HB2.out).reads HV0.out.reads).mono ?_
      rintro e w4 ⟨rfl, hb3⟩
      have HB3 := Lib.hid hb3
      clear hb3
      obtain ⟨ao, cap1, rfl, hcc⟩ := ((HV1.out.below HB2.out).below HB3.out).reads
      have HC := Lib.hid hcc
      have s0 := HB0.out.size
      have s1 := HB1.out.size
      have s2 := HB2.out.size
      have b4 := Lib.hid (((HB0.out.trans (HB1.out.mono s0)).trans (HB2.out.mono (by omega))).trans (HB3.out.mono (by omega)))
      clear hcc HV1 HV0 HB1 HB2 HB3 HB0 s0 s1 s2 HS HI
      go_wp2_with fail
      clear hRow hl
      obtain ⟨wA, hwA⟩ : ∃ x : World, x = w := ⟨_, rfl⟩
      subst hwA
      obtain ⟨w, hw4⟩ : ∃ x : World, x = w4 := ⟨_, rfl⟩
      subst hw4
      have hM := mem_nil w; have hB := Below.refl w.heap.size w; have hC := True.intro
      go_loopw [8] (fun v8 wr => ∃ i : Nat, i ≤ fs.length ∧ v8 = .int .i64 i ∧ Below w.heap.size w wr) (fun v8 _ => fs.length - (intOf v8).toNat)
      case atStart => exact ⟨0, Nat.zero_le _, rfl, by (repeat' (first | (with_reducible exact hB) | (with_reducible exact Below.refl _ _) | (with_reducible refine Below.alloc ?_ ?_ _) | (with_reducible refine Below.setCell ?_ ?_ _) | (with_reducible refine Below.drew ?_) | (with_reducible refine below_drewN ?_ _) | (with_reducible exact Nat.le_refl _) | (with_reducible exact hB.size) | (simp [go_sem]; done) | (have := hB.size; simp [go_sem]; omega)))⟩
      case round =>
        obtain ⟨i, hi, rfl, hB'⟩ := hrel
        clear hB hM hC
        have hB := hB'
        clear hB'
        by_cases hlt : i < fs.length
        · obtain ⟨g, rfl, h1⟩ := HC.out i hlt
          have hfo := HOK.out _ (getD_memF hlt)
          generalize fs.getD i zF = m at h1 hfo
          obtain ⟨p, q, r⟩ := m
          obtain ⟨f1, f2⟩ := hfo
          have c1 := fun W => FormShort_ p q r W
          have c2 := fun W => FormDisc_ p q r W
          rw [f1] at c1
          rw [f2] at c2
          dsimp only at c1 c2
          have HQ := Lib.hid (show ∀ W' : World, Below w.heap.size w W' → W'.cell? ⟨g, i * 3, none⟩ = some (.int .i64 p) ∧ W'.cell? ⟨g, i * 3 + 1, none⟩ = some (.int .i64 q) ∧ W'.cell? ⟨g, i * 3 + 2, none⟩ = some (.int .i64 r) from fun W' hb => h1.below hb)
          have hE := run_neqF p q r
          have hw0 : wrap64 (0 - (d : Int)) = -(d : Int) := by rw [wrap_mid (by omega)]; omega
          clear h1 f1 f2
          obtain ⟨a1, a2, a3⟩ := HQ.out _ hB
          have hM := mem_nil wr
          have hC := True.intro
          go_upto_region 12 with ((go_at_call 9; refine (c1 _).mono ?_; rintro e w' ⟨rfl, hb⟩; apply after_call (w := w) hb; (focus ((repeat' (first | (with_reducible exact hM) | (with_reducible apply mem_alloc) | (with_reducible apply mem_set) | (with_reducible apply mem_drew) | (with_reducible apply mem_drewN))); done)); (focus ((repeat' (first | (with_reducible exact hB) | (with_reducible exact Below.refl _ _) | (with_reducible refine Below.alloc ?_ ?_ _) | (with_reducible refine Below.setCell ?_ ?_ _) | (with_reducible refine Below.drew ?_) | (with_reducible refine below_drewN ?_ _) | (with_reducible exact Nat.le_refl _) | (with_reducible exact hB.size) | (simp [go_sem]; done) | (have := hB.size; simp [go_sem]; omega))); done)); (focus ((repeat' (first | (with_reducible exact hB) | (with_reducible exact Below.refl _ _) | (with_reducible refine Below.alloc ?_ ?_ _) | (with_reducible refine Below.setCell ?_ ?_ _) | (with_reducible refine Below.drew ?_) | (with_reducible refine below_drewN ?_ _) | (with_reducible exact Nat.le_refl _) | (with_reducible exact hB.size) | (simp [go_sem]; done) | (have := hB.size; simp [go_sem]; omega))); done)); clear hM hB hb; intro hM hB; (try clear hC); have hC := mem_facts hM; simp at hC); clear c1; (try clear a1 a2 a3))
          obtain ⟨w5, rfl⟩ : ∃ x : World, x = w' := ⟨_, rfl⟩
          obtain ⟨b1, b2, b3⟩ := HQ.out _ hB
          have hg : g < w5.heap.size := World.block_lt_of_cell? w5 _ b1
          have hgn : (g = w5.heap.size) = False := by simp; omega
          have hgn' : (w5.heap.size = g) = False := by simp; omega
          go_wp2_with ((go_at_call 10; refine (c2 _).mono ?_; rintro e w' ⟨rfl, hb⟩; apply after_call (w := w) hb; (focus ((repeat' (first | (with_reducible exact hM) | (with_reducible apply mem_alloc) | (with_reducible apply mem_set) | (with_reducible apply mem_drew) | (with_reducible apply mem_drewN))); done)); (focus ((repeat' (first | (with_reducible exact hB) | (with_reducible exact Below.refl _ _) | (with_reducible refine Below.alloc ?_ ?_ _) | (with_reducible refine Below.setCell ?_ ?_ _) | (with_reducible refine Below.drew ?_) | (with_reducible refine below_drewN ?_ _) | (with_reducible exact Nat.le_refl _) | (with_reducible exact hB.size) | (simp [go_sem]; done) | (have := hB.size; simp [go_sem]; omega))); done)); (focus ((repeat' (first | (with_reducible exact hB) | (with_reducible exact Below.refl _ _) | (with_reducible refine Below.alloc ?_ ?_ _) | (with_reducible refine Below.setCell ?_ ?_ _) | (with_reducible refine Below.drew ?_) | (with_reducible refine below_drewN ?_ _) | (with_reducible exact Nat.le_refl _) | (with_reducible exact hB.size) | (simp [go_sem]; done) | (have := hB.size; simp [go_sem]; omega))); done)); clear hM hB hb; intro hM hB; (try clear hC); have hC := mem_facts hM; simp at hC); clear c2; (try clear b1 b2 b3))
          have q2 := HQ.out _ hB
          have hw1 : IntKind.i64.wrap (0 - (d : Int)) = -(d : Int) := by rw [iw, hw0]
          have hw2 : IntKind.i64.wrap (-(d : Int)) = -(d : Int) := by rw [iw]; exact wrap_mid (by omega)
          (refine wp_region_T2 (fun W' => (W'.cell? ⟨w5.heap.size, 0, none⟩ = some (.int .i64 p) ∧ W'.cell? ⟨w5.heap.size, 1, none⟩ = some (.int .i64 q) ∧ W'.cell? ⟨w5.heap.size, 2, none⟩ = some (.int .i64 r)) ∧ (W'.cell? ⟨g, i * 3, none⟩ = some (.int .i64 p) ∧ W'.cell? ⟨g, i * 3 + 1, none⟩ = some (.int .i64 q) ∧ W'.cell? ⟨g, i * 3 + 2, none⟩ = some (.int .i64 r))) 100 (by kernel_rfl) ?_ ?_; (focus (simp [*, go_sem]; done)); intro hS)
          (refine wpT_take (i := 0) (oi := ?_) (v := ?_) hS ?_ ?_ ?_ ?_ ?_ ?_; rotate_left 2; (focus (simp only [List.getElem?_toArray, List.getElem?_cons_zero]; exact rfl)); (focus (kernel_rfl)); (focus (rfl)); (focus (intro w' hW; (try dsimp only at hW); go_simp; (try with_reducible rfl); done)); (focus (exact fun _ _ _ h => h)); (try simp only [Act.put, List.setIfInBounds_toArray, List.set_cons_zero, List.set_cons_succ])); (refine wpT_take (i := 1) (oi := ?_) (v := ?_) hS ?_ ?_ ?_ ?_ ?_ ?_; rotate_left 2; (focus (simp only [List.getElem?_toArray, List.getElem?_cons_zero, List.getElem?_cons_succ]; exact rfl)); (focus (kernel_rfl)); (focus (rfl)); (focus (intro w' hW; (try dsimp only at hW); go_simp; (try with_reducible rfl); done)); (focus (exact fun _ _ _ h => h)); (try simp only [Act.put, List.setIfInBounds_toArray, List.set_cons_zero, List.set_cons_succ])); (refine wpT_take (i := 2) (oi := ?_) (v := ?_) hS ?_ ?_ ?_ ?_ ?_ ?_; rotate_left 2; (focus (simp only [List.getElem?_toArray, List.getElem?_cons_zero, List.getElem?_cons_succ]; exact rfl)); (focus (kernel_rfl)); (focus (rfl)); (focus (intro w' hW; (try dsimp only at hW); go_simp; (try with_reducible rfl); done)); (focus (exact fun _ _ _ h => h)); (try simp only [Act.put, List.setIfInBounds_toArray, List.set_cons_zero, List.set_cons_succ])); (refine wpT_take (i := 3) (oi := ?_) (v := ?_) hS ?_ ?_ ?_ ?_ ?_ ?_; rotate_left 2; (focus (simp only [List.getElem?_toArray, List.getElem?_cons_zero, List.getElem?_cons_succ]; exact rfl)); (focus (kernel_rfl)); (focus (rfl)); (focus (intro w' hW; (try dsimp only at hW); go_simp; (try with_reducible rfl); done)); (focus (exact fun _ _ _ h => h)); (try simp only [Act.put, List.setIfInBounds_toArray, List.set_cons_zero, List.set_cons_succ])); (refine wpT_take (i := 4) (oi := ?_) (v := ?_) hS ?_ ?_ ?_ ?_ ?_ ?_; rotate_left 2; (focus (simp only [List.getElem?_toArray, List.getElem?_cons_zero, List.getElem?_cons_succ]; exact rfl)); (focus (kernel_rfl)); (focus (rfl)); (focus (intro w' hW; (try dsimp only at hW); go_simp; (try with_reducible rfl); done)); (focus (exact fun _ _ _ h => h)); (try simp only [Act.put, List.setIfInBounds_toArray, List.set_cons_zero, List.set_cons_succ])); (refine wpT_take (i := 5) (oi := ?_) (v := ?_) hS ?_ ?_ ?_ ?_ ?_ ?_; rotate_left 2; (focus (simp only [List.getElem?_toArray, List.getElem?_cons_zero, List.getElem?_cons_succ]; exact rfl)); (focus (kernel_rfl)); (focus (rfl)); (focus (intro w' hW; (try dsimp only at hW); go_simp; (try with_reducible rfl); done)); (focus (exact fun _ _ _ h => h)); (try simp only [Act.put, List.setIfInBounds_toArray, List.set_cons_zero, List.set_cons_succ])); (refine wpT_take (i := 6) (oi := ?_) (v := ?_) hS ?_ ?_ ?_ ?_ ?_ ?_; rotate_left 2; (focus (simp only [List.getElem?_toArray, List.getElem?_cons_zero, List.getElem?_cons_succ]; exact rfl)); (focus (kernel_rfl)); (focus (rfl)); (focus (intro w' hW; (try dsimp only at hW); go_simp; (try with_reducible rfl); done)); (focus (exact fun _ _ _ h => h)); (try simp only [Act.put, List.setIfInBounds_toArray, List.set_cons_zero, List.set_cons_succ])); (refine wpT_take (i := 7) (oi := ?_) (v := ?_) hS ?_ ?_ ?_ ?_ ?_ ?_; rotate_left 2; (focus (simp only [List.getElem?_toArray, List.getElem?_cons_zero, List.getElem?_cons_succ]; exact rfl)); (focus (kernel_rfl)); (focus (rfl)); (focus (intro w' hW; (try dsimp only at hW); go_simp; (try with_reducible rfl); done)); (focus (exact fun _ _ _ h => h)); (try simp only [Act.put, List.setIfInBounds_toArray, List.set_cons_zero, List.set_cons_succ])); (refine wpT_take (i := 8) (oi := ?_) (v := ?_) hS ?_ ?_ ?_ ?_ ?_ ?_; rotate_left 2; (focus (simp only [List.getElem?_toArray, List.getElem?_cons_zero, List.getElem?_cons_succ]; exact rfl)); (focus (kernel_rfl)); (focus (rfl)); (focus (intro w' hW; (try dsimp only at hW); go_simp; (try with_reducible rfl); done)); (focus (exact fun _ _ _ h => h)); (try simp only [Act.put, List.setIfInBounds_toArray, List.set_cons_zero, List.set_cons_succ])); (refine wpT_take (i := 9) (oi := ?_) (v := ?_) hS ?_ ?_ ?_ ?_ ?_ ?_; rotate_left 2; (focus (simp only [List.getElem?_toArray, List.getElem?_cons_zero, List.getElem?_cons_succ]; exact rfl)); (focus (kernel_rfl)); (focus (rfl)); (focus (intro w' hW; (try dsimp only at hW); go_simp; (try with_reducible rfl); done)); (focus (exact fun _ _ _ h => h)); (try simp only [Act.put, List.setIfInBounds_toArray, List.set_cons_zero, List.set_cons_succ])); (refine wpT_take (i := 10) (oi := ?_) (v := ?_) hS ?_ ?_ ?_ ?_ ?_ ?_; rotate_left 2; (focus (simp only [List.getElem?_toArray, List.getElem?_cons_zero, List.getElem?_cons_succ]; exact rfl)); (focus (kernel_rfl)); (focus (rfl)); (focus (intro w' hW; (try dsimp only at hW); go_simp; (try with_reducible rfl); done)); (focus (exact fun _ _ _ h => h)); (try simp only [Act.put, List.setIfInBounds_toArray, List.set_cons_zero, List.set_cons_succ])); (refine wpT_take (i := 11) (oi := ?_) (v := ?_) hS ?_ ?_ ?_ ?_ ?_ ?_; rotate_left 2; (focus (simp only [List.getElem?_toArray, List.getElem?_cons_zero, List.getElem?_cons_succ]; exact rfl)); (focus (kernel_rfl)); (focus (rfl)); (focus (intro w' hW; (try dsimp only at hW); go_simp; (try with_reducible rfl); done)); (focus (exact fun _ _ _ h => h)); (try simp only [Act.put, List.setIfInBounds_toArray, List.set_cons_zero, List.set_cons_succ])); (refine wpT_take (i := 12) (oi := ?_) (v := ?_) hS ?_ ?_ ?_ ?_ ?_ ?_; rotate_left 2; (focus (simp only [List.getElem?_toArray, List.getElem?_cons_zero, List.getElem?_cons_succ]; exact rfl)); (focus (kernel_rfl)); (focus (rfl)); (focus (intro w' hW; (try dsimp only at hW); go_simp; (try with_reducible rfl); done)); (focus (exact fun _ _ _ h => h)); (try simp only [Act.put, List.setIfInBounds_toArray, List.set_cons_zero, List.set_cons_succ])); (refine wpT_take (i := 13) (oi := ?_) (v := ?_) hS ?_ ?_ ?_ ?_ ?_ ?_; rotate_left 2; (focus (simp only [List.getElem?_toArray, List.getElem?_cons_zero, List.getElem?_cons_succ]; exact rfl)); (focus (kernel_rfl)); (focus (rfl)); (focus (intro w' hW; (try dsimp only at hW); go_simp; (try with_reducible rfl); done)); (focus (exact fun _ _ _ h => h)); (try simp only [Act.put, List.setIfInBounds_toArray, List.set_cons_zero, List.set_cons_succ])); (refine wpT_take (i := 14) (oi := ?_) (v := ?_) hS ?_ ?_ ?_ ?_ ?_ ?_; rotate_left 2; (focus (simp only [List.getElem?_toArray, List.getElem?_cons_zero, List.getElem?_cons_succ]; exact rfl)); (focus (kernel_rfl)); (focus (rfl)); (focus (intro w' hW; (try dsimp only at hW); go_simp; (try with_reducible rfl); done)); (focus (exact fun _ _ _ h => h)); (try simp only [Act.put, List.setIfInBounds_toArray, List.set_cons_zero, List.set_cons_succ])); (refine wpT_take (i := 15) (oi := ?_) (v := ?_) hS ?_ ?_ ?_ ?_ ?_ ?_; rotate_left 2; (focus (simp only [List.getElem?_toArray, List.getElem?_cons_zero, List.getElem?_cons_succ]; exact rfl)); (focus (kernel_rfl)); (focus (rfl)); (focus (intro w' hW; (try dsimp only at hW); go_simp; (try with_reducible rfl); done)); (focus (exact fun _ _ _ h => h)); (try simp only [Act.put, List.setIfInBounds_toArray, List.set_cons_zero, List.set_cons_succ])); (refine wpT_take (i := 16) (oi := ?_) (v := ?_) hS ?_ ?_ ?_ ?_ ?_ ?_; rotate_left 2; (focus (simp only [List.getElem?_toArray, List.getElem?_cons_zero, List.getElem?_cons_succ]; exact rfl)); (focus (kernel_rfl)); (focus (rfl)); (focus (intro w' hW; (try dsimp only at hW); go_simp; (try with_reducible rfl); done)); (focus (exact fun _ _ _ h => h)); (try simp only [Act.put, List.setIfInBounds_toArray, List.set_cons_zero, List.set_cons_succ])); (refine wpT_take (i := 17) (oi := ?_) (v := ?_) hS ?_ ?_ ?_ ?_ ?_ ?_; rotate_left 2; (focus (simp only [List.getElem?_toArray, List.getElem?_cons_zero, List.getElem?_cons_succ]; exact rfl)); (focus (kernel_rfl)); (focus (rfl)); (focus (intro w' hW; (try dsimp only at hW); go_simp; (try with_reducible rfl); done)); (focus (exact fun _ _ _ h => h)); (try simp only [Act.put, List.setIfInBounds_toArray, List.set_cons_zero, List.set_cons_succ])); (refine wpT_take (i := 18) (oi := ?_) (v := ?_) hS ?_ ?_ ?_ ?_ ?_ ?_; rotate_left 2; (focus (simp only [List.getElem?_toArray, List.getElem?_cons_zero, List.getElem?_cons_succ]; exact rfl)); (focus (kernel_rfl)); (focus (rfl)); (focus (intro w' hW; (try dsimp only at hW); go_simp; (try with_reducible rfl); done)); (focus (exact fun _ _ _ h => h)); (try simp only [Act.put, List.setIfInBounds_toArray, List.set_cons_zero, List.set_cons_succ])); (refine wpT_take (i := 19) (oi := ?_) (v := ?_) hS ?_ ?_ ?_ ?_ ?_ ?_; rotate_left 2; (focus (simp only [List.getElem?_toArray, List.getElem?_cons_zero, List.getElem?_cons_succ]; exact rfl)); (focus (kernel_rfl)); (focus (rfl)); (focus (intro w' hW; (try dsimp only at hW); go_simp; (try with_reducible rfl); done)); (focus (exact fun _ _ _ h => h)); (try simp only [Act.put, List.setIfInBounds_toArray, List.set_cons_zero, List.set_cons_succ]))
          refine wpT_done (by kernel_rfl) ?_ _
          go_wp2_with fail
          go_roundw
          case rel => exact ⟨i + 1, by omega, by go_num, by (repeat' (first | (with_reducible exact hB) | (with_reducible exact Below.refl _ _) | (with_reducible refine Below.alloc ?_ ?_ _) | (with_reducible refine Below.setCell ?_ ?_ _) | (with_reducible refine Below.drew ?_) | (with_reducible refine below_drewN ?_ _) | (with_reducible exact Nat.le_refl _) | (with_reducible exact hB.size) | (simp [go_sem]; done) | (have := hB.size; simp [go_sem]; omega)))⟩
          case measure => simp [intOf]; omega
        · have hlen : i = fs.length := by omega
          have hm := HMD.out
          rw [← hlen] at hm
          clear HMD HOK HC
          subst hlen
          generalize fs.length = N at *
          have hq : (d : Int).tmod 4 = ((d % 4 : Nat) : Int) := by rw [Int.tmod_eq_emod_of_nonneg (by omega)]; simp
          have hq2 : (d : Int) % 4 = ((d % 4 : Nat) : Int) := by simp
          have hr : d % 4 = 0 ∨ d % 4 = 1 ∨ d % 4 = 2 ∨ d % 4 = 3 := by omega
          have e0 : decide ((N : Int) < (N : Int)) = false := decide_eq_false (by omega)
          rcases hr with hr | hr | hr | hr
          all_goals
            rw [hr] at hq hq2 hm
            simp at hm
            have e1 : decide ((N : Int) > 0) = decide (0 < N) := by simp
            have e2 : decide (0 < (N : Int)) = decide (0 < N) := by simp
            have e3 : N = 0 ∨ 0 < N := by omega
          · have e4 : decide (0 < N) = true := decide_eq_true hm
            rw [e4] at e1 e2
            go_wp2_with fail
            go_ret
            exact ⟨rfl, b4.out.trans (hB.mono b4.out.size)⟩
          · subst hm
            go_wp2_with fail
            go_ret
            exact ⟨rfl, b4.out.trans (hB.mono b4.out.size)⟩
          · subst hm
            go_wp2_with fail
            go_ret
            exact ⟨rfl, b4.out.trans (hB.mono b4.out.size)⟩
          · have e4 : decide (0 < N) = true := decide_eq_true hm
            rw [e4] at e1 e2
            go_wp2_with fail
            go_ret
            exact ⟨rfl, b4.out.trans (hB.mono b4.out.size)⟩
theorem goFormAll (A : Option Addr) (len cap : Nat) (zs : List Int) (w : World) (h : IsRow .u8 w A len cap zs) : Calls Try.prog 3 #[.slice A len cap] w (fun E' W' => E' = .returned (.bool true) ∧ Below w.heap.size w W') := lawFAll A len cap zs w (rowB h)
end Go.Proofs.Ytohkmdpefplddaa


/- The program's count of even rest matrices, walked. No condition. -/
import Derived.Test.YtkallllpjkkhhaaMoC
namespace Go.Proofs.Ytkallllpjkkhhaa
open Go.RowKit Go.Shelf
attribute [local go_sem] Oper.semAt_some

def g2 (k : Nat) (u l : Nat × Nat) : Nat := bif reB k ⟨u.1, u.2, l.1, l.2⟩ then 1 else 0
def gN (k : Nat) (u l : Nat × Nat) : Nat := bif evN k u.1 u.2 l.1 l.2 then 1 else 0
def sum2 (k : Nat) (u : Nat × Nat) (ls : List (Nat × Nat)) : Nat := (ls.map fun l => g2 k u (cl l)).sum
def sum1 (k : Nat) (us : List (Nat × Nat)) : Nat := (us.map fun u => sum2 k (cl u) (prs k)).sum
def cntP (k : Nat) : Nat := ((prs k).map fun u => ((prs k).map fun l => gN k u l).sum).sum
theorem cntP2 : cntP 2 = cntT 2 := by decide +kernel
theorem cntP3 : cntP 3 = cntT 3 := by decide +kernel
theorem cntP4 : cntP 4 = cntT 4 := by decide +kernel
theorem cntP5 : cntP 5 = cntT 5 := by decide +kernel
theorem cntP6 : cntP 6 = cntT 6 := by decide +kernel
theorem cntP7 : cntP 7 = cntT 7 := by decide +kernel
theorem cntP8 : cntP 8 = cntT 8 := by decide +kernel
theorem cntP9 : cntP 9 = cntT 9 := by decide +kernel
theorem cntP10 : cntP 10 = cntT 10 := by decide +kernel
theorem cntP11 : cntP 11 = cntT 11 := by decide +kernel
theorem cntP12 : cntP 12 = cntT 12 := by decide +kernel
theorem cntP_eq {k : Nat} (h : 2 ≤ k ∧ k ≤ 12) : cntP k = cntT k := by
  rcases k_cases h with rfl | rfl | rfl | rfl | rfl | rfl | rfl | rfl | rfl | rfl | rfl
  · exact cntP2
  · exact cntP3
  · exact cntP4
  · exact cntP5
  · exact cntP6
  · exact cntP7
  · exact cntP8
  · exact cntP9
  · exact cntP10
  · exact cntP11
  · exact cntP12
theorem evM_even {k : Nat} {u l : Nat × Nat} (hu : u.1 < k ∧ u.2 < k) (hl : l.1 < k ∧ l.2 < k) : reB k ⟨u.1, u.2, l.1, l.2⟩ = evN k u.1 u.2 l.1 l.2 := by
  have h1 : rbM k ⟨u.1, u.2, l.1, l.2⟩ = true := rbM_iff.2 ⟨by simp; omega, by simp; omega, by simp; omega, by simp; omega⟩
  rw [evN_int hu.2 hl.1, reB, h1, Bool.true_and, xd]
theorem sum1_prs {k : Nat} (h : 2 ≤ k ∧ k ≤ 12) : sum1 k (prs k) = cntT k := by
  rw [← cntP_eq h, cntP, sum1]
  congr 1
  refine List.map_congr_left fun u hu => ?_
  have hu' := prs_mem hu
  rw [cl_id (by omega) (by omega), sum2]
  congr 1
  refine List.map_congr_left fun l hl => ?_
  have hl' := prs_mem hl
  rw [cl_id (by omega) (by omega), g2, gN, evM_even hu' hl']
theorem g2_le (k : Nat) (u l : Nat × Nat) : g2 k u l ≤ 1 := by unfold g2; cases reB k ⟨u.1, u.2, l.1, l.2⟩ <;> simp
theorem msum_le {α : Type} {f : α → Nat} {c : Nat} (h : ∀ x, f x ≤ c) : ∀ l : List α, (l.map f).sum ≤ l.length * c
  | [] => by simp
  | x :: l => by
    have h1 := msum_le h l
    have h2 := h x
    simp only [List.map_cons, List.sum_cons, List.length_cons, Nat.succ_mul]
    omega
theorem sum2_le (k : Nat) (u : Nat × Nat) (ls : List (Nat × Nat)) : sum2 k u ls ≤ ls.length := by
  have := msum_le (fun l => g2_le k u (cl l)) ls
  simpa [sum2] using this
theorem sum1_le {k : Nat} (hk : k ≤ 12) (us : List (Nat × Nat)) : sum1 k us ≤ us.length * 144 := by
  refine msum_le (fun u => ?_) us
  have := sum2_le k (cl u) (prs k)
  rw [prs_len] at this
  have h2 : k * k ≤ 12 * 12 := Nat.mul_le_mul hk hk
  omega
set_option maxRecDepth 100000 in
set_option maxHeartbeats 4000000 in
theorem count_ (k : Nat) (hk : 2 ≤ k ∧ k ≤ 12) (w : World) : Calls Try.prog 30 #[.int .i64 k] w (fun E' W' => E' = .returned (.int .i64 (cntT k : Nat)) ∧ Below w.heap.size w W') := by
  have hk' : mdB k = true := mdB_iff.2 ⟨by omega, by omega⟩
  refine (callsIn_wide (n := 8)).1 ?_
  refine callsIn_of_wp_marks Try.func30 rfl trivial ?_ rfl
  simp only [Try.ntmps30, List.size_toArray, List.length_cons, List.length_nil, Nat.reduceAdd, Nat.reduceSub, Array.replicate_succ, Array.replicate_zero, List.push_toArray, List.append_toArray, List.nil_append, List.cons_append]
  have hM := mem_nil w; have hB := Below.refl w.heap.size w; have hC := True.intro
  gi_wp2_with (refine ⟨trivial, ?_⟩; gi_at_call 48; refine (callsIn_wide.2 (pairs_ _ _)).mono ?_; rintro e w' ⟨rfl, rfl⟩)
  obtain ⟨L, hL⟩ : ∃ L : Nat → List (Nat × Array Value × TypeId), L = fun c => [(w.heap.size + 1 + 1, #[.int .i64 k], 40), (w.heap.size + 1, #[.int .i64 c], 3), (w.heap.size, #[.int .i64 k], 40)] := ⟨_, rfl⟩
  have hM0 : Mem (((w.alloc (Obj.cells #[.int .i64 k] 40)).alloc (Obj.cells #[.int .i64 0] 3)).alloc (Obj.cells #[.int .i64 k] 40)) (L 0) := by
    subst hL
    apply mem_drop 0
    · (repeat' (first | (with_reducible exact hM) | (with_reducible apply mem_alloc) | (with_reducible apply mem_set) | (with_reducible apply mem_drew) | (with_reducible apply mem_drewN)))
    · simp
  have hB0 : Below w.heap.size w (((w.alloc (Obj.cells #[.int .i64 k] 40)).alloc (Obj.cells #[.int .i64 0] 3)).alloc (Obj.cells #[.int .i64 k] 40)) := by (repeat' (first | (with_reducible exact hB) | (with_reducible exact Below.refl _ _) | (with_reducible refine Below.alloc ?_ ?_ _) | (with_reducible refine Below.setCell ?_ ?_ _) | (with_reducible refine Below.drew ?_) | (with_reducible refine below_drewN ?_ _) | (with_reducible exact Nat.le_refl _) | (with_reducible exact hB.size) | (simp [go_sem]; done) | (have := hB.size; simp [go_sem]; omega)))
  have hsz : (((w.alloc (Obj.cells #[.int .i64 k] 40)).alloc (Obj.cells #[.int .i64 0] 3)).alloc (Obj.cells #[.int .i64 k] 40)).heap.size = w.heap.size + 1 + 1 + 1 := by simp
  obtain ⟨W0, hW0⟩ : ∃ W0, ((w.alloc (Obj.cells #[.int .i64 k] 40)).alloc (Obj.cells #[.int .i64 0] 3)).alloc (Obj.cells #[.int .i64 k] 40) = W0 := ⟨_, rfl⟩
  rw [hW0] at hM0 hB0 hsz ⊢
  clear hW0
  have hcell : W0.cell? ⟨w.heap.size + 1 + 1, 0, none⟩ = some (.int .i64 k) := by
    subst hL
    have hC := mem_facts hM0
    simp at hC
    simp [hC]
  refine wpIn_rangeFunc_ownH rfl (by omega) (gf := 55) (lb := #[.pointer (some ⟨w.heap.size + 1 + 1, 0, none⟩)]) rfl trivial (enters_of Try.func55 (by kernel_rfl) rfl)
    (pairs_stops Fence.wide 7 trivial rfl (by omega) (w.heap.size + 1 + 1) k hk.2 W0 (by omega) hcell) kc_t (kc_b (by omega)) (Below.refl _ _) (fun _ => rfl)
    (fun pre W => MB w (fun pre => L (sum1 k pre)) pre W)
    (fun _ _ _ => False)
    (mb_own (by omega) _) (fun _ _ _ _ _ hs _ _ => hs.elim) ⟨hM0, hB0⟩
    (fun q a' W => ∃ Bx, w.heap.size + 1 + 1 < Bx ∧ Mem W [(Bx, #[.int .i64 (cl q).1, .int .i64 (cl q).2], 65)] ∧ a' = { tmps := #[.int .i64 k, .pointer (some ⟨w.heap.size, 0, none⟩), .int .i64 0, .pointer (some ⟨w.heap.size + 1, 0, none⟩), .pointer (some ⟨Bx, 0, none⟩), undef, .int .i64 k, .func (.func 55) #[] #[.pointer (some ⟨w.heap.size + 1 + 1, 0, none⟩)], .agg #[.int .i64 (cl q).1, .int .i64 (cl q).2], undef, undef, undef, undef, undef, undef, undef, undef, undef, undef, undef, undef, undef, undef, undef, undef, undef], defers := [] })
    ?own3 ?assign ?body ?done ?stop
  case own3 =>
    rintro q a' _ X Y row ⟨Bx, h1, h2, h3⟩ hg hr
    exact ⟨Bx, h1, mem_grown h2 hg (fun r e => (hr r e).2), h3⟩
  case assign =>
    rintro l pre q W K ⟨hM, hB⟩ hK
    have hMW := hM
    have hBW := hB
    subst hL
    simp only [encP]
    have hC := mem_facts hM; simp at hC
    gi_wp2
    have hM2 : Mem (W.alloc (.cells #[.int .i64 (cl q).1, .int .i64 (cl q).2] 65)) ((W.heap.size, #[.int .i64 (cl q).1, .int .i64 (cl q).2], 65) :: _) := mem_alloc hMW _ _
    refine hK _ _ ((KeepsOthers.alloc _ _).from _) (kc_mem hMW (mem_tail' hM2) List.mem_cons_self List.mem_cons_self) ⟨mem_tail' hM2, by (repeat' (first | (with_reducible exact hB) | (with_reducible exact Below.refl _ _) | (with_reducible refine Below.alloc ?_ ?_ _) | (with_reducible refine Below.setCell ?_ ?_ _) | (with_reducible refine Below.drew ?_) | (with_reducible refine below_drewN ?_ _) | (with_reducible exact Nat.le_refl _) | (with_reducible exact hB.size) | (simp [go_sem]; done) | (have := hB.size; simp [go_sem]; omega)))⟩ ⟨W.heap.size, mem_lt (hMW.1 _ List.mem_cons_self), mem_head' hM2, rfl⟩
  case body =>
    rintro l pre q0 a' Wo hl ⟨r, hr⟩ ⟨hM1, hB1⟩ ⟨Bx, hBx, hX, rfl⟩ hlt
    have hso := hB1.size
    have hsu := sum1_le hk.2 pre
    replace hsu : sum1 k pre ≤ 20736 := by
      have : k * k ≤ 12 * 12 := Nat.mul_le_mul hk.2 hk.2
      have : pre.length * 144 ≤ 144 * 144 := Nat.mul_le_mul_right _ (by omega)
      omega
    have hlr := mem_lt hr
    obtain ⟨u, hu⟩ : ∃ u, u = cl q0 := ⟨_, rfl⟩
    have hul : u.1 < 12 ∧ u.2 < 12 := by rw [hu]; exact cl_lt q0
    have hsum : sum1 k (pre ++ [q0]) = sum1 k pre + sum2 k u (prs k) := by simp [sum1, hu]
    rw [← hu] at hX
    rw [← hu]
    have hMo := mem_cons' hM1 hX (by subst hL; intro q hq; simp at hq; rcases hq with rfl | rfl | rfl <;> simp <;> omega)
    clear hu hX
    have hMk := hM1
    subst hL
    have hM := hMo
    have hB := hB1
    have hC := mem_facts hM
    simp at hC
    gi_wp2_with (refine ⟨trivial, ?_⟩; gi_at_call 48; refine (CallsIn.inRound l (callsIn_wide.2 (pairs_ _ _))).mono ?_; rintro e w' ⟨rfl, rfl⟩)
    have hMi : Mem (Wo.alloc (.cells #[.int .i64 k] 40)) ((Wo.heap.size, #[.int .i64 k], 40) :: _) := mem_alloc hMo _ _
    have hBi : Below w.heap.size w (Wo.alloc (.cells #[.int .i64 k] 40)) := by (repeat' (first | (with_reducible exact hB) | (with_reducible exact Below.refl _ _) | (with_reducible refine Below.alloc ?_ ?_ _) | (with_reducible refine Below.setCell ?_ ?_ _) | (with_reducible refine Below.drew ?_) | (with_reducible refine below_drewN ?_ _) | (with_reducible exact Nat.le_refl _) | (with_reducible exact hB.size) | (simp [go_sem]; done) | (have := hB.size; simp [go_sem]; omega)))
    have hKi : KeepsFrom W0.heap.size Wo (Wo.alloc (.cells #[.int .i64 k] 40)) := (KeepsOthers.alloc _ _).from _
    have hri : (Wo.alloc (.cells #[.int .i64 k] 40)).heap[l]? = some (.loop r) := (Below.heap_alloc Wo _ l hlr).trans hr
    have hsi : (Wo.alloc (.cells #[.int .i64 k] 40)).heap.size = Wo.heap.size + 1 := by simp
    obtain ⟨W1, hW1⟩ : ∃ W1, Wo.alloc (.cells #[.int .i64 k] 40) = W1 := ⟨_, rfl⟩
    rw [hW1] at hMi hBi hKi hri hsi ⊢
    clear hW1 hM hB hC
    have hBo : Bx < Wo.heap.size := mem_lt (hMo.1 _ List.mem_cons_self)
    have hcell1 : W1.cell? ⟨Wo.heap.size, 0, none⟩ = some (.int .i64 k) := by
      have hC := mem_facts hMi
      simp at hC
      simp [hC]
    refine wpIn_rangeFunc_ownN (l₀ := l) (r₀ := r) rfl hri (by omega) (gf := 55) (lb := #[.pointer (some ⟨Wo.heap.size, 0, none⟩)]) rfl trivial (enters_of Try.func55 (by kernel_rfl) rfl)
      ((pairs_stops Fence.wide 5 trivial rfl (by omega) Wo.heap.size k hk.2 W1 (by omega) hcell1).inRound l) kc_t (kc_b (by omega)) (Below.refl _ _) (fun _ => rfl)
      (fun pre' W => MB w (fun pre' => [(Wo.heap.size, #[.int .i64 k], 40), (Bx, #[.int .i64 u.1, .int .i64 u.2], 65), (w.heap.size + 1 + 1, #[.int .i64 k], 40), (w.heap.size + 1, #[.int .i64 (sum1 k pre + sum2 k u pre' : Nat)], 3), (w.heap.size, #[.int .i64 k], 40)]) pre' W ∧ KeepsFrom W0.heap.size Wo W)
      (fun _ _ _ => False)
      (OwnFrom.and (mb_own (by omega) _) (ownFrom_keepsFrom (by omega))) (fun _ _ _ _ _ hs _ _ => hs.elim) ⟨⟨by simpa [sum2] using hMi, hBi⟩, hKi⟩
      (fun q a' W => ∃ By, Wo.heap.size < By ∧ Mem W [(By, #[.int .i64 (cl q).1, .int .i64 (cl q).2], 65)] ∧ a' = { tmps := #[.int .i64 k, .pointer (some ⟨w.heap.size, 0, none⟩), .int .i64 0, .pointer (some ⟨w.heap.size + 1, 0, none⟩), .pointer (some ⟨Bx, 0, none⟩), .pointer (some ⟨By, 0, none⟩), .int .i64 k, .func (.func 55) #[] #[.pointer (some ⟨w.heap.size + 1 + 1, 0, none⟩)], .agg #[.int .i64 u.1, .int .i64 u.2], .int .i64 k, .func (.func 55) #[] #[.pointer (some ⟨Wo.heap.size, 0, none⟩)], .agg #[.int .i64 (cl q).1, .int .i64 (cl q).2], undef, undef, undef, undef, undef, undef, undef, undef, undef, undef, undef, undef, undef, undef], defers := [] })
      ?own4 ?assign2 ?body2 ?done2 ?stop2
    case own4 =>
      rintro q a' _ X Y row ⟨By, h1, h2, h3⟩ hg hr
      exact ⟨By, h1, mem_grown h2 hg (fun r e => (hr r e).2), h3⟩
    case assign2 =>
      rintro l2 pre' q W K ⟨⟨hM, hB⟩, hKF⟩ hK
      have hMW := hM
      simp only [encP]
      have hC := mem_facts hM; simp at hC
      gi_wp2
      have hM2 : Mem (W.alloc (.cells #[.int .i64 (cl q).1, .int .i64 (cl q).2] 65)) ((W.heap.size, #[.int .i64 (cl q).1, .int .i64 (cl q).2], 65) :: _) := mem_alloc hMW _ _
      refine hK _ _ ((KeepsOthers.alloc _ _).from _) (kc_mem hMW (mem_tail' hM2) List.mem_cons_self List.mem_cons_self) ⟨⟨mem_tail' hM2, by (repeat' (first | (with_reducible exact hB) | (with_reducible exact Below.refl _ _) | (with_reducible refine Below.alloc ?_ ?_ _) | (with_reducible refine Below.setCell ?_ ?_ _) | (with_reducible refine Below.drew ?_) | (with_reducible refine below_drewN ?_ _) | (with_reducible exact Nat.le_refl _) | (with_reducible exact hB.size) | (simp [go_sem]; done) | (have := hB.size; simp [go_sem]; omega)))⟩, hKF.trans ((KeepsOthers.alloc _ _).from _)⟩ ⟨W.heap.size, mem_lt (hMW.1 _ List.mem_cons_self), mem_head' hM2, rfl⟩
    case body2 =>
      rintro l pre' q1 a' W hl2 _ ⟨⟨hM2, hB2⟩, hKF⟩ ⟨By, hBy, hX, rfl⟩ hlt2
      dsimp only at hM2
      obtain ⟨v, hv⟩ : ∃ v, v = cl q1 := ⟨_, rfl⟩
      have hvl : v.1 < 12 ∧ v.2 < 12 := by rw [hv]; exact cl_lt q1
      have hs2 := sum2_le k u pre'
      replace hs2 : sum1 k pre + sum2 k u pre' ≤ 30000 := by
        have : k * k ≤ 12 * 12 := Nat.mul_le_mul hk.2 hk.2
        omega
      have hsn : sum2 k u (pre' ++ [q1]) = sum2 k u pre' + g2 k u v := by simp [sum2, hv]
      rw [← hv] at hX
      rw [← hv]
      clear hv
      have hM := mem_cons' hM2 hX (by intro q hq; simp at hq; rcases hq with rfl | rfl | rfl | rfl | rfl <;> simp <;> omega)
      have hM0' := hM2
      have hB := hB2
      clear hM2 hB2 hX
      obtain ⟨S, hS⟩ : ∃ S, S = sum1 k pre + sum2 k u pre' := ⟨_, rfl⟩
      have HS := Lib.hid hS
      rw [← hS] at hM hs2
      clear hS
      have hC := mem_facts hM
      simp at hC
      have hK := KeepsOthers.refl W
      have cE := fun W => mEven_ k u.1 u.2 v.1 v.2 hk' W
      cases h1 : reB k ⟨u.1, u.2, v.1, v.2⟩
      · rw [h1] at cE
        have ho : g2 k u v = 0 := by simp [g2, h1]
        gi_wp2_with (refine ⟨trivial, ?_⟩; gi_at_call 39; refine (CallsIn.inRound l (callsIn_wide.2 (cE _))).mono ?_; rintro e w' ⟨rfl, hb⟩; replace hK := keeps_call (A := W) (hK := (by repeat' (first | (with_reducible exact hK) | (with_reducible exact KeepsOthers.refl _) | (with_reducible apply keeps_alloc) | (with_reducible apply keeps_set) | (with_reducible apply keeps_drew) | (with_reducible apply keeps_drewN)))) hb; apply after_call (w := w) hb; (focus ((repeat' (first | (with_reducible exact hM) | (with_reducible apply mem_alloc) | (with_reducible apply mem_set) | (with_reducible apply mem_drew) | (with_reducible apply mem_drewN))); done)); (focus ((repeat' (first | (with_reducible exact hB) | (with_reducible exact Below.refl _ _) | (with_reducible refine Below.alloc ?_ ?_ _) | (with_reducible refine Below.setCell ?_ ?_ _) | (with_reducible refine Below.drew ?_) | (with_reducible refine below_drewN ?_ _) | (with_reducible exact Nat.le_refl _) | (with_reducible exact hB.size) | (simp [go_sem]; done) | (have := hB.size; simp [go_sem]; omega))); done)); (focus ((repeat' (first | (with_reducible exact hB) | (with_reducible exact Below.refl _ _) | (with_reducible refine Below.alloc ?_ ?_ _) | (with_reducible refine Below.setCell ?_ ?_ _) | (with_reducible refine Below.drew ?_) | (with_reducible refine below_drewN ?_ _) | (with_reducible exact Nat.le_refl _) | (with_reducible exact hB.size) | (simp [go_sem]; done) | (have := hB.size; simp [go_sem]; omega))); done)); clear hM hB hb; intro hM hB; (try clear hC); have hC := mem_facts hM; simp at hC)
        refine ⟨kf ((by repeat' (first | (with_reducible exact hK) | (with_reducible exact KeepsOthers.refl _) | (with_reducible apply keeps_alloc) | (with_reducible apply keeps_set) | (with_reducible apply keeps_drew) | (with_reducible apply keeps_drewN)))), kc_mem hM0' hM List.mem_cons_self (List.mem_cons_of_mem _ List.mem_cons_self), ⟨?_, by (repeat' (first | (with_reducible exact hB) | (with_reducible exact Below.refl _ _) | (with_reducible refine Below.alloc ?_ ?_ _) | (with_reducible refine Below.setCell ?_ ?_ _) | (with_reducible refine Below.drew ?_) | (with_reducible refine below_drewN ?_ _) | (with_reducible exact Nat.le_refl _) | (with_reducible exact hB.size) | (simp [go_sem]; done) | (have := hB.size; simp [go_sem]; omega)))⟩, hKF.trans (kf ((by repeat' (first | (with_reducible exact hK) | (with_reducible exact KeepsOthers.refl _) | (with_reducible apply keeps_alloc) | (with_reducible apply keeps_set) | (with_reducible apply keeps_drew) | (with_reducible apply keeps_drewN)))))⟩
        dsimp only
        rw [hsn, ho, ← Nat.add_assoc, ← HS.out]
        exact mem_tail' hM
      · rw [h1] at cE
        have ho : g2 k u v = 1 := by simp [g2, h1]
        gi_wp2_with (refine ⟨trivial, ?_⟩; gi_at_call 39; refine (CallsIn.inRound l (callsIn_wide.2 (cE _))).mono ?_; rintro e w' ⟨rfl, hb⟩; replace hK := keeps_call (A := W) (hK := (by repeat' (first | (with_reducible exact hK) | (with_reducible exact KeepsOthers.refl _) | (with_reducible apply keeps_alloc) | (with_reducible apply keeps_set) | (with_reducible apply keeps_drew) | (with_reducible apply keeps_drewN)))) hb; apply after_call (w := w) hb; (focus ((repeat' (first | (with_reducible exact hM) | (with_reducible apply mem_alloc) | (with_reducible apply mem_set) | (with_reducible apply mem_drew) | (with_reducible apply mem_drewN))); done)); (focus ((repeat' (first | (with_reducible exact hB) | (with_reducible exact Below.refl _ _) | (with_reducible refine Below.alloc ?_ ?_ _) | (with_reducible refine Below.setCell ?_ ?_ _) | (with_reducible refine Below.drew ?_) | (with_reducible refine below_drewN ?_ _) | (with_reducible exact Nat.le_refl _) | (with_reducible exact hB.size) | (simp [go_sem]; done) | (have := hB.size; simp [go_sem]; omega))); done)); (focus ((repeat' (first | (with_reducible exact hB) | (with_reducible exact Below.refl _ _) | (with_reducible refine Below.alloc ?_ ?_ _) | (with_reducible refine Below.setCell ?_ ?_ _) | (with_reducible refine Below.drew ?_) | (with_reducible refine below_drewN ?_ _) | (with_reducible exact Nat.le_refl _) | (with_reducible exact hB.size) | (simp [go_sem]; done) | (have := hB.size; simp [go_sem]; omega))); done)); clear hM hB hb; intro hM hB; (try clear hC); have hC := mem_facts hM; simp at hC)
        have hMe : Mem (w'.setCell ⟨w.heap.size + 1, 0, none⟩ (.int .i64 ((S + 1 : Nat)))) [(By, #[.int .i64 v.1, .int .i64 v.2], 65), (Wo.heap.size, #[.int .i64 k], 40), (Bx, #[.int .i64 u.1, .int .i64 u.2], 65), (w.heap.size + 1 + 1, #[.int .i64 k], 40), (w.heap.size + 1, #[.int .i64 (S + 1 : Nat)], 3), (w.heap.size, #[.int .i64 k], 40)] := by
          apply mem_drop 0
          · (repeat' (first | (with_reducible exact hM) | (with_reducible apply mem_alloc) | (with_reducible apply mem_set) | (with_reducible apply mem_drew) | (with_reducible apply mem_drewN)))
          · simp [hC]
        refine ⟨kf ((by repeat' (first | (with_reducible exact hK) | (with_reducible exact KeepsOthers.refl _) | (with_reducible apply keeps_alloc) | (with_reducible apply keeps_set) | (with_reducible apply keeps_drew) | (with_reducible apply keeps_drewN)))), kc_mem hM0' hMe List.mem_cons_self (List.mem_cons_of_mem _ List.mem_cons_self), ⟨?_, by (repeat' (first | (with_reducible exact hB) | (with_reducible exact Below.refl _ _) | (with_reducible refine Below.alloc ?_ ?_ _) | (with_reducible refine Below.setCell ?_ ?_ _) | (with_reducible refine Below.drew ?_) | (with_reducible refine below_drewN ?_ _) | (with_reducible exact Nat.le_refl _) | (with_reducible exact hB.size) | (simp [go_sem]; done) | (have := hB.size; simp [go_sem]; omega)))⟩, hKF.trans (kf ((by repeat' (first | (with_reducible exact hK) | (with_reducible exact KeepsOthers.refl _) | (with_reducible apply keeps_alloc) | (with_reducible apply keeps_set) | (with_reducible apply keeps_drew) | (with_reducible apply keeps_drewN)))))⟩
        dsimp only
        rw [hsn, ho, ← Nat.add_assoc, ← HS.out]
        exact mem_tail' hMe
    case done2 =>
      rintro ys W rfl ⟨⟨hM, hB⟩, hKF⟩
      dsimp only at hM
      gi_wp2
      rw [← hsum] at hM
      rw [hsz] at hKF
      exact ⟨hKF, kc_mem hMk hM List.mem_cons_self (List.mem_cons_of_mem _ (List.mem_cons_of_mem _ List.mem_cons_self)), mem_drop 2 hM rfl, hB⟩
    case stop2 => exact fun _ _ _ _ h => h.elim
  case done =>
    rintro D ys W hD rfl ⟨hM, hB⟩ hd
    subst hL
    dsimp only at hM
    rw [sum1_prs hk] at hM
    have hC := mem_facts hM
    simp at hC
    have hK := KeepsOthers.refl W
    gi_wp2
    refine fin_marks (w := w) hd hD (by omega) (by repeat' (first | (with_reducible exact hK) | (with_reducible exact KeepsOthers.refl _) | (with_reducible apply keeps_alloc) | (with_reducible apply keeps_set) | (with_reducible apply keeps_drew) | (with_reducible apply keeps_drewN))) (L := [(w.heap.size + 1 + 1, #[.int .i64 k], 40), (w.heap.size + 1, #[.int .i64 (cntT k : Nat)], 3), (w.heap.size, #[.int .i64 k], 40)]) ?_ (by (repeat' (first | (with_reducible exact hB) | (with_reducible exact Below.refl _ _) | (with_reducible refine Below.alloc ?_ ?_ _) | (with_reducible refine Below.setCell ?_ ?_ _) | (with_reducible refine Below.drew ?_) | (with_reducible refine below_drewN ?_ _) | (with_reducible exact Nat.le_refl _) | (with_reducible exact hB.size) | (simp [go_sem]; done) | (have := hB.size; simp [go_sem]; omega)))) ?_
    · apply mem_drop 0
      · (repeat' (first | (with_reducible exact hM) | (with_reducible apply mem_alloc) | (with_reducible apply mem_set) | (with_reducible apply mem_drew) | (with_reducible apply mem_drewN)))
      · simp
    · intro W' hM' hB'
      refine ⟨.int .i64 (cntT k : Nat), ?_, rfl, hB'⟩
      simp [results, Try.f30, go_sem]
  case stop => exact fun _ _ _ _ _ _ h => h.elim
theorem RestCount_ (n : Int) (w : World) : Calls Try.prog 13 #[.int .i64 n] w (fun E' W' => E' = .returned (.tuple #[.int .i64 (mCnt n).1, .bool (mCnt n).2]) ∧ Below w.heap.size w W') := by
  cases h1 : mdB n
  · have HR := Lib.hid (show mCnt n = (0, false) by simp [mCnt, h1])
    have hM := mem_nil w; have hB := Below.refl w.heap.size w; have hC := True.intro
    go_enter Try.func13, Try.ntmps13
    go_wp2_with (go_at_call 23; refine (mIn_ _ _).mono ?_; rintro e w' ⟨rfl, rfl⟩)
    go_ret2
    exact ⟨by rw [HR.out]; rfl, by (repeat' (first | (with_reducible exact hB) | (with_reducible exact Below.refl _ _) | (with_reducible refine Below.alloc ?_ ?_ _) | (with_reducible refine Below.setCell ?_ ?_ _) | (with_reducible refine Below.drew ?_) | (with_reducible refine below_drewN ?_ _) | (with_reducible exact Nat.le_refl _) | (with_reducible exact hB.size) | (simp [go_sem]; done) | (have := hB.size; simp [go_sem]; omega)))⟩
  · obtain ⟨k, rfl, hk1, hk2⟩ := mdB_nat h1
    have HR := Lib.hid (show mCnt k = (((cntT k : Nat) : Int), true) by simp [mCnt, h1])
    have cC := fun W => count_ k ⟨hk1, hk2⟩ W
    generalize cntT k = c at *
    have hM := mem_nil w; have hB := Below.refl w.heap.size w; have hC := True.intro
    go_enter Try.func13, Try.ntmps13
    go_wp2_with (first | (go_at_call 23; refine (mIn_ _ _).mono ?_; rintro e w' ⟨rfl, rfl⟩) | (go_at_call 30; refine (cC _).mono ?_; rintro e w' ⟨rfl, hb⟩; apply after_call (w := w) hb; (focus ((repeat' (first | (with_reducible exact hM) | (with_reducible apply mem_alloc) | (with_reducible apply mem_set) | (with_reducible apply mem_drew) | (with_reducible apply mem_drewN))); done)); (focus ((repeat' (first | (with_reducible exact hB) | (with_reducible exact Below.refl _ _) | (with_reducible refine Below.alloc ?_ ?_ _) | (with_reducible refine Below.setCell ?_ ?_ _) | (with_reducible refine Below.drew ?_) | (with_reducible refine below_drewN ?_ _) | (with_reducible exact Nat.le_refl _) | (with_reducible exact hB.size) | (simp [go_sem]; done) | (have := hB.size; simp [go_sem]; omega))); done)); (focus ((repeat' (first | (with_reducible exact hB) | (with_reducible exact Below.refl _ _) | (with_reducible refine Below.alloc ?_ ?_ _) | (with_reducible refine Below.setCell ?_ ?_ _) | (with_reducible refine Below.drew ?_) | (with_reducible refine below_drewN ?_ _) | (with_reducible exact Nat.le_refl _) | (with_reducible exact hB.size) | (simp [go_sem]; done) | (have := hB.size; simp [go_sem]; omega))); done)); clear hM hB hb; intro hM hB; (try clear hC); have hC := mem_facts hM; simp at hC))
    go_ret2
    exact ⟨by rw [HR.out]; rfl, by (repeat' (first | (with_reducible exact hB) | (with_reducible exact Below.refl _ _) | (with_reducible refine Below.alloc ?_ ?_ _) | (with_reducible refine Below.setCell ?_ ?_ _) | (with_reducible refine Below.drew ?_) | (with_reducible refine below_drewN ?_ _) | (with_reducible exact Nat.le_refl _) | (with_reducible exact hB.size) | (simp [go_sem]; done) | (have := hB.size; simp [go_sem]; omega)))⟩
end Go.Proofs.Ytkallllpjkkhhaa


/- The laws on drawn lists: plain lists turned round. No condition. -/
import Derived.Test.YtbpaklcibkifnaaTurnO
import Derived.Test.YtbpaklcibkifnaaDrawY
import Derived.Deep.AppendLies
import Derived.Deep.LoopGhost
import Derived.Deep.DeepCutAuto
namespace Go.Proofs.Ytbpaklcibkifnaa
open Go.RowKit

theorem ou_neg (x : Int) : ouB (0 - x) = ouB x := by
  rw [Bool.eq_iff_iff, ouB_iff, ouB_iff]; omega
theorem getD_rev {zs : List Int} {i : Nat} (h : i < zs.length) : zs.reverse.getD i 0 = zs.getD (zs.length - 1 - i) 0 := by
  have h2 : zs.length - 1 - i < zs.length := by omega
  simp [List.getD, h, h2]
theorem pr_rev {zs : List Int} (h : prB zs = true) : prB zs.reverse = true := by
  obtain ⟨h1, h2⟩ := Bool.and_eq_true_iff.1 h
  refine Bool.and_eq_true_iff.2 ⟨?_, ?_⟩
  · obtain ⟨h3, h4⟩ := lsB_iff.1 h1
    exact lsB_iff.2 ⟨by simpa using h3, fun x hx => h4 x (List.mem_reverse.1 hx)⟩
  · refine plB_iff.2 fun i hi hi1 => ?_
    rw [List.length_reverse] at hi
    rw [getD_rev (by omega)]
    exact plB_iff.1 h2 _ (by omega) (by omega)
theorem pr_neg {zs : List Int} (h : prB zs = true) : prB (zs.map fun x => 0 - x) = true := by
  obtain ⟨h1, h2⟩ := Bool.and_eq_true_iff.1 h
  refine Bool.and_eq_true_iff.2 ⟨?_, ?_⟩
  · obtain ⟨h3, h4⟩ := lsB_iff.1 h1
    refine lsB_iff.2 ⟨by simpa using h3, fun x hx => ?_⟩
    obtain ⟨y, hy, rfl⟩ := List.mem_map.1 hx
    have := h4 y hy
    omega
  · refine plB_iff.2 fun i hi hi1 => ?_
    rw [List.length_map] at hi
    have hil : i < zs.length := by omega
    have e : (zs.map fun x => 0 - x).getD i 0 = 0 - zs.getD i 0 := by simp [List.getD, hil]
    rw [e, ou_neg]
    exact plB_iff.1 h2 i hi hi1
theorem rev_step {zs : List Int} {k : Nat} (h : k < zs.length) : (zs.drop (k + 1)).reverse ++ [zs.getD k 0] = (zs.drop k).reverse := by
  have e : zs.getD k 0 = zs[k] := by simp [List.getD, h]
  rw [e, List.drop_eq_getElem_cons h, List.reverse_cons]
theorem row_other {base ga gb n cap : Nat} {W w1 : World} {e : TypeId} {xs : List Value} (h : W.ownsRow base e 1 (.slice (some ⟨gb, 0, none⟩) n cap) n xs) (hg : W.grownBy w1 (some ga)) (hne : ga ≠ gb) : w1.ownsRow base e 1 (.slice (some ⟨gb, 0, none⟩) n cap) n xs := by
  refine ⟨h.1, ?_⟩
  rcases h.2 with ⟨h2, _⟩ | ⟨g, c, cur, hv, hb, hgb, h3⟩
  · simp at h2
  · have hgg : gb = g := by simp at hv; exact hv.1
    subst hgg
    exact .inr ⟨gb, c, cur, hv, hb, (hg.block gb (mem_lt hgb) (by intro e; injection e with e; exact hne e.symm)).trans hgb, h3⟩
/-- two rows of the call's own and a third block, all apart -/
def Two (base : Nat) (W : World) (g : Nat) (cur : Array Value) (ga na ca : Nat) (xs : List Value) (gb nb cb : Nat) (ys : List Value) : Prop := ga ≠ gb ∧ ga ≠ g ∧ gb ≠ g ∧
  W.ownsRow base 3 1 (.slice (some ⟨ga, 0, none⟩) na ca) na xs ∧ W.ownsRow base 3 1 (.slice (some ⟨gb, 0, none⟩) nb cb) nb ys ∧ W.heap[g]? = some (.cells cur 3 (0, 0))
theorem Two.swap {base g ga na ca gb nb cb : Nat} {W : World} {cur : Array Value} {xs ys : List Value} (h : Two base W g cur ga na ca xs gb nb cb ys) : Two base W g cur gb nb cb ys ga na ca xs :=
  ⟨fun e => h.1 e.symm, h.2.2.1, h.2.1, h.2.2.2.2.1, h.2.2.2.1, h.2.2.2.2.2⟩
theorem Two.fst {base g ga na ca gb nb cb ga' na' ca' : Nat} {W w2 : World} {o : Obj} {cur : Array Value} {xs ys xs' : List Value} (h : Two base W g cur ga na ca xs gb nb cb ys) (hgrow : (W.alloc o).grownBy w2 (some ga)) (hat : some ga = some ga' ∨ ga' = W.heap.size + 1)
    (hown : w2.ownsRow base 3 1 (.slice (some ⟨ga', 0, none⟩) na' ca') na' xs') : Two base w2 g cur ga' na' ca' xs' gb nb cb ys := by
  obtain ⟨h1, h2, h3, h4, h5, h6⟩ := h
  obtain ⟨cb2, hb, _, _⟩ := row_cur h5
  have lb := mem_lt hb
  have lg := mem_lt h6
  have hk : ∀ k, k < W.heap.size → k ≠ ga → w2.heap[k]? = W.heap[k]? := fun k hk hne =>
    (hgrow.block k (by simp; omega) (by intro e; injection e with e; exact hne e)).trans (Below.heap_alloc W o k hk)
  refine ⟨?_, ?_, h3, hown, row_other (h5.alloc o) hgrow h1, (hk g lg (fun e => h2 e.symm)).trans h6⟩
  · rcases hat with e | e
    · injection e with e; rw [← e]; exact h1
    · omega
  · rcases hat with e | e
    · injection e with e; rw [← e]; exact h2
    · omega
theorem rdO_cell {W : World} {g n gc k : Nat} {qs : List Int} (h : RdO W (.slice (some ⟨g, 0, none⟩) n gc) qs) (hk : k < qs.length) : W.cell? ⟨g, k, none⟩ = some (.int .i64 (qs.getD k 0)) := by
  obtain ⟨ao, cap, e, _, hc⟩ := h
  obtain ⟨g', o', e', h3⟩ := hc k hk
  injection e with e
  subst e
  injection e' with e'
  injection e' with e1 e2
  subst e1 e2
  rw [Nat.zero_add] at h3
  exact h3
theorem rdO_row {W : World} {base n : Nat} {v : Value} {xs : List Int} (h : W.ownsRow base 3 1 v n (xs.map (Value.int .i64))) (hn : n = xs.length) : RdO W v xs := by
  subst hn
  exact IntRow.rdO (row_intro h)
/-- at the head of a round: gk numbers are left -/
def PlRel (qs : List Int) (w : World) (g : Nat) (cur : Array Value) (gk : Nat) (va vb i : Value) (wr : World) : Prop := ∃ ga gb ca cb : Nat, gk ≤ qs.length ∧ i = .int .i64 ((gk : Int) - 1) ∧ va = .slice (some ⟨ga, 0, none⟩) (qs.length - gk) ca ∧ vb = .slice (some ⟨gb, 0, none⟩) (qs.length - gk) cb ∧
  Two w.heap.size wr g cur ga (qs.length - gk) ca ((qs.drop gk).reverse.map (Value.int .i64)) gb (qs.length - gk) cb (((qs.drop gk).reverse.map fun x => 0 - x).map (Value.int .i64)) ∧ Below w.heap.size w wr
set_option maxRecDepth 100000 in
set_option maxHeartbeats 4000000 in
theorem lawPlainD (A : Option Addr) (len cap : Nat) (zs : List Int) (w : World) (hRow : RowB .u8 w w.heap.size A len cap zs) : Calls Try.prog 4 #[.slice A len cap] w (fun E' W' => E' = .returned (.bool true) ∧ Below w.heap.size w W') := by
  by_cases hl : 1048576 < len
  · have hM := mem_nil w; have hB := Below.refl w.heap.size w; have hC := True.intro
    go_enter Try.func4, Try.ntmps4
    go_wp2
    go_ret
    exact ⟨rfl, by (repeat' (first | (with_reducible exact hB) | (with_reducible exact Below.refl _ _) | (with_reducible refine Below.alloc ?_ ?_ _) | (with_reducible refine Below.setCell ?_ ?_ _) | (with_reducible refine Below.drew ?_) | (with_reducible refine below_drewN ?_ _) | (with_reducible exact Nat.le_refl _) | (with_reducible exact hB.size) | (simp [go_sem]; done) | (have := hB.size; simp [go_sem]; omega)))⟩
  · have hM := mem_nil w; have hB := Below.refl w.heap.size w; have hC := True.intro
    go_enter Try.func4, Try.ntmps4
    go_upto_region 4 with (go_at_call 11; apply use_listrow (w := w) hRow (DrawTurnPlain_ _ _ _ _) hB (Nat.le_refl _); rintro v qs w' ⟨g, gc, cur, rfl, hgc, hge, hrd⟩ hql hb; have HRD := Lib.hid hrd; have HGC := Lib.hid hgc; replace hM := mem_one hgc; replace hB := hb; clear hrd hb hgc; have hC := mem_facts hM; simp at hC)
    obtain ⟨w1, rfl⟩ : ∃ w1 : World, w1 = w' := ⟨_, rfl⟩
    have hz : qs.length ≤ 1000000000 := by omega
    have hv := HRD.out w1 HGC.out
    have hS := sTurnPlain_ (.slice (some ⟨g, 0, none⟩) qs.length gc) qs hz w1 hv
    have hT := TurnPlain_ (.slice (some ⟨g, 0, none⟩) qs.length gc) qs hz w1 hv
    cases h : prB qs
    · rw [h] at hS hT
      clear h
      go_wp2_with (first | (go_at_call 12; refine (hT).mono ?_; rintro e w' ⟨rfl, rfl⟩) | (go_at_call 13; refine (hS).mono ?_; rintro e w' ⟨rfl, rfl⟩))
      go_ret
      exact ⟨rfl, by (repeat' (first | (with_reducible exact hB) | (with_reducible exact Below.refl _ _) | (with_reducible refine Below.alloc ?_ ?_ _) | (with_reducible refine Below.setCell ?_ ?_ _) | (with_reducible refine Below.drew ?_) | (with_reducible refine below_drewN ?_ _) | (with_reducible exact Nat.le_refl _) | (with_reducible exact hB.size) | (simp [go_sem]; done) | (have := hB.size; simp [go_sem]; omega)))⟩
    · rw [h] at hS hT
      have HP := Lib.hid h
      clear h
      obtain ⟨i0, hi, hz0, hz1, hz2⟩ := info_parts infoI64
      go_wp2_with (first | (go_at_call 12; refine (hT).mono ?_; rintro e w' ⟨rfl, rfl⟩) | (go_at_call 13; refine (hS).mono ?_; rintro e w' ⟨rfl, rfl⟩))
      go_loopg [6, 7, 8] qs.length (fun gk va vb i wr => PlRel qs w g cur gk va vb i wr)
      case atStart =>
        have lg := mem_lt HGC.out
        have hw1 := hB.size
        have hM2 : Mem ((w1.alloc (.cells #[] 3)).alloc (.cells #[] 3)) [(w1.heap.size + 1, #[], 3), (w1.heap.size, #[], 3), (g, cur, 3)] := by simpa using mem_alloc (mem_alloc (mem_one HGC.out) #[] 3) #[] 3
        refine ⟨w1.heap.size, w1.heap.size + 1, 0, 0, Nat.le_refl _, rfl, by simp, by simp, ?_, by (repeat' (first | (with_reducible exact hB) | (with_reducible exact Below.refl _ _) | (with_reducible refine Below.alloc ?_ ?_ _) | (with_reducible refine Below.setCell ?_ ?_ _) | (with_reducible refine Below.drew ?_) | (with_reducible refine below_drewN ?_ _) | (with_reducible exact Nat.le_refl _) | (with_reducible exact hB.size) | (simp [go_sem]; done) | (have := hB.size; simp [go_sem]; omega)))⟩
        simp only [Nat.sub_self, List.drop_length, List.reverse_nil, List.map_nil]
        exact ⟨by omega, by omega, by omega, row_mt (hM2.1 (w1.heap.size, #[], 3) (by simp)) (by omega), row_mt (hM2.1 (w1.heap.size + 1, #[], 3) (by simp)) (by omega), hM2.1 (g, cur, 3) (by simp)⟩
      case round =>
        obtain ⟨ga, gb, ca, cb, hgk, rfl, rfl, rfl, hTa, hB'⟩ := hrel
        clear hM hB hC hS hT hv
        have hM := mem_nil wr
        have hB := hB'
        have hC := True.intro
        clear hB'
        cases gk with
        | zero =>
          simp only [Nat.sub_zero, List.drop_zero] at hTa ⊢
          have hA := TurnPlain_ _ qs.reverse (by simp; omega) wr (rdO_row hTa.2.2.2.1 (by simp))
          have hA2 := TurnPlain_ _ (qs.reverse.map fun x => 0 - x) (by simp; omega) wr (rdO_row hTa.2.2.2.2.1 (by simp))
          rw [pr_rev HP.out] at hA
          rw [pr_neg (pr_rev HP.out)] at hA2
          go_wp2_with (first | (go_at_call 12; refine hA.mono ?_; rintro e w' ⟨rfl, rfl⟩; clear hA) | (go_at_call 12; refine (hA2).mono ?_; rintro e w' ⟨rfl, rfl⟩))
          go_ret
          exact ⟨rfl, by (repeat' (first | (with_reducible exact hB) | (with_reducible exact Below.refl _ _) | (with_reducible refine Below.alloc ?_ ?_ _) | (with_reducible refine Below.setCell ?_ ?_ _) | (with_reducible refine Below.drew ?_) | (with_reducible refine below_drewN ?_ _) | (with_reducible exact Nat.le_refl _) | (with_reducible exact hB.size) | (simp [go_sem]; done) | (have := hB.size; simp [go_sem]; omega)))⟩
        | succ k =>
          have hlt : k < qs.length := hgk
          have e : (((k + 1 : Nat) : Int) - 1) = (k : Int) := by omega
          rw [e]
          have hc1 := rdO_cell (HRD.out wr hTa.2.2.2.2.2) hlt
          have HR := Lib.hid (rev_step hlt)
          have hki : (k : Int) < (qs.length : Int) := by omega
          have hxb : -1000 ≤ qs.getD k 0 ∧ qs.getD k 0 ≤ 1000 := by
            have e3 : qs.getD k 0 = qs[k] := by simp [List.getD, hlt]
            rw [e3]
            exact (lsB_iff.1 (Bool.and_eq_true_iff.1 HP.out).1).2 _ (List.getElem_mem _)
          generalize hx : qs.getD k 0 = x at *
          have HX := Lib.hid hx
          clear hx
          have hxw : wrap64 (0 - x) = 0 - x := by rw [wrap_mid (by omega)]
          go_wp2_with (first | (at_builtin; refine wpList_append_lies _ rfl _ _ 32 rfl w.heap.size 3 i0 (.int .i64 0) 1 8 Try.underlying32 hi hz0 hz1 hz2 rfl (by decide) _ _ _ rfl (hTa.2.2.2.1.alloc _) ⟨_, 0, none⟩ 1 1 [_] rfl rfl (cell_one_new _ _ _) (by simp [Value.oneCell']) (by omega) (by simp [maxLen]; omega) (by omega) (by have := hB.size; simp; omega) _ (by simp; rfl) ?_; intro ga' ca' w2 hown hgrow hat hlt2; have hTb := hTa.fst hgrow hat hown; apply after_app (w := w) (A := wr) hgrow (hTa.2.2.2.1.alloc _) (mem_alloc0 hM _) (by simp) (hB.alloc hB.size _) (by have := hB.size; simp; omega) (keeps_alloc (KeepsOthers.refl wr) _); clear hM hB hgrow hTa hat hown hc1; intro hM hB _; have hc2 := rdO_cell (HRD.out w2 hTb.2.2.2.2.2) hlt; rw [HX.out] at hc2) | (at_builtin; refine wpList_append_lies _ rfl _ _ 32 rfl w.heap.size 3 i0 (.int .i64 0) 1 8 Try.underlying32 hi hz0 hz1 hz2 rfl (by decide) _ _ _ rfl (hTb.2.2.2.2.1.alloc _) ⟨_, 0, none⟩ 1 1 [_] rfl rfl (cell_one_new _ _ _) (by simp [Value.oneCell']) (by omega) (by simp [maxLen]; omega) (by omega) (by have := hB.size; simp; omega) _ (by simp; rfl) ?_; intro gb' cb' w3 hown hgrow hat hlt3; have hTc := (hTb.swap.fst hgrow hat hown).swap; apply after_app (w := w) (A := w2) hgrow (hTb.2.2.2.2.1.alloc _) (mem_alloc0 hM _) (by simp) (hB.alloc hB.size _) (by have := hB.size; simp; omega) (keeps_alloc (KeepsOthers.refl w2) _); clear hM hB hgrow hTb hat hown hc2; intro hM hB _))
          have el : qs.length - (k + 1) + 1 = qs.length - k := by omega
          have e1 : (qs.drop (k + 1)).reverse.map (Value.int .i64) ++ [.int .i64 x] = (qs.drop k).reverse.map (Value.int .i64) := by rw [← HR.out, List.map_append]; rfl
          have e2 : ((qs.drop (k + 1)).reverse.map fun x => 0 - x).map (Value.int .i64) ++ [.int .i64 (0 - x)] = ((qs.drop k).reverse.map fun x => 0 - x).map (Value.int .i64) := by rw [← HR.out, List.map_append, List.map_append]; rfl
          rw [e1, el] at hTc
          go_roundg k
          case measure => omega
          case rel =>
            refine ⟨ga', gb', ca', cb', by omega, rfl, by rw [el], by rw [el], ?_, hB⟩
            rw [← e2]
            simpa [hxw] using hTc
theorem goPlainD (A : Option Addr) (len cap : Nat) (zs : List Int) (w : World) (h : IsRow .u8 w A len cap zs) : Calls Try.prog 4 #[.slice A len cap] w (fun E' W' => E' = .returned (.bool true) ∧ Below w.heap.size w W') := lawPlainD A len cap zs w (rowB h)
end Go.Proofs.Ytbpaklcibkifnaa

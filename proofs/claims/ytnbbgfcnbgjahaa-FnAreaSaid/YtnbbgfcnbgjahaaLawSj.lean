
/- The law on areas of drawn lists of pairs. No condition. -/
import Derived.Test.YtnbbgfcnbgjahaaShY
import Derived.Test.YtnbbgfcnbgjahaaDrawU
import Derived.Deep.AppendLies
import Derived.Deep.LoopGhost
import Derived.Deep.DeepCutAuto
namespace Go.Proofs.Ytnbbgfcnbgjahaa
open Go.RowKit

/-- two rows of pairs of the call's own and a third block, all apart -/
def TwoP (base : Nat) (W : World) (g : Nat) (cur : Array Value) (ga na ca : Nat) (xs : List Value) (gb nb cb : Nat) (ys : List Value) : Prop := ga ≠ gb ∧ ga ≠ g ∧ gb ≠ g ∧
  W.ownsRow base 24 2 (.slice (some ⟨ga, 0, none⟩) na ca) na xs ∧ W.ownsRow base 24 2 (.slice (some ⟨gb, 0, none⟩) nb cb) nb ys ∧ W.heap[g]? = some (.cells cur 24 (0, 0))
theorem TwoP.swap {base g ga na ca gb nb cb : Nat} {W : World} {cur : Array Value} {xs ys : List Value} (h : TwoP base W g cur ga na ca xs gb nb cb ys) : TwoP base W g cur gb nb cb ys ga na ca xs :=
  ⟨fun e => h.1 e.symm, h.2.2.1, h.2.1, h.2.2.2.2.1, h.2.2.2.1, h.2.2.2.2.2⟩
theorem TwoP.fst {base g ga na ca gb nb cb ga' na' ca' : Nat} {W w2 : World} {o : Obj} {cur : Array Value} {xs ys xs' : List Value} (h : TwoP base W g cur ga na ca xs gb nb cb ys) (hgrow : (W.alloc o).grownBy w2 (some ga)) (hat : some ga = some ga' ∨ ga' = W.heap.size + 1)
    (hown : w2.ownsRow base 24 2 (.slice (some ⟨ga', 0, none⟩) na' ca') na' xs') : TwoP base w2 g cur ga' na' ca' xs' gb nb cb ys := by
  obtain ⟨h1, h2, h3, h4, h5, h6⟩ := h
  obtain ⟨cb2, hb, _, _⟩ := row_cur2 h5
  have lb := mem_lt hb
  have lg := mem_lt h6
  have hk : ∀ k, k < W.heap.size → k ≠ ga → w2.heap[k]? = W.heap[k]? := fun k hk hne =>
    (hgrow.block k (by simp; omega) (by intro e; injection e with e; exact hne e)).trans (Below.heap_alloc W o k hk)
  refine ⟨?_, ?_, h3, hown, row_other2 (h5.alloc o) hgrow h1, (hk g lg (fun e => h2 e.symm)).trans h6⟩
  · rcases hat with e | e
    · injection e with e; rw [← e]; exact h1
    · omega
  · rcases hat with e | e
    · injection e with e; rw [← e]; exact h2
    · omega
theorem rev_stepP {ps : List Pr2} {k : Nat} (h : k < ps.length) : (ps.drop (k + 1)).reverse ++ [atP ps k] = (ps.drop k).reverse := by
  have e : atP ps k = ps[k] := by simp [atP, List.getD, h]
  rw [e, List.drop_eq_getElem_cons h, List.reverse_cons]
/-- at the head of a round: gk pairs are left -/
def ArgRel (ps : List Pr2) (w : World) (g : Nat) (cur : Array Value) (gk : Nat) (va vb i : Value) (wr : World) : Prop := ∃ ga gb ca cb : Nat, gk ≤ ps.length ∧ i = .int .i64 ((gk : Int) - 1) ∧ va = .slice (some ⟨ga, 0, none⟩) (ps.length - gk) ca ∧ vb = .slice (some ⟨gb, 0, none⟩) (ps.length - gk) cb ∧
  TwoP w.heap.size wr g cur ga (ps.length - gk) ca (cs2 (ps.drop gk).reverse) gb (ps.length - gk) cb (cs2 ((ps.drop gk).reverse.map shX)) ∧ Below w.heap.size w wr
theorem use_plrow {P : Program} {f : FuncId} {args : Array Value} {w W : World} {Q : Ending → World → Prop} {A : Option Addr} {len cap : Nat} {zs : List Int} (hRow : RowB .u8 w w.heap.size A len cap zs)
    (hc : ∀ W : World, RowB .u8 W W.heap.size A len cap zs → Calls P f args W (PlPost W)) (hB : Below w.heap.size w W) (hw : w.heap.size ≤ W.heap.size)
    (h : ∀ v ps w', (∃ (g gc : Nat) (cur : Array Value), v = .slice (some ⟨g, 0, none⟩) ps.length gc ∧ w'.heap[g]? = some (.cells cur 24 (0, 0)) ∧ W.heap.size ≤ g ∧ (∀ W' : World, W'.heap[g]? = some (.cells cur 24 (0, 0)) → ReadsP W' (.slice (some ⟨g, 0, none⟩) ps.length gc) ps)) → (2 ≤ ps.length ∧ ps.length ≤ 12) → Below W.heap.size W w' → Q (.returned v) w') : Calls P f args W Q :=
  (hc W (hRow.at_ hB hw)).mono fun e w' ⟨g, gc, ps, cur, he, h1, h2, h3, h4, h5⟩ => by rw [he]; exact h _ ps w' ⟨g, gc, cur, rfl, h1, h2, h3⟩ h4 h5
theorem rdP_cell {W : World} {g n gc k : Nat} {ps : List Pr2} (h : ReadsP W (.slice (some ⟨g, 0, none⟩) n gc) ps) (hk : k < ps.length) : Cell2 W g (k * 2) (atP ps k) := by
  obtain ⟨ao, cap, e, hc⟩ := h
  obtain ⟨g', e', h3⟩ := hc k hk
  injection e with e
  subst e
  injection e' with e'
  injection e' with e1
  subst e1
  exact h3
/-- behind an append of one pair -/
theorem after_appP {w wr w1 : World} {v : Value} {k : Nat} {xs : List Value} {c : Obj} {e : TypeId} {G : Prop} (hgrow : (wr.alloc c).grownBy w1 v.ownBlock) (hrow : wr.ownsRow w.heap.size e 2 v k xs) (hB : Below w.heap.size w wr)
    (g : Below w.heap.size w w1 → G) : G := by
  refine g ((hB.alloc hB.size _).grown hgrow ?_ fun j ej => (hrow.lt j ej).1)
  have := hB.size; simp; omega
theorem TwoP.drew {base g ga na ca gb nb cb : Nat} {W : World} {cur : Array Value} {xs ys : List Value} (h : TwoP base W g cur ga na ca xs gb nb cb ys) : TwoP base W.drew g cur ga na ca xs gb nb cb ys := h
theorem arg_in {ps : List Pr2} (h : (mArea ps).2 = true) (k : Nat) : -10000 ≤ (atP ps k).x ∧ (atP ps k).x ≤ 10000 := by
  have hk : arOk ps = true := by
    unfold mArea at h
    split at h
    · assumption
    · cases h
  simp only [arOk, Bool.and_eq_true] at hk
  exact (pB_iff.1 (atP_in hk.2 k)).1
theorem mem_oneP {W : World} {g : Nat} {cs : Array Value} {t : TypeId} (hg : W.heap[g]? = some (.cells cs t (0, 0))) : Mem W [(g, cs, t)] :=
  ⟨(fun p hp => by rw [List.mem_singleton.1 hp]; exact hg), by simp⟩
theorem i64wrapP (x : Int) : IntKind.i64.wrap x = wrap64 x := by rw [IntKind.wrap_i64, wrap64]
theorem at_memP {W : World} {L : List (Nat × Array Value × TypeId)} {g : Nat} {cs : Array Value} {t : TypeId} (h : Mem W L) (hin : (g, cs, t) ∈ L) : W.heap[g]? = some (.cells cs t (0, 0)) := h.1 _ hin
set_option maxRecDepth 100000 in
set_option maxHeartbeats 4000000 in
theorem lawAreaD (A : Option Addr) (len cap : Nat) (zs : List Int) (w : World) (hRow : RowB .u8 w w.heap.size A len cap zs) : Calls Try.prog 7 #[.slice A len cap] w (fun E' W' => E' = .returned (.bool true) ∧ Below w.heap.size w W') := by
  by_cases hl : 1048576 < len
  · have hM := mem_nil w; have hB := Below.refl w.heap.size w; have hC := True.intro
    go_enter Try.func7, Try.ntmps7
    go_wp2
    go_ret
    exact ⟨rfl, by (repeat' (first | (with_reducible exact hB) | (with_reducible exact Below.refl _ _) | (with_reducible refine Below.alloc ?_ ?_ _) | (with_reducible refine Below.setCell ?_ ?_ _) | (with_reducible refine Below.drew ?_) | (with_reducible refine below_drewN ?_ _) | (with_reducible exact Nat.le_refl _) | (with_reducible exact hB.size) | (simp [go_sem]; done) | (have := hB.size; simp [go_sem]; omega)))⟩
  · have hM := mem_nil w; have hB := Below.refl w.heap.size w; have hC := True.intro
    go_enter Try.func7, Try.ntmps7
    go_upto_region 4 with (go_at_call 22; apply use_plrow (w := w) hRow (DrawShortArea_ _ _ _ _) hB (Nat.le_refl _); rintro v ps w' ⟨g, gc, cur, rfl, hgc, hge, hrd⟩ hql hb; have HRD := Lib.hid hrd; have HGC := Lib.hid hgc; replace hM := mem_oneP hgc; replace hB := hb; clear hrd hb hgc; have hC := mem_facts hM; simp at hC)
    have hS := fun W h => sShortArea_ _ ps (by omega) W (HRD.out W h)
    have hT := fun W h => ShortArea_ _ ps (by omega) W (HRD.out W h)
    obtain ⟨a, e, ok, hm⟩ : ∃ a e ok, mArea ps = ((a, e), ok) := ⟨_, _, _, rfl⟩
    have HM := Lib.hid hm
    simp only [hm] at hS hT
    clear hm
    cases ok
    · go_wp2_with (first | (go_at_call 23; refine (hT _ (at_memP (by (repeat' (first | (with_reducible exact hM) | (with_reducible apply mem_alloc) | (with_reducible apply mem_set) | (with_reducible apply mem_drew) | (with_reducible apply mem_drewN)))) (by simp))).mono ?_; rintro e w' ⟨rfl, hb⟩; apply after_call (w := w) hb; (focus ((repeat' (first | (with_reducible exact hM) | (with_reducible apply mem_alloc) | (with_reducible apply mem_set) | (with_reducible apply mem_drew) | (with_reducible apply mem_drewN))); done)); (focus ((repeat' (first | (with_reducible exact hB) | (with_reducible exact Below.refl _ _) | (with_reducible refine Below.alloc ?_ ?_ _) | (with_reducible refine Below.setCell ?_ ?_ _) | (with_reducible refine Below.drew ?_) | (with_reducible refine below_drewN ?_ _) | (with_reducible exact Nat.le_refl _) | (with_reducible exact hB.size) | (simp [go_sem]; done) | (have := hB.size; simp [go_sem]; omega))); done)); (focus ((repeat' (first | (with_reducible exact hB) | (with_reducible exact Below.refl _ _) | (with_reducible refine Below.alloc ?_ ?_ _) | (with_reducible refine Below.setCell ?_ ?_ _) | (with_reducible refine Below.drew ?_) | (with_reducible refine below_drewN ?_ _) | (with_reducible exact Nat.le_refl _) | (with_reducible exact hB.size) | (simp [go_sem]; done) | (have := hB.size; simp [go_sem]; omega))); done)); clear hM hB hb; intro hM hB; (try clear hC); have hC := mem_facts hM; simp at hC) | (go_at_call 24; refine (hS _ (at_memP (by (repeat' (first | (with_reducible exact hM) | (with_reducible apply mem_alloc) | (with_reducible apply mem_set) | (with_reducible apply mem_drew) | (with_reducible apply mem_drewN)))) (by simp))).mono ?_; rintro e w' ⟨rfl, hb⟩; apply after_call (w := w) hb; (focus ((repeat' (first | (with_reducible exact hM) | (with_reducible apply mem_alloc) | (with_reducible apply mem_set) | (with_reducible apply mem_drew) | (with_reducible apply mem_drewN))); done)); (focus ((repeat' (first | (with_reducible exact hB) | (with_reducible exact Below.refl _ _) | (with_reducible refine Below.alloc ?_ ?_ _) | (with_reducible refine Below.setCell ?_ ?_ _) | (with_reducible refine Below.drew ?_) | (with_reducible refine below_drewN ?_ _) | (with_reducible exact Nat.le_refl _) | (with_reducible exact hB.size) | (simp [go_sem]; done) | (have := hB.size; simp [go_sem]; omega))); done)); (focus ((repeat' (first | (with_reducible exact hB) | (with_reducible exact Below.refl _ _) | (with_reducible refine Below.alloc ?_ ?_ _) | (with_reducible refine Below.setCell ?_ ?_ _) | (with_reducible refine Below.drew ?_) | (with_reducible refine below_drewN ?_ _) | (with_reducible exact Nat.le_refl _) | (with_reducible exact hB.size) | (simp [go_sem]; done) | (have := hB.size; simp [go_sem]; omega))); done)); clear hM hB hb; intro hM hB; (try clear hC); have hC := mem_facts hM; simp at hC))
      go_ret
      exact ⟨rfl, by (repeat' (first | (with_reducible exact hB) | (with_reducible exact Below.refl _ _) | (with_reducible refine Below.alloc ?_ ?_ _) | (with_reducible refine Below.setCell ?_ ?_ _) | (with_reducible refine Below.drew ?_) | (with_reducible refine below_drewN ?_ _) | (with_reducible exact Nat.le_refl _) | (with_reducible exact hB.size) | (simp [go_sem]; done) | (have := hB.size; simp [go_sem]; omega)))⟩
    · obtain ⟨i0, hi, hz0, hz1, hz2⟩ := info_parts2 infoPair
      have HF := Lib.hid (area_facts (ps := ps) (by rw [HM.out]))
      have HI := Lib.hid (arg_in (ps := ps) (by rw [HM.out]))
      go_wp2_with (first | (go_at_call 23; refine (hT _ (at_memP (by (repeat' (first | (with_reducible exact hM) | (with_reducible apply mem_alloc) | (with_reducible apply mem_set) | (with_reducible apply mem_drew) | (with_reducible apply mem_drewN)))) (by simp))).mono ?_; rintro e w' ⟨rfl, hb⟩; apply after_call (w := w) hb; (focus ((repeat' (first | (with_reducible exact hM) | (with_reducible apply mem_alloc) | (with_reducible apply mem_set) | (with_reducible apply mem_drew) | (with_reducible apply mem_drewN))); done)); (focus ((repeat' (first | (with_reducible exact hB) | (with_reducible exact Below.refl _ _) | (with_reducible refine Below.alloc ?_ ?_ _) | (with_reducible refine Below.setCell ?_ ?_ _) | (with_reducible refine Below.drew ?_) | (with_reducible refine below_drewN ?_ _) | (with_reducible exact Nat.le_refl _) | (with_reducible exact hB.size) | (simp [go_sem]; done) | (have := hB.size; simp [go_sem]; omega))); done)); (focus ((repeat' (first | (with_reducible exact hB) | (with_reducible exact Below.refl _ _) | (with_reducible refine Below.alloc ?_ ?_ _) | (with_reducible refine Below.setCell ?_ ?_ _) | (with_reducible refine Below.drew ?_) | (with_reducible refine below_drewN ?_ _) | (with_reducible exact Nat.le_refl _) | (with_reducible exact hB.size) | (simp [go_sem]; done) | (have := hB.size; simp [go_sem]; omega))); done)); clear hM hB hb; intro hM hB; (try clear hC); have hC := mem_facts hM; simp at hC) | (go_at_call 24; refine (hS _ (at_memP (by (repeat' (first | (with_reducible exact hM) | (with_reducible apply mem_alloc) | (with_reducible apply mem_set) | (with_reducible apply mem_drew) | (with_reducible apply mem_drewN)))) (by simp))).mono ?_; rintro e w' ⟨rfl, hb⟩; apply after_call (w := w) hb; (focus ((repeat' (first | (with_reducible exact hM) | (with_reducible apply mem_alloc) | (with_reducible apply mem_set) | (with_reducible apply mem_drew) | (with_reducible apply mem_drewN))); done)); (focus ((repeat' (first | (with_reducible exact hB) | (with_reducible exact Below.refl _ _) | (with_reducible refine Below.alloc ?_ ?_ _) | (with_reducible refine Below.setCell ?_ ?_ _) | (with_reducible refine Below.drew ?_) | (with_reducible refine below_drewN ?_ _) | (with_reducible exact Nat.le_refl _) | (with_reducible exact hB.size) | (simp [go_sem]; done) | (have := hB.size; simp [go_sem]; omega))); done)); (focus ((repeat' (first | (with_reducible exact hB) | (with_reducible exact Below.refl _ _) | (with_reducible refine Below.alloc ?_ ?_ _) | (with_reducible refine Below.setCell ?_ ?_ _) | (with_reducible refine Below.drew ?_) | (with_reducible refine below_drewN ?_ _) | (with_reducible exact Nat.le_refl _) | (with_reducible exact hB.size) | (simp [go_sem]; done) | (have := hB.size; simp [go_sem]; omega))); done)); clear hM hB hb; intro hM hB; (try clear hC); have hC := mem_facts hM; simp at hC))
      clear hS hT
      obtain ⟨w1, rfl⟩ : ∃ w1 : World, w1 = w' := ⟨_, rfl⟩
      go_loopg [10, 11, 12] ps.length (fun gk va vb i wr => ArgRel ps w g cur gk va vb i wr)
      case atStart =>
        have hw1 := hB.size
        have hgl := mem_lt (at_memP hM (List.mem_singleton.2 rfl))
        have hM2 : Mem ((w1.alloc (.cells #[] 24)).alloc (.cells #[] 24)) [(w1.heap.size + 1, #[], 24), (w1.heap.size, #[], 24), (g, cur, 24)] := by simpa using mem_alloc (mem_alloc hM #[] 24) #[] 24
        refine ⟨w1.heap.size, w1.heap.size + 1, 0, 0, Nat.le_refl _, rfl, by simp, by simp, ?_, by (repeat' (first | (with_reducible exact hB) | (with_reducible exact Below.refl _ _) | (with_reducible refine Below.alloc ?_ ?_ _) | (with_reducible refine Below.setCell ?_ ?_ _) | (with_reducible refine Below.drew ?_) | (with_reducible refine below_drewN ?_ _) | (with_reducible exact Nat.le_refl _) | (with_reducible exact hB.size) | (simp [go_sem]; done) | (have := hB.size; simp [go_sem]; omega)))⟩
        simp only [Nat.sub_self, List.drop_length, List.reverse_nil, List.map_nil]
        exact ⟨by omega, by omega, by omega, row_mt2 (hM2.1 (w1.heap.size, #[], 24) (by simp)) (by omega), row_mt2 (hM2.1 (w1.heap.size + 1, #[], 24) (by simp)) (by omega), hM2.1 (g, cur, 24) (by simp)⟩
      case round =>
        obtain ⟨ga, gb, ca, cb, hgk, rfl, rfl, rfl, hTa, hB'⟩ := hrel
        clear hM hB hC
        have hM := mem_nil wr
        have hB := hB'
        have hC := True.intro
        clear hB'
        cases gk with
        | zero =>
          simp only [Nat.sub_zero, List.drop_zero] at hTa ⊢
          have hA := ShortArea_ _ ps.reverse (by simp; omega) wr (row_reads2 hTa.2.2.2.1 (by simp))
          have hA2 := fun W hb => ShortArea_ _ (ps.reverse.map shX) (by simp; omega) W ((row_reads2 hTa.2.2.2.2.1 (by simp)).below (W' := W) hb)
          rw [HF.out.1, HM.out] at hA
          obtain ⟨a2, e2, ok2, hm⟩ : ∃ a e ok, mArea (ps.reverse.map shX) = ((a, e), ok) := ⟨_, _, _, rfl⟩
          have HF2 := HF.out.2
          rw [hm, HM.out] at HF2
          simp only [hm] at hA2
          have HB2 := Lib.hid hA2
          clear hm hA2
          cases ok2
          · go_wp2_with (first | (go_at_call 23; refine hA.mono ?_; rintro e' w' ⟨rfl, hb⟩; have hA3 := HB2.out w' hb; replace hB := hB.trans (hb.mono hB.size); clear hA hb hM hTa; have hM := mem_nil w') | (go_at_call 23; refine (hA3).mono ?_; rintro e w' ⟨rfl, hb⟩; apply after_call (w := w) hb; (focus ((repeat' (first | (with_reducible exact hM) | (with_reducible apply mem_alloc) | (with_reducible apply mem_set) | (with_reducible apply mem_drew) | (with_reducible apply mem_drewN))); done)); (focus ((repeat' (first | (with_reducible exact hB) | (with_reducible exact Below.refl _ _) | (with_reducible refine Below.alloc ?_ ?_ _) | (with_reducible refine Below.setCell ?_ ?_ _) | (with_reducible refine Below.drew ?_) | (with_reducible refine below_drewN ?_ _) | (with_reducible exact Nat.le_refl _) | (with_reducible exact hB.size) | (simp [go_sem]; done) | (have := hB.size; simp [go_sem]; omega))); done)); (focus ((repeat' (first | (with_reducible exact hB) | (with_reducible exact Below.refl _ _) | (with_reducible refine Below.alloc ?_ ?_ _) | (with_reducible refine Below.setCell ?_ ?_ _) | (with_reducible refine Below.drew ?_) | (with_reducible refine below_drewN ?_ _) | (with_reducible exact Nat.le_refl _) | (with_reducible exact hB.size) | (simp [go_sem]; done) | (have := hB.size; simp [go_sem]; omega))); done)); clear hM hB hb; intro hM hB; (try clear hC); have hC := mem_facts hM; simp at hC))
            go_ret
            exact ⟨rfl, by (repeat' (first | (with_reducible exact hB) | (with_reducible exact Below.refl _ _) | (with_reducible refine Below.alloc ?_ ?_ _) | (with_reducible refine Below.setCell ?_ ?_ _) | (with_reducible refine Below.drew ?_) | (with_reducible refine below_drewN ?_ _) | (with_reducible exact Nat.le_refl _) | (with_reducible exact hB.size) | (simp [go_sem]; done) | (have := hB.size; simp [go_sem]; omega)))⟩
          · obtain ⟨rfl, rfl⟩ : a2 = a ∧ e2 = e := by simpa using HF2 rfl
            go_wp2_with (first | (go_at_call 23; refine hA.mono ?_; rintro e' w' ⟨rfl, hb⟩; have hA3 := HB2.out w' hb; replace hB := hB.trans (hb.mono hB.size); clear hA hb hM hTa; have hM := mem_nil w') | (go_at_call 23; refine (hA3).mono ?_; rintro e w' ⟨rfl, hb⟩; apply after_call (w := w) hb; (focus ((repeat' (first | (with_reducible exact hM) | (with_reducible apply mem_alloc) | (with_reducible apply mem_set) | (with_reducible apply mem_drew) | (with_reducible apply mem_drewN))); done)); (focus ((repeat' (first | (with_reducible exact hB) | (with_reducible exact Below.refl _ _) | (with_reducible refine Below.alloc ?_ ?_ _) | (with_reducible refine Below.setCell ?_ ?_ _) | (with_reducible refine Below.drew ?_) | (with_reducible refine below_drewN ?_ _) | (with_reducible exact Nat.le_refl _) | (with_reducible exact hB.size) | (simp [go_sem]; done) | (have := hB.size; simp [go_sem]; omega))); done)); (focus ((repeat' (first | (with_reducible exact hB) | (with_reducible exact Below.refl _ _) | (with_reducible refine Below.alloc ?_ ?_ _) | (with_reducible refine Below.setCell ?_ ?_ _) | (with_reducible refine Below.drew ?_) | (with_reducible refine below_drewN ?_ _) | (with_reducible exact Nat.le_refl _) | (with_reducible exact hB.size) | (simp [go_sem]; done) | (have := hB.size; simp [go_sem]; omega))); done)); clear hM hB hb; intro hM hB; (try clear hC); have hC := mem_facts hM; simp at hC))
            go_ret
            exact ⟨rfl, by (repeat' (first | (with_reducible exact hB) | (with_reducible exact Below.refl _ _) | (with_reducible refine Below.alloc ?_ ?_ _) | (with_reducible refine Below.setCell ?_ ?_ _) | (with_reducible refine Below.drew ?_) | (with_reducible refine below_drewN ?_ _) | (with_reducible exact Nat.le_refl _) | (with_reducible exact hB.size) | (simp [go_sem]; done) | (have := hB.size; simp [go_sem]; omega)))⟩
        | succ k =>
          have hlt : k < ps.length := hgk
          have e : (((k + 1 : Nat) : Int) - 1) = (k : Int) := by omega
          rw [e]
          have hc1 := rdP_cell (HRD.out wr hTa.2.2.2.2.2) hlt
          have HR := Lib.hid (rev_stepP hlt)
          have hki : (k : Int) < (ps.length : Int) := by omega
          have hxb := HI.out k
          generalize hx : atP ps k = x at *
          have HX := Lib.hid hx
          clear hx
          obtain ⟨x, y⟩ := x
          obtain ⟨hc1a, hc1b⟩ := hc1
          simp only at hc1a hc1b hxb
          go_wp2_with (at_builtin; refine wpList_append_lies _ rfl _ _ 39 rfl w.heap.size 24 i0 (.agg #[.int .i64 0, .int .i64 0]) 2 16 Try.underlying39 hi hz0 hz1 hz2 rfl (by decide) _ _ _ rfl (hTa.2.2.2.1.alloc _) ⟨_, 0, none⟩ 1 1 [.int .i64 x, .int .i64 y] rfl rfl (cell_two_new _ _ _ _) (by simp [Value.oneCell']) (by omega) (by simp [maxLen]; omega) (by omega) (by have := hB.size; simp; omega) _ (by simp; rfl) ?_; intro ga' ca' w2 hown hgrow hat hlt2; have hTb := hTa.fst hgrow hat hown; apply after_appP hgrow hTa.2.2.2.1 hB; clear hM hB hgrow hTa hat hown hc1a hc1b; intro hB; have hM := mem_oneP hTb.2.2.2.2.2; clear hC; have hC := mem_facts hM; simp at hC; replace hC := hC.2; obtain ⟨hc2a, hc2b⟩ := rdP_cell (HRD.out w2 hTb.2.2.2.2.2) hlt; rw [HX.out] at hc2a hc2b)
          (refine wp_region_T2 (fun W' => W'.cell? ⟨g, k * 2, none⟩ = some (.int .i64 x) ∧ W'.cell? ⟨g, k * 2 + 1, none⟩ = some (.int .i64 y)) 100 (by kernel_rfl) ?_ ?_; (focus (simp [*, go_sem]; done)); intro hS)
          (refine wpT_take (i := 0) (oi := ?_) (v := ?_) hS ?_ ?_ ?_ ?_ ?_ ?_; rotate_left 2; (focus (simp only [List.getElem?_toArray, List.getElem?_cons_zero]; exact rfl)); (focus (kernel_rfl)); (focus (rfl)); (focus (intro w' hW; (try dsimp only at hW); go_simp; (try with_reducible rfl); done)); (focus (exact fun _ _ _ h => h)); (try simp only [Act.put, List.setIfInBounds_toArray, List.set_cons_zero, List.set_cons_succ])); (refine wpT_take (i := 1) (oi := ?_) (v := ?_) hS ?_ ?_ ?_ ?_ ?_ ?_; rotate_left 2; (focus (simp only [List.getElem?_toArray, List.getElem?_cons_zero, List.getElem?_cons_succ]; exact rfl)); (focus (kernel_rfl)); (focus (rfl)); (focus (intro w' hW; (try dsimp only at hW); go_simp; (try with_reducible rfl); done)); (focus (exact fun _ _ _ h => h)); (try simp only [Act.put, List.setIfInBounds_toArray, List.set_cons_zero, List.set_cons_succ])); (refine wpT_take (i := 2) (oi := ?_) (v := ?_) hS ?_ ?_ ?_ ?_ ?_ ?_; rotate_left 2; (focus (simp only [List.getElem?_toArray, List.getElem?_cons_zero, List.getElem?_cons_succ]; exact rfl)); (focus (kernel_rfl)); (focus (rfl)); (focus (intro w' hW; (try dsimp only at hW); go_simp; (try with_reducible rfl); done)); (focus (exact fun _ _ _ h => h)); (try simp only [Act.put, List.setIfInBounds_toArray, List.set_cons_zero, List.set_cons_succ])); (refine wpT_take (i := 3) (oi := ?_) (v := ?_) hS ?_ ?_ ?_ ?_ ?_ ?_; rotate_left 2; (focus (simp only [List.getElem?_toArray, List.getElem?_cons_zero, List.getElem?_cons_succ]; exact rfl)); (focus (kernel_rfl)); (focus (rfl)); (focus (intro w' hW; (try dsimp only at hW); go_simp; (try with_reducible rfl); done)); (focus (exact fun _ _ _ h => h)); (try simp only [Act.put, List.setIfInBounds_toArray, List.set_cons_zero, List.set_cons_succ])); (refine wpT_take (i := 4) (oi := ?_) (v := ?_) hS ?_ ?_ ?_ ?_ ?_ ?_; rotate_left 2; (focus (simp only [List.getElem?_toArray, List.getElem?_cons_zero, List.getElem?_cons_succ]; exact rfl)); (focus (kernel_rfl)); (focus (rfl)); (focus (intro w' hW; (try dsimp only at hW); go_simp; (try with_reducible rfl); done)); (focus (exact fun _ _ _ h => h)); (try simp only [Act.put, List.setIfInBounds_toArray, List.set_cons_zero, List.set_cons_succ])); (refine wpT_take (i := 5) (oi := ?_) (v := ?_) hS ?_ ?_ ?_ ?_ ?_ ?_; rotate_left 2; (focus (simp only [List.getElem?_toArray, List.getElem?_cons_zero, List.getElem?_cons_succ]; exact rfl)); (focus (kernel_rfl)); (focus (rfl)); (focus (intro w' hW; (try dsimp only at hW); go_simp; (try with_reducible rfl); done)); (focus (exact fun _ _ _ h => h)); (try simp only [Act.put, List.setIfInBounds_toArray, List.set_cons_zero, List.set_cons_succ])); (refine wpT_take (i := 6) (oi := ?_) (v := ?_) hS ?_ ?_ ?_ ?_ ?_ ?_; rotate_left 2; (focus (simp only [List.getElem?_toArray, List.getElem?_cons_zero, List.getElem?_cons_succ]; exact rfl)); (focus (kernel_rfl)); (focus (rfl)); (focus (intro w' hW; (try dsimp only at hW); go_simp; (try with_reducible rfl); done)); (focus (exact fun _ _ _ h => h)); (try simp only [Act.put, List.setIfInBounds_toArray, List.set_cons_zero, List.set_cons_succ])); (refine wpT_take (i := 7) (oi := ?_) (v := ?_) hS ?_ ?_ ?_ ?_ ?_ ?_; rotate_left 2; (focus (simp only [List.getElem?_toArray, List.getElem?_cons_zero, List.getElem?_cons_succ]; exact rfl)); (focus (kernel_rfl)); (focus (rfl)); (focus (intro w' hW; (try dsimp only at hW); go_simp; (try with_reducible rfl); done)); (focus (exact fun _ _ _ h => h)); (try simp only [Act.put, List.setIfInBounds_toArray, List.set_cons_zero, List.set_cons_succ])); (refine wpT_take (i := 8) (oi := ?_) (v := ?_) hS ?_ ?_ ?_ ?_ ?_ ?_; rotate_left 2; (focus (simp only [List.getElem?_toArray, List.getElem?_cons_zero, List.getElem?_cons_succ]; exact rfl)); (focus (kernel_rfl)); (focus (rfl)); (focus (intro w' hW; (try dsimp only at hW); go_simp; (try with_reducible rfl); done)); (focus (exact fun _ _ _ h => h)); (try simp only [Act.put, List.setIfInBounds_toArray, List.set_cons_zero, List.set_cons_succ])); (refine wpT_take (i := 9) (oi := ?_) (v := ?_) hS ?_ ?_ ?_ ?_ ?_ ?_; rotate_left 2; (focus (simp only [List.getElem?_toArray, List.getElem?_cons_zero, List.getElem?_cons_succ]; exact rfl)); (focus (kernel_rfl)); (focus (rfl)); (focus (intro w' hW; (try dsimp only at hW); go_simp; (try with_reducible rfl); done)); (focus (exact fun _ _ _ h => h)); (try simp only [Act.put, List.setIfInBounds_toArray, List.set_cons_zero, List.set_cons_succ])); (refine wpT_take (i := 10) (oi := ?_) (v := ?_) hS ?_ ?_ ?_ ?_ ?_ ?_; rotate_left 2; (focus (simp only [List.getElem?_toArray, List.getElem?_cons_zero, List.getElem?_cons_succ]; exact rfl)); (focus (kernel_rfl)); (focus (rfl)); (focus (intro w' hW; (try dsimp only at hW); go_simp; (try with_reducible rfl); done)); (focus (exact fun _ _ _ h => h)); (try simp only [Act.put, List.setIfInBounds_toArray, List.set_cons_zero, List.set_cons_succ])); (refine wpT_take (i := 11) (oi := ?_) (v := ?_) hS ?_ ?_ ?_ ?_ ?_ ?_; rotate_left 2; (focus (simp only [List.getElem?_toArray, List.getElem?_cons_zero, List.getElem?_cons_succ]; exact rfl)); (focus (kernel_rfl)); (focus (rfl)); (focus (intro w' hW; (try dsimp only at hW); go_simp; (try with_reducible rfl); done)); (focus (exact fun _ _ _ h => h)); (try simp only [Act.put, List.setIfInBounds_toArray, List.set_cons_zero, List.set_cons_succ])); (refine wpT_take (i := 12) (oi := ?_) (v := ?_) hS ?_ ?_ ?_ ?_ ?_ ?_; rotate_left 2; (focus (simp only [List.getElem?_toArray, List.getElem?_cons_zero, List.getElem?_cons_succ]; exact rfl)); (focus (kernel_rfl)); (focus (rfl)); (focus (intro w' hW; (try dsimp only at hW); go_simp; (try with_reducible rfl); done)); (focus (exact fun _ _ _ h => h)); (try simp only [Act.put, List.setIfInBounds_toArray, List.set_cons_zero, List.set_cons_succ]))
          (refine wpT_one (i := 13) (oi := ?_) ?_ ?_ ?_ ?_; rotate_left 1; (focus (kernel_rfl)); (focus (simp only [List.getElem?_toArray, List.getElem?_cons_zero, List.getElem?_cons_succ]; exact rfl)); (focus (rfl)); go_simp)
          (first | (with_reducible refine wpT_hold ?_ ?_; (focus (simp [*, go_sem]; done)); clear hS; intro hS; (try dsimp only at hS)) | (refine held_intro ?_ ?_; (focus (simp [*, go_sem]; done)); clear hS; intro hS))
          (refine wpT_one (i := 14) (oi := ?_) ?_ ?_ ?_ ?_; rotate_left 1; (focus (kernel_rfl)); (focus (simp only [List.getElem?_toArray, List.getElem?_cons_zero, List.getElem?_cons_succ]; exact rfl)); (focus (rfl)))
          refine wp_append_lies _ _ _ 39 rfl w.heap.size 24 i0 (.agg #[.int .i64 0, .int .i64 0]) 2 16 Try.underlying39 hi hz0 hz1 hz2 rfl (by decide) _ _ _ rfl (hTb.drew.2.2.2.2.1.alloc _) ⟨_, 0, none⟩ 1 1 [.int .i64 (IntKind.i64.wrap (x + 1)), .int .i64 y] rfl rfl (cell_two_new _ _ _ _) (by simp [Value.oneCell']) (by omega) (by simp [maxLen]; omega) (by omega) (by have := hB.size; simp; omega) _ (by simp; rfl) ?_
          intro gb' cb' w3 hown hgrow hat hlt3
          replace hgrow : (w2.drew.alloc (.cells #[.int .i64 (IntKind.i64.wrap (x + 1)), .int .i64 y] 24)).grownBy w3 (some gb) := hgrow
          replace hat : some gb = some gb' ∨ gb' = w2.drew.heap.size + 1 := by
            rcases hat with e | e
            · exact .inl e
            · exact .inr e
          have hTc := (hTb.drew.swap.fst hgrow hat hown).swap
          replace hB := after_appP (v := .slice (some ⟨gb, 0, none⟩) (ps.length - (k + 1)) cb) (G := Below w.heap.size w w3) hgrow hTb.drew.2.2.2.2.1 hB.drew id
          clear hM hTb hc2a hc2b hC
          have hM := mem_nil w3
          have hC := True.intro
          obtain ⟨hc3a, hc3b⟩ := rdP_cell (HRD.out w3 hTc.2.2.2.2.2) hlt
          rw [HX.out] at hc3a hc3b
          go_simp
          (first | (with_reducible refine wpT_hold ?_ ?_; (focus (simp [*, go_sem]; done)); clear hS; intro hS; (try dsimp only at hS)) | (refine held_intro ?_ ?_; (focus (simp [*, go_sem]; done)); clear hS; intro hS))
          (refine wpT_one (i := 15) (oi := ?_) ?_ ?_ ?_ ?_; rotate_left 1; (focus (kernel_rfl)); (focus (simp only [List.getElem?_toArray, List.getElem?_cons_zero, List.getElem?_cons_succ]; exact rfl)); (focus (rfl)); go_simp)
          (first | (with_reducible refine wpT_hold ?_ ?_; (focus (simp [*, go_sem]; done)); clear hS; intro hS; (try dsimp only at hS)) | (refine held_intro ?_ ?_; (focus (simp [*, go_sem]; done)); clear hS; intro hS))
          refine wpT_done (by kernel_rfl) ?_ _
          go_wp2_with fail
          have hxw : IntKind.i64.wrap (x + 1) = x + 1 := by rw [i64wrapP, wrap_mid (by omega)]
          rw [hxw] at hTc
          have el : ps.length - (k + 1) + 1 = ps.length - k := by omega
          have e1 : cs2 (ps.drop (k + 1)).reverse ++ [.int .i64 x, .int .i64 y] = cs2 (ps.drop k).reverse := by rw [← HR.out, cs2_append]; rfl
          have e2 : cs2 ((ps.drop (k + 1)).reverse.map shX) ++ [.int .i64 (x + 1), .int .i64 y] = cs2 ((ps.drop k).reverse.map shX) := by rw [← HR.out, List.map_append, cs2_append]; rfl
          rw [e1, e2, el] at hTc
          go_roundg k
          case measure => omega
          case rel => exact ⟨ga', gb', ca', cb', by omega, rfl, by rw [el], by rw [el], hTc, hB⟩
theorem goArea (A : Option Addr) (len cap : Nat) (zs : List Int) (w : World) (h : IsRow .u8 w A len cap zs) : Calls Try.prog 7 #[.slice A len cap] w (fun E' W' => E' = .returned (.bool true) ∧ Below w.heap.size w W') := lawAreaD A len cap zs w (rowB h)
end Go.Proofs.Ytnbbgfcnbgjahaa

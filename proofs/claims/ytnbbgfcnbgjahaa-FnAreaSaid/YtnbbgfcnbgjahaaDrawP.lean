
/- The draws of pairs, for every slice of bytes. -/
import Derived.Test.YtnbbgfcnbgjahaaDrawG
import Derived.Test.YtnbbgfcnbgjahaaShV
namespace Go.Proofs.Ytnbbgfcnbgjahaa
open Go.RowKit

/-- a pair that is drawn -/
def IsPr (v : Value) : Prop := ∃ x y : Int, v = .agg #[.int .i64 x, .int .i64 y] ∧ (-20 ≤ x ∧ x ≤ 10001) ∧ (-20 ≤ y ∧ y ≤ 20)
set_option maxHeartbeats 1000000 in
theorem l92Pair_ (R B q : Nat) (w : World) (hB : B ≤ w.heap.size) (hR : Rdr w R B q) (hq : q ≤ 800000) : Calls Try.prog 25 #[.pointer (some ⟨R, 0, none⟩)] w (DPost IsPr R B (q + 10) w) := by
  have hI := inv_start hR hB
  clear hR
  go_enter Try.func25, Try.ntmps25
  go_wp2_with ((go_at_call 31; apply use_rd (w := w) (R := R) (fun hb hr hq => pickD _ _ _ _ _ hb hr hq); (focus ((repeat' (first | (with_reducible exact hI) | (with_reducible apply inv_alloc) | (with_reducible apply inv_drew) | (with_reducible apply inv_drewN) | (with_reducible apply inv_set) | (simp only [setL_map]; simp; done) | (simp; done))); done)); (focus omega); rintro v' w' ⟨x, rfl, hx0, hx1, _⟩; clear hI; intro hI; (try simp [hC] at hI); (try clear hC); have hC := mem_facts hI.1; simp at hC); replace hx1 := hx1 (by decide))
  all_goals
    refine bodyPost_ret (by (simp [results, Try.results25, go_sem, *]; try rfl)) rfl ?_
    apply dpost_use (w := w)
    · (repeat' (first | (with_reducible exact hI) | (with_reducible apply inv_alloc) | (with_reducible apply inv_drew) | (with_reducible apply inv_drewN) | (with_reducible apply inv_set) | (simp only [setL_map]; simp; done) | (simp; done)))
    intro hJ
    exact inv_end hJ (by omega) ⟨_, _, rfl, by omega, by omega⟩
/-- a pair, a number, two pairs; nothing that was there has changed -/
def PrPost (w : World) (e : Ending) (w' : World) : Prop := ∃ x y : Int, e = .returned (.agg #[.int .i64 x, .int .i64 y]) ∧ Below w.heap.size w w'
def NrPost (w : World) (e : Ending) (w' : World) : Prop := ∃ t : Int, e = .returned (.int .i64 t) ∧ Below w.heap.size w w'
def PpPost (w : World) (e : Ending) (w' : World) : Prop := ∃ x y z t : Int, e = .returned (.tuple #[.agg #[.int .i64 x, .int .i64 y], .agg #[.int .i64 z, .int .i64 t]]) ∧ Below w.heap.size w w'
theorem pr_use {R B q : Nat} {w W : World} {L : List (Nat × Array Value × TypeId)} {v : Value} (h : Inv R B q w W L) (k : Inv R B q w W L → PrPost w (.returned v) W) : PrPost w (.returned v) W := k h
theorem nr_use {R B q : Nat} {w W : World} {L : List (Nat × Array Value × TypeId)} {v : Value} (h : Inv R B q w W L) (k : Inv R B q w W L → NrPost w (.returned v) W) : NrPost w (.returned v) W := k h
theorem pp_use {R B q : Nat} {w W : World} {L : List (Nat × Array Value × TypeId)} {v : Value} (h : Inv R B q w W L) (k : Inv R B q w W L → PpPost w (.returned v) W) : PpPost w (.returned v) W := k h
theorem use_prow {P : Program} {f : FuncId} {w W : World} {a : Option Addr} {len cap : Nat} {zs : List Int} {Q : Ending → World → Prop} (hRow : RowB .u8 w w.heap.size a len cap zs)
    (hc : ∀ W : World, RowB .u8 W W.heap.size a len cap zs → Calls P f #[.slice a len cap] W (PrPost W)) (hB : Below w.heap.size w W) (hs : w.heap.size ≤ W.heap.size)
    (h : ∀ x y w', Below W.heap.size W w' → Q (.returned (.agg #[.int .i64 x, .int .i64 y])) w') : Calls P f #[.slice a len cap] W Q :=
  (hc W (hRow.at_ hB hs)).mono fun e w' ⟨x, y, he, hb⟩ => by rw [he]; exact h x y w' hb
theorem use_nrow {P : Program} {f : FuncId} {w W : World} {a : Option Addr} {len cap : Nat} {zs : List Int} {Q : Ending → World → Prop} (hRow : RowB .u8 w w.heap.size a len cap zs)
    (hc : ∀ W : World, RowB .u8 W W.heap.size a len cap zs → Calls P f #[.slice a len cap] W (NrPost W)) (hB : Below w.heap.size w W) (hs : w.heap.size ≤ W.heap.size)
    (h : ∀ t w', Below W.heap.size W w' → Q (.returned (.int .i64 t)) w') : Calls P f #[.slice a len cap] W Q :=
  (hc W (hRow.at_ hB hs)).mono fun e w' ⟨t, he, hb⟩ => by rw [he]; exact h t w' hb
theorem use_pprow {P : Program} {f : FuncId} {w W : World} {a : Option Addr} {len cap : Nat} {zs : List Int} {Q : Ending → World → Prop} (hRow : RowB .u8 w w.heap.size a len cap zs)
    (hc : ∀ W : World, RowB .u8 W W.heap.size a len cap zs → Calls P f #[.slice a len cap] W (PpPost W)) (hB : Below w.heap.size w W) (hs : w.heap.size ≤ W.heap.size)
    (h : ∀ x y z t w', Below W.heap.size W w' → Q (.returned (.tuple #[.agg #[.int .i64 x, .int .i64 y], .agg #[.int .i64 z, .int .i64 t]])) w') : Calls P f #[.slice a len cap] W Q :=
  (hc W (hRow.at_ hB hs)).mono fun e w' ⟨x, y, z, t, he, hb⟩ => by rw [he]; exact h x y z t w' hb
theorem DrawShortLength_ (A : Option Addr) (len cap : Nat) (zs : List Int) (w : World) (hRow : RowB .u8 w w.heap.size A len cap zs) : Calls Try.prog 8 #[.slice A len cap] w (PrPost w) := by
  have hM := mem_nil w; have hB := Below.refl w.heap.size w; have hC := True.intro
  go_enter Try.func8, Try.ntmps8
  go_wp2_with (first | (go_at_call 26; apply use_open (w := w) hRow; (focus ((repeat' (first | (with_reducible exact hM) | (with_reducible apply mem_alloc) | (with_reducible apply mem_set) | (with_reducible apply mem_drew) | (with_reducible apply mem_drewN))); done)); (focus ((repeat' (first | (with_reducible exact hB) | (with_reducible exact Below.refl _ _) | (with_reducible refine Below.alloc ?_ ?_ _) | (with_reducible refine Below.setCell ?_ ?_ _) | (with_reducible refine Below.drew ?_) | (with_reducible refine below_drewN ?_ _) | (with_reducible exact Nat.le_refl _) | (with_reducible exact hB.size) | (simp [go_sem]; done) | (have := hB.size; simp [go_sem]; omega))); done)); (focus ((repeat' (first | (with_reducible exact hB) | (with_reducible exact Below.refl _ _) | (with_reducible refine Below.alloc ?_ ?_ _) | (with_reducible refine Below.setCell ?_ ?_ _) | (with_reducible refine Below.drew ?_) | (with_reducible refine below_drewN ?_ _) | (with_reducible exact Nat.le_refl _) | (with_reducible exact hB.size) | (simp [go_sem]; done) | (have := hB.size; simp [go_sem]; omega))); done)); (focus (first | (simp; done) | (simp <;> omega))); rintro R w' hI hRge; clear hM hB; (try simp at hI); (try clear hC); have hC := mem_facts hI.1; simp at hC) | (go_at_call 25; apply use_rd (w := w) (R := R) (fun hb hr hq => l92Pair_ _ _ _ _ hb hr hq); (focus ((repeat' (first | (with_reducible exact hI) | (with_reducible apply inv_alloc) | (with_reducible apply inv_drew) | (with_reducible apply inv_drewN) | (with_reducible apply inv_set) | (simp only [setL_map]; simp; done) | (simp; done))); done)); (focus omega); rintro v' w' ⟨x, y, rfl, hx, hy⟩; clear hI; intro hI; (try simp at hI); (try clear hC); have hC := mem_facts hI.1; simp at hC))
  refine bodyPost_ret (by (simp [results, Try.results8, go_sem, *]; try rfl)) rfl ?_
  apply pr_use (w := w)
  · (repeat' (first | (with_reducible exact hI) | (with_reducible apply inv_alloc) | (with_reducible apply inv_drew) | (with_reducible apply inv_drewN) | (with_reducible apply inv_set) | (simp only [setL_map]; simp; done) | (simp; done)))
  intro hJ
  exact ⟨_, _, rfl, hJ.2.2.1.below hRge⟩
theorem DrawShortGcd_ (A : Option Addr) (len cap : Nat) (zs : List Int) (w : World) (hRow : RowB .u8 w w.heap.size A len cap zs) : Calls Try.prog 11 #[.slice A len cap] w (PrPost w) := by
  have hM := mem_nil w; have hB := Below.refl w.heap.size w; have hC := True.intro
  go_enter Try.func11, Try.ntmps11
  go_wp2_with (first | (go_at_call 26; apply use_open (w := w) hRow; (focus ((repeat' (first | (with_reducible exact hM) | (with_reducible apply mem_alloc) | (with_reducible apply mem_set) | (with_reducible apply mem_drew) | (with_reducible apply mem_drewN))); done)); (focus ((repeat' (first | (with_reducible exact hB) | (with_reducible exact Below.refl _ _) | (with_reducible refine Below.alloc ?_ ?_ _) | (with_reducible refine Below.setCell ?_ ?_ _) | (with_reducible refine Below.drew ?_) | (with_reducible refine below_drewN ?_ _) | (with_reducible exact Nat.le_refl _) | (with_reducible exact hB.size) | (simp [go_sem]; done) | (have := hB.size; simp [go_sem]; omega))); done)); (focus ((repeat' (first | (with_reducible exact hB) | (with_reducible exact Below.refl _ _) | (with_reducible refine Below.alloc ?_ ?_ _) | (with_reducible refine Below.setCell ?_ ?_ _) | (with_reducible refine Below.drew ?_) | (with_reducible refine below_drewN ?_ _) | (with_reducible exact Nat.le_refl _) | (with_reducible exact hB.size) | (simp [go_sem]; done) | (have := hB.size; simp [go_sem]; omega))); done)); (focus (first | (simp; done) | (simp <;> omega))); rintro R w' hI hRge; clear hM hB; (try simp at hI); (try clear hC); have hC := mem_facts hI.1; simp at hC) | (go_at_call 25; apply use_rd (w := w) (R := R) (fun hb hr hq => l92Pair_ _ _ _ _ hb hr hq); (focus ((repeat' (first | (with_reducible exact hI) | (with_reducible apply inv_alloc) | (with_reducible apply inv_drew) | (with_reducible apply inv_drewN) | (with_reducible apply inv_set) | (simp only [setL_map]; simp; done) | (simp; done))); done)); (focus omega); rintro v' w' ⟨x, y, rfl, hx, hy⟩; clear hI; intro hI; (try simp at hI); (try clear hC); have hC := mem_facts hI.1; simp at hC) | (go_at_call 31; apply use_rd (w := w) (R := R) (fun hb hr hq => pickD _ _ _ _ _ hb hr hq); (focus ((repeat' (first | (with_reducible exact hI) | (with_reducible apply inv_alloc) | (with_reducible apply inv_drew) | (with_reducible apply inv_drewN) | (with_reducible apply inv_set) | (simp only [setL_map]; simp; done) | (simp; done))); done)); (focus omega); rintro v' w' ⟨k, rfl, hk0, hk1, _⟩; clear hI; intro hI; (try simp at hI); (try clear hC); have hC := mem_facts hI.1; simp at hC))
  refine bodyPost_ret (by (simp [results, Try.results11, go_sem, *]; try rfl)) rfl ?_
  apply pr_use (w := w)
  · (repeat' (first | (with_reducible exact hI) | (with_reducible apply inv_alloc) | (with_reducible apply inv_drew) | (with_reducible apply inv_drewN) | (with_reducible apply inv_set) | (simp only [setL_map]; simp; done) | (simp; done)))
  intro hJ
  exact ⟨_, _, rfl, hJ.2.2.1.below hRge⟩
theorem DrawShortPrime_ (A : Option Addr) (len cap : Nat) (zs : List Int) (w : World) (hRow : RowB .u8 w w.heap.size A len cap zs) : Calls Try.prog 14 #[.slice A len cap] w (NrPost w) := by
  have hM := mem_nil w; have hB := Below.refl w.heap.size w; have hC := True.intro
  go_enter Try.func14, Try.ntmps14
  go_wp2_with (first | (go_at_call 26; apply use_open (w := w) hRow; (focus ((repeat' (first | (with_reducible exact hM) | (with_reducible apply mem_alloc) | (with_reducible apply mem_set) | (with_reducible apply mem_drew) | (with_reducible apply mem_drewN))); done)); (focus ((repeat' (first | (with_reducible exact hB) | (with_reducible exact Below.refl _ _) | (with_reducible refine Below.alloc ?_ ?_ _) | (with_reducible refine Below.setCell ?_ ?_ _) | (with_reducible refine Below.drew ?_) | (with_reducible refine below_drewN ?_ _) | (with_reducible exact Nat.le_refl _) | (with_reducible exact hB.size) | (simp [go_sem]; done) | (have := hB.size; simp [go_sem]; omega))); done)); (focus ((repeat' (first | (with_reducible exact hB) | (with_reducible exact Below.refl _ _) | (with_reducible refine Below.alloc ?_ ?_ _) | (with_reducible refine Below.setCell ?_ ?_ _) | (with_reducible refine Below.drew ?_) | (with_reducible refine below_drewN ?_ _) | (with_reducible exact Nat.le_refl _) | (with_reducible exact hB.size) | (simp [go_sem]; done) | (have := hB.size; simp [go_sem]; omega))); done)); (focus (first | (simp; done) | (simp <;> omega))); rintro R w' hI hRge; clear hM hB; (try simp at hI); (try clear hC); have hC := mem_facts hI.1; simp at hC) | (go_at_call 31; apply use_rd (w := w) (R := R) (fun hb hr hq => pickD _ _ _ _ _ hb hr hq); (focus ((repeat' (first | (with_reducible exact hI) | (with_reducible apply inv_alloc) | (with_reducible apply inv_drew) | (with_reducible apply inv_drewN) | (with_reducible apply inv_set) | (simp only [setL_map]; simp; done) | (simp; done))); done)); (focus omega); rintro v' w' ⟨x, rfl, hx0, hx1, _⟩; clear hI; intro hI; (try simp at hI); (try clear hC); have hC := mem_facts hI.1; simp at hC))
  refine bodyPost_ret (by (simp [results, Try.results14, go_sem, *]; try rfl)) rfl ?_
  apply nr_use (w := w)
  · (repeat' (first | (with_reducible exact hI) | (with_reducible apply inv_alloc) | (with_reducible apply inv_drew) | (with_reducible apply inv_drewN) | (with_reducible apply inv_set) | (simp only [setL_map]; simp; done) | (simp; done)))
  intro hJ
  exact ⟨_, rfl, hJ.2.2.1.below hRge⟩
set_option maxHeartbeats 1000000 in
theorem DrawShortFull_ (A : Option Addr) (len cap : Nat) (zs : List Int) (w : World) (hRow : RowB .u8 w w.heap.size A len cap zs) : Calls Try.prog 17 #[.slice A len cap] w (PrPost w) := by
  have hM := mem_nil w; have hB := Below.refl w.heap.size w; have hC := True.intro
  go_enter Try.func17, Try.ntmps17
  go_upto_region 3 with (first | (go_at_call 26; apply use_open (w := w) hRow; (focus ((repeat' (first | (with_reducible exact hM) | (with_reducible apply mem_alloc) | (with_reducible apply mem_set) | (with_reducible apply mem_drew) | (with_reducible apply mem_drewN))); done)); (focus ((repeat' (first | (with_reducible exact hB) | (with_reducible exact Below.refl _ _) | (with_reducible refine Below.alloc ?_ ?_ _) | (with_reducible refine Below.setCell ?_ ?_ _) | (with_reducible refine Below.drew ?_) | (with_reducible refine below_drewN ?_ _) | (with_reducible exact Nat.le_refl _) | (with_reducible exact hB.size) | (simp [go_sem]; done) | (have := hB.size; simp [go_sem]; omega))); done)); (focus ((repeat' (first | (with_reducible exact hB) | (with_reducible exact Below.refl _ _) | (with_reducible refine Below.alloc ?_ ?_ _) | (with_reducible refine Below.setCell ?_ ?_ _) | (with_reducible refine Below.drew ?_) | (with_reducible refine below_drewN ?_ _) | (with_reducible exact Nat.le_refl _) | (with_reducible exact hB.size) | (simp [go_sem]; done) | (have := hB.size; simp [go_sem]; omega))); done)); (focus (first | (simp; done) | (simp <;> omega))); rintro R w' hI hRge; clear hM hB; (try simp at hI); (try clear hC); have hC := mem_facts hI.1; simp at hC) | (go_at_call 25; apply use_rd (w := w) (R := R) (fun hb hr hq => l92Pair_ _ _ _ _ hb hr hq); (focus ((repeat' (first | (with_reducible exact hI) | (with_reducible apply inv_alloc) | (with_reducible apply inv_drew) | (with_reducible apply inv_drewN) | (with_reducible apply inv_set) | (simp only [setL_map]; simp; done) | (simp; done))); done)); (focus omega); rintro v' w' ⟨x, y, rfl, hx, hy⟩; clear hI; intro hI; (try simp at hI); (try clear hC); have hC := mem_facts hI.1; simp at hC))
  have c1 := fun W => igcd7_ x y (by omega) (by omega) W
  generalize Int.gcd x y = g at *
  by_cases hg : (g : Int) > 1
  · have hz : ((g : Int) == 0) = false := by rw [beq_eq_false_iff_ne]; omega
    have hz2 : ((g : Int) = 0) = False := eq_false (by omega)
    have hd : decide ((g : Int) > 1) = true := decide_eq_true hg
    have hd2 : decide (1 < (g : Int)) = true := decide_eq_true hg
    go_upto_if 21 with (first | (go_at_call 35; refine (c1 _).mono ?_; rintro e w' ⟨rfl, rfl⟩) | (go_at_call 31; apply use_rd (w := w) (R := R) (fun hb hr hq => pickD _ _ _ _ _ hb hr hq); (focus ((repeat' (first | (with_reducible exact hI) | (with_reducible apply inv_alloc) | (with_reducible apply inv_drew) | (with_reducible apply inv_drewN) | (with_reducible apply inv_set) | (simp only [setL_map]; simp; done) | (simp; done))); done)); (focus omega); rintro v' w' ⟨k, rfl, hk0, hk1, _⟩; clear hI; intro hI; (try simp at hI); (try clear hC); have hC := mem_facts hI.1; simp at hC))
    by_cases hk : k > 0
    · go_wp2_with fail
      go_region
      go_wp2_with fail
      refine bodyPost_ret (by (simp [results, Try.results17, go_sem, *]; try rfl)) rfl ?_
      apply pr_use (w := w)
      · (repeat' (first | (with_reducible exact hI) | (with_reducible apply inv_alloc) | (with_reducible apply inv_drew) | (with_reducible apply inv_drewN) | (with_reducible apply inv_set) | (simp only [setL_map]; simp; done) | (simp; done)))
      intro hJ
      exact ⟨_, _, rfl, hJ.2.2.1.below hRge⟩
    · go_wp2_with fail
      refine bodyPost_ret (by (simp [results, Try.results17, go_sem, *]; try rfl)) rfl ?_
      apply pr_use (w := w)
      · (repeat' (first | (with_reducible exact hI) | (with_reducible apply inv_alloc) | (with_reducible apply inv_drew) | (with_reducible apply inv_drewN) | (with_reducible apply inv_set) | (simp only [setL_map]; simp; done) | (simp; done)))
      intro hJ
      exact ⟨_, _, rfl, hJ.2.2.1.below hRge⟩
  · go_wp2_with (go_at_call 35; refine (c1 _).mono ?_; rintro e w' ⟨rfl, rfl⟩)
    refine bodyPost_ret (by (simp [results, Try.results17, go_sem, *]; try rfl)) rfl ?_
    apply pr_use (w := w)
    · (repeat' (first | (with_reducible exact hI) | (with_reducible apply inv_alloc) | (with_reducible apply inv_drew) | (with_reducible apply inv_drewN) | (with_reducible apply inv_set) | (simp only [setL_map]; simp; done) | (simp; done)))
    intro hJ
    exact ⟨_, _, rfl, hJ.2.2.1.below hRge⟩
end Go.Proofs.Ytnbbgfcnbgjahaa

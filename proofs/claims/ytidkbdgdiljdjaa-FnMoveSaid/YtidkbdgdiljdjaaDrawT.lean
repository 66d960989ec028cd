
/- The draws of two matrices, and of a matrix and a point, for every slice of bytes. -/
import Derived.Test.YtidkbdgdiljdjaaDrawG
import Derived.Deep.DeepCutAuto
namespace Go.Proofs.Ytidkbdgdiljdjaa
open Go.RowKit

def MatsPost (w : World) (e : Ending) (w' : World) : Prop := ∃ a b c d k l m n : Int, e = .returned (.tuple #[.agg #[.int .i64 a, .int .i64 b, .int .i64 c, .int .i64 d], .agg #[.int .i64 k, .int .i64 l, .int .i64 m, .int .i64 n]]) ∧ Below w.heap.size w w'
theorem mats_use {R B q : Nat} {w W : World} {L : List (Nat × Array Value × TypeId)} {v : Value} (h : Inv R B q w W L) (k : Inv R B q w W L → MatsPost w (.returned v) W) : MatsPost w (.returned v) W := k h
set_option maxHeartbeats 1000000 in
theorem l91Two_ (A : Option Addr) (len cap : Nat) (zs : List Int) (w : World) (hRow : RowB .u8 w w.heap.size A len cap zs) : Calls Try.prog 33 #[.slice A len cap] w (MatsPost w) := by
  have hM := mem_nil w; have hB := Below.refl w.heap.size w; have hC := True.intro
  go_enter Try.func33, Try.ntmps33
  go_upto_region 3 with (first | (go_at_call 34; apply use_open (w := w) hRow; (focus ((repeat' (first | (with_reducible exact hM) | (with_reducible apply mem_alloc) | (with_reducible apply mem_set) | (with_reducible apply mem_drew) | (with_reducible apply mem_drewN))); done)); (focus ((repeat' (first | (with_reducible exact hB) | (with_reducible exact Below.refl _ _) | (with_reducible refine Below.alloc ?_ ?_ _) | (with_reducible refine Below.setCell ?_ ?_ _) | (with_reducible refine Below.drew ?_) | (with_reducible refine below_drewN ?_ _) | (with_reducible exact Nat.le_refl _) | (with_reducible exact hB.size) | (simp [go_sem]; done) | (have := hB.size; simp [go_sem]; omega))); done)); (focus ((repeat' (first | (with_reducible exact hB) | (with_reducible exact Below.refl _ _) | (with_reducible refine Below.alloc ?_ ?_ _) | (with_reducible refine Below.setCell ?_ ?_ _) | (with_reducible refine Below.drew ?_) | (with_reducible refine below_drewN ?_ _) | (with_reducible exact Nat.le_refl _) | (with_reducible exact hB.size) | (simp [go_sem]; done) | (have := hB.size; simp [go_sem]; omega))); done)); (focus (simp; done)); rintro R w' hI hRge; clear hM hB; (try simp at hI); (try clear hC); have hC := mem_facts hI.1; simp at hC) | (go_at_call 45; apply use_rd (w := w) (R := R) (fun hb hr hq => l91Mat_ _ _ _ _ hb hr hq); (focus ((repeat' (first | (with_reducible exact hI) | (with_reducible apply inv_alloc) | (with_reducible apply inv_drew) | (with_reducible apply inv_drewN) | (with_reducible apply inv_set) | (simp only [setL_map]; simp; done) | (simp; done))); done)); (focus omega); rintro v' w' ⟨x, y, z, t, rfl⟩; clear hI; intro hI; (try simp at hI); (try clear hC); have hC := mem_facts hI.1; simp at hC))
  obtain ⟨w1, rfl⟩ : ∃ w1 : World, w1 = w' := ⟨_, rfl⟩
  go_region_held3 (fun W' => W'.cell? ⟨w1.heap.size, 0, none⟩ = some (.int .i64 x) ∧ W'.cell? ⟨w1.heap.size, 1, none⟩ = some (.int .i64 y) ∧ W'.cell? ⟨w1.heap.size, 2, none⟩ = some (.int .i64 z) ∧ W'.cell? ⟨w1.heap.size, 3, none⟩ = some (.int .i64 t)) ((simp [*, go_sem]; done)) (first | (go_at_call 45; apply use_rd (w := w) (R := R) (fun hb hr hq => l91Mat_ _ _ _ _ hb hr hq); (focus ((repeat' (first | (with_reducible exact hI) | (with_reducible apply inv_alloc) | (with_reducible apply inv_drew) | (with_reducible apply inv_drewN) | (with_reducible apply inv_set) | (simp only [setL_map]; simp; done) | (simp; done))); done)); (focus omega); rintro v' w' ⟨k, l, m, n, rfl⟩; clear hI; intro hI; (try simp at hI); (try clear hC); have hC := mem_facts hI.1; simp at hC))
  all_goals
    go_wp2
    refine bodyPost_ret (by (simp [results, Try.results33, go_sem, *]; try rfl)) rfl ?_
    apply mats_use (w := w)
    · (repeat' (first | (with_reducible exact hI) | (with_reducible apply inv_alloc) | (with_reducible apply inv_drew) | (with_reducible apply inv_drewN) | (with_reducible apply inv_set) | (simp only [setL_map]; simp; done) | (simp; done)))
    intro hJ
    exact ⟨_, _, _, _, _, _, _, _, rfl, hJ.2.2.1.below hRge⟩
theorem use_matsrow {P : Program} {f : FuncId} {w W : World} {a : Option Addr} {len cap : Nat} {zs : List Int} {Q : Ending → World → Prop} (hRow : RowB .u8 w w.heap.size a len cap zs)
    (hc : ∀ W : World, RowB .u8 W W.heap.size a len cap zs → Calls P f #[.slice a len cap] W (MatsPost W)) (hB : Below w.heap.size w W) (hs : w.heap.size ≤ W.heap.size)
    (h : ∀ a b c d k l m n w', Below W.heap.size W w' → Q (.returned (.tuple #[.agg #[.int .i64 a, .int .i64 b, .int .i64 c, .int .i64 d], .agg #[.int .i64 k, .int .i64 l, .int .i64 m, .int .i64 n]])) w') : Calls P f #[.slice a len cap] W Q :=
  (hc W (hRow.at_ hB hs)).mono fun e w' ⟨a, b, c, d, k, l, m, n, he, hb⟩ => by rw [he]; exact h a b c d k l m n w' hb
theorem inv_step {R B q : Nat} {w W : World} {L : List (Nat × Array Value × TypeId)} (h : Inv R B q w W L) (p : Int) (hp : 0 ≤ p ∧ p ≤ q) : Inv R B q w (W.setCell ⟨R, 1, none⟩ (.int .i64 p)) L := by
  obtain ⟨h1, h2, h3, h4, h5, h6⟩ := h
  have hsame : Since R W (W.setCell ⟨R, 1, none⟩ (.int .i64 p)) := (Since.refl R W).setCell (.inl rfl) _
  refine ⟨mem_since hsame h1 (fun r hr => (h2 r hr).2), h2, h3.trans hsame, ?_, by simpa [World.setCell] using h5, h6⟩
  obtain ⟨A, n, c, p0, z, k1, k2, k3, k4, k5, k6, k7⟩ := h4
  refine ⟨A, n, c, p, z, ?_, hp.1, hp.2, k4, k5, k6, fun hn => ?_⟩
  · have m1 := (mem_set (L := [(R, #[.slice A n c, .int .i64 p0], 48)]) R 1 (.int .i64 p) ⟨fun r hr => by simp at hr; subst hr; exact k1, by simp⟩).1
    simpa [setL] using m1
  · obtain ⟨b, off, e, hb, hc⟩ := k7 hn
    exact ⟨b, off, e, hb, fun i hi => (World.cell?_of_block (Below.heap_setCell W ⟨R, 1, none⟩ _ b (by have := hb.1; dsimp only; omega))).trans (hc i hi)⟩
set_option maxHeartbeats 1000000 in
theorem DrawMatTimes_ (A : Option Addr) (len cap : Nat) (zs : List Int) (w : World) (hRow : RowB .u8 w w.heap.size A len cap zs) : Calls Try.prog 14 #[.slice A len cap] w (MatsPost w) := by
  have hM := mem_nil w; have hB := Below.refl w.heap.size w; have hC := True.intro
  go_enter Try.func14, Try.ntmps14
  go_upto_region 2 with (go_at_call 33; apply use_matsrow (w := w) hRow (l91Two_ _ _ _ _); (focus ((repeat' (first | (with_reducible exact hB) | (with_reducible exact Below.refl _ _) | (with_reducible refine Below.alloc ?_ ?_ _) | (with_reducible refine Below.setCell ?_ ?_ _) | (with_reducible refine Below.drew ?_) | (with_reducible refine below_drewN ?_ _) | (with_reducible exact Nat.le_refl _) | (with_reducible exact hB.size) | (simp [go_sem]; done) | (have := hB.size; simp [go_sem]; omega))); done)); (focus ((repeat' (first | (with_reducible exact hB) | (with_reducible exact Below.refl _ _) | (with_reducible refine Below.alloc ?_ ?_ _) | (with_reducible refine Below.setCell ?_ ?_ _) | (with_reducible refine Below.drew ?_) | (with_reducible refine below_drewN ?_ _) | (with_reducible exact Nat.le_refl _) | (with_reducible exact hB.size) | (simp [go_sem]; done) | (have := hB.size; simp [go_sem]; omega))); done)); rintro a b c d k l m n w' hb; apply after_call (w := w) hb; (focus ((repeat' (first | (with_reducible exact hM) | (with_reducible apply mem_alloc) | (with_reducible apply mem_set) | (with_reducible apply mem_drew) | (with_reducible apply mem_drewN))); done)); (focus ((repeat' (first | (with_reducible exact hB) | (with_reducible exact Below.refl _ _) | (with_reducible refine Below.alloc ?_ ?_ _) | (with_reducible refine Below.setCell ?_ ?_ _) | (with_reducible refine Below.drew ?_) | (with_reducible refine below_drewN ?_ _) | (with_reducible exact Nat.le_refl _) | (with_reducible exact hB.size) | (simp [go_sem]; done) | (have := hB.size; simp [go_sem]; omega))); done)); (focus ((repeat' (first | (with_reducible exact hB) | (with_reducible exact Below.refl _ _) | (with_reducible refine Below.alloc ?_ ?_ _) | (with_reducible refine Below.setCell ?_ ?_ _) | (with_reducible refine Below.drew ?_) | (with_reducible refine below_drewN ?_ _) | (with_reducible exact Nat.le_refl _) | (with_reducible exact hB.size) | (simp [go_sem]; done) | (have := hB.size; simp [go_sem]; omega))); done)); clear hM hB hb; intro hM hB; (try clear hC); have hC := mem_facts hM; simp at hC)
  obtain ⟨w1, rfl⟩ : ∃ w1 : World, w1 = w' := ⟨_, rfl⟩
  have hs1 : w.heap.size ≤ w1.heap.size := hB.size
  go_upto_region 3 with (go_at_call 34; apply use_open (w := w) hRow; (focus ((repeat' (first | (with_reducible exact hM) | (with_reducible apply mem_alloc) | (with_reducible apply mem_set) | (with_reducible apply mem_drew) | (with_reducible apply mem_drewN))); done)); (focus ((repeat' (first | (with_reducible exact hB) | (with_reducible exact Below.refl _ _) | (with_reducible refine Below.alloc ?_ ?_ _) | (with_reducible refine Below.setCell ?_ ?_ _) | (with_reducible refine Below.drew ?_) | (with_reducible refine below_drewN ?_ _) | (with_reducible exact Nat.le_refl _) | (with_reducible exact hB.size) | (simp [go_sem]; done) | (have := hB.size; simp [go_sem]; omega))); done)); (focus ((repeat' (first | (with_reducible exact hB) | (with_reducible exact Below.refl _ _) | (with_reducible refine Below.alloc ?_ ?_ _) | (with_reducible refine Below.setCell ?_ ?_ _) | (with_reducible refine Below.drew ?_) | (with_reducible refine below_drewN ?_ _) | (with_reducible exact Nat.le_refl _) | (with_reducible exact hB.size) | (simp [go_sem]; done) | (have := hB.size; simp [go_sem]; omega))); done)); (focus (have := hB.size; simp; omega)); rintro R w' hI hRge; clear hM hB; (try simp at hI); (try clear hC); have hC := mem_facts hI.1; simp at hC)
  obtain ⟨A', n', c', p', z', k1, k2⟩ := hI.2.2.2.1
  have hK := (mem_facts (w := w') (L := [(R, #[.slice A' n' c', .int .i64 p'], 48)]) ⟨fun r hr => by simp at hr; subst hr; exact k1, by simp⟩).1
  clear k1 k2
  go_upto_region 4 with fail
  have hI2 := inv_step (inv_mono hI (show 0 ≤ 61 by omega)) 61 (by omega)
  clear hI hC hK
  generalize (w'.setCell ⟨R, 1, none⟩ (.int .i64 61)) = w2 at *
  have hI := hI2
  clear hI2
  have hC := mem_facts hI.1; simp at hC
  go_wp2_with (first | (go_at_call 35; apply use_rd (w := w) (R := R) (fun hb hr hq => pickD _ _ _ _ _ hb hr hq); (focus ((repeat' (first | (with_reducible exact hI) | (with_reducible apply inv_alloc) | (with_reducible apply inv_drew) | (with_reducible apply inv_drewN) | (with_reducible apply inv_set) | (simp only [setL_map]; simp; done) | (simp; done))); done)); (focus omega); rintro v' w' ⟨x, rfl, hx0, hx1, _⟩; clear hI; intro hI; (try simp at hI); (try clear hC); have hC := mem_facts hI.1; simp at hC))
  · go_region_held3 (fun W' => W'.cell? ⟨w1.heap.size + 1, 1, none⟩ = some (.int .i64 l)) ((simp [*, go_sem]; done)) (fail)
    all_goals
      go_wp2
      refine bodyPost_ret (by (simp [results, Try.results14, go_sem, *]; try rfl)) rfl ?_
      apply mats_use (w := w)
      · (repeat' (first | (with_reducible exact hI) | (with_reducible apply inv_alloc) | (with_reducible apply inv_drew) | (with_reducible apply inv_drewN) | (with_reducible apply inv_set) | (simp only [setL_map]; simp; done) | (simp; done)))
      intro hJ
      exact ⟨_, _, _, _, _, _, _, _, rfl, hJ.2.2.1.below hRge⟩
  · go_region_held3 (fun W' => (W'.cell? ⟨w1.heap.size, 0, none⟩ = some (.int .i64 a) ∧ W'.cell? ⟨w1.heap.size, 1, none⟩ = some (.int .i64 b) ∧ W'.cell? ⟨w1.heap.size, 2, none⟩ = some (.int .i64 c) ∧ W'.cell? ⟨w1.heap.size, 3, none⟩ = some (.int .i64 d)) ∧ W'.cell? ⟨w1.heap.size + 1, 0, none⟩ = some (.int .i64 k) ∧ W'.cell? ⟨w1.heap.size + 1, 1, none⟩ = some (.int .i64 l) ∧ W'.cell? ⟨w1.heap.size + 1, 2, none⟩ = some (.int .i64 m) ∧ W'.cell? ⟨w1.heap.size + 1, 3, none⟩ = some (.int .i64 n)) ((simp [*, go_sem]; done)) (fail)
    all_goals
      go_wp2
      refine bodyPost_ret (by (simp [results, Try.results14, go_sem, *]; try rfl)) rfl ?_
      apply mats_use (w := w)
      · (repeat' (first | (with_reducible exact hI) | (with_reducible apply inv_alloc) | (with_reducible apply inv_drew) | (with_reducible apply inv_drewN) | (with_reducible apply inv_set) | (simp only [setL_map]; simp; done) | (simp; done)))
      intro hJ
      exact ⟨_, _, _, _, _, _, _, _, rfl, hJ.2.2.1.below hRge⟩
def MatPtPost (w : World) (e : Ending) (w' : World) : Prop := ∃ a b c d k l : Int, e = .returned (.tuple #[.agg #[.int .i64 a, .int .i64 b, .int .i64 c, .int .i64 d], .int .i64 k, .int .i64 l]) ∧ Below w.heap.size w w'
theorem matpt_use {R B q : Nat} {w W : World} {L : List (Nat × Array Value × TypeId)} {v : Value} (h : Inv R B q w W L) (k : Inv R B q w W L → MatPtPost w (.returned v) W) : MatPtPost w (.returned v) W := k h
set_option maxHeartbeats 1000000 in
theorem DrawMatMove_ (A : Option Addr) (len cap : Nat) (zs : List Int) (w : World) (hRow : RowB .u8 w w.heap.size A len cap zs) : Calls Try.prog 22 #[.slice A len cap] w (MatPtPost w) := by
  have hM := mem_nil w; have hB := Below.refl w.heap.size w; have hC := True.intro
  go_enter Try.func22, Try.ntmps22
  go_upto_region 3 with (first | (go_at_call 34; apply use_open (w := w) hRow; (focus ((repeat' (first | (with_reducible exact hM) | (with_reducible apply mem_alloc) | (with_reducible apply mem_set) | (with_reducible apply mem_drew) | (with_reducible apply mem_drewN))); done)); (focus ((repeat' (first | (with_reducible exact hB) | (with_reducible exact Below.refl _ _) | (with_reducible refine Below.alloc ?_ ?_ _) | (with_reducible refine Below.setCell ?_ ?_ _) | (with_reducible refine Below.drew ?_) | (with_reducible refine below_drewN ?_ _) | (with_reducible exact Nat.le_refl _) | (with_reducible exact hB.size) | (simp [go_sem]; done) | (have := hB.size; simp [go_sem]; omega))); done)); (focus ((repeat' (first | (with_reducible exact hB) | (with_reducible exact Below.refl _ _) | (with_reducible refine Below.alloc ?_ ?_ _) | (with_reducible refine Below.setCell ?_ ?_ _) | (with_reducible refine Below.drew ?_) | (with_reducible refine below_drewN ?_ _) | (with_reducible exact Nat.le_refl _) | (with_reducible exact hB.size) | (simp [go_sem]; done) | (have := hB.size; simp [go_sem]; omega))); done)); (focus (simp; done)); rintro R w' hI hRge; clear hM hB; (try simp at hI); (try clear hC); have hC := mem_facts hI.1; simp at hC) | (go_at_call 45; apply use_rd (w := w) (R := R) (fun hb hr hq => l91Mat_ _ _ _ _ hb hr hq); (focus ((repeat' (first | (with_reducible exact hI) | (with_reducible apply inv_alloc) | (with_reducible apply inv_drew) | (with_reducible apply inv_drewN) | (with_reducible apply inv_set) | (simp only [setL_map]; simp; done) | (simp; done))); done)); (focus omega); rintro v' w' ⟨x, y, z, t, rfl⟩; clear hI; intro hI; (try simp at hI); (try clear hC); have hC := mem_facts hI.1; simp at hC))
  obtain ⟨w1, rfl⟩ : ∃ w1 : World, w1 = w' := ⟨_, rfl⟩
  go_region_held3 (fun W' => W'.cell? ⟨w1.heap.size, 0, none⟩ = some (.int .i64 x) ∧ W'.cell? ⟨w1.heap.size, 1, none⟩ = some (.int .i64 y) ∧ W'.cell? ⟨w1.heap.size, 2, none⟩ = some (.int .i64 z) ∧ W'.cell? ⟨w1.heap.size, 3, none⟩ = some (.int .i64 t)) ((simp [*, go_sem]; done)) (first | (go_at_call 35; apply use_rd (w := w) (R := R) (fun hb hr hq => pickD _ _ _ _ _ hb hr hq); (focus ((repeat' (first | (with_reducible exact hI) | (with_reducible apply inv_alloc) | (with_reducible apply inv_drew) | (with_reducible apply inv_drewN) | (with_reducible apply inv_set) | (simp only [setL_map]; simp; done) | (simp; done))); done)); (focus omega); rintro v' w' ⟨k, rfl, hk0, hk1, _⟩; clear hI; intro hI; (try simp at hI); (try clear hC); have hC := mem_facts hI.1; simp at hC))
  all_goals
    go_wp2
    refine bodyPost_ret (by (simp [results, Try.results22, go_sem, *]; try rfl)) rfl ?_
    apply matpt_use (w := w)
    · (repeat' (first | (with_reducible exact hI) | (with_reducible apply inv_alloc) | (with_reducible apply inv_drew) | (with_reducible apply inv_drewN) | (with_reducible apply inv_set) | (simp only [setL_map]; simp; done) | (simp; done)))
    intro hJ
    exact ⟨_, _, _, _, _, _, rfl, hJ.2.2.1.below hRge⟩
end Go.Proofs.Ytidkbdgdiljdjaa

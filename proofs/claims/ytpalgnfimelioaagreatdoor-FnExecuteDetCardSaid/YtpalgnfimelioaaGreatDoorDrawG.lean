
/- The draws of matrices, for every slice of bytes: each returns some matrix, and changes nothing that was there. -/
import Derived.Test.YtpalgnfimelioaaGreatDoorDrawF
namespace Go.Proofs.YtpalgnfimelioaaGreatDoor
open Go.RowKit

theorem use_open {w W : World} {L : List (Nat × Array Value × TypeId)} {a : Option Addr} {len cap : Nat} {zs : List Int} {Q : Ending → World → Prop} (hRow : RowB .u8 w w.heap.size a len cap zs)
    (hm : Mem W L) (hB : Below w.heap.size w W) (hs : w.heap.size ≤ W.heap.size) (ho : ∀ p ∈ L, w.heap.size ≤ p.1)
    (h : ∀ R w', Inv R w.heap.size 0 w w' L → w.heap.size ≤ R → Q (.returned (.pointer (some ⟨R, 0, none⟩))) w') : Calls Tryz.prog 14 #[.slice a len cap] W Q := by
  refine (open_ _ a len cap zs W (hRow.below hB)).mono ?_
  rintro e w' ⟨R, rfl, hr, hb, hR⟩
  refine h R w' ⟨mem_below hb hm, fun p hp => ⟨ho p hp, ?_⟩, Since.of_below (hB.trans (hb.mono hs)), hr, Nat.le_trans hs hb.size, Nat.le_refl _⟩ (Nat.le_trans hs hR)
  have := mem_lt (hm.1 p hp)
  omega
theorem mp_use {R B q : Nat} {w W : World} {L : List (Nat × Array Value × TypeId)} {v : Value} (h : Inv R B q w W L) (k : Inv R B q w W L → MatPost w (.returned v) W) : MatPost w (.returned v) W := k h
theorem use_matpost {P : Program} {f : FuncId} {args : Array Value} {W : World} {Q : Ending → World → Prop}
    (hc : Calls P f args W (MatPost W)) (h : ∀ a b c d w', Below W.heap.size W w' → Q (.returned (.agg #[.int .i64 a, .int .i64 b, .int .i64 c, .int .i64 d])) w') : Calls P f args W Q :=
  hc.mono fun e w' ⟨a, b, c, d, he, hb⟩ => by rw [he]; exact h a b c d w' hb

theorem l91One_ (a : Option Addr) (len cap : Nat) (zs : List Int) (w : World) (hRow : RowB .u8 w w.heap.size a len cap zs) : Calls Tryz.prog 33 #[.slice a len cap] w (MatPost w) := by
  have hM := mem_nil w; have hB := Below.refl w.heap.size w; have hC := True.intro
  go_enter Tryz.func33, Tryz.ntmps33
  go_wp2_with (first | (go_at_call 14; apply use_open (w := w) hRow; (focus ((repeat' (first | (with_reducible exact hM) | (with_reducible apply mem_alloc) | (with_reducible apply mem_set) | (with_reducible apply mem_drew) | (with_reducible apply mem_drewN))); done)); (focus ((repeat' (first | (with_reducible exact hB) | (with_reducible exact Below.refl _ _) | (with_reducible refine Below.alloc ?_ ?_ _) | (with_reducible refine Below.setCell ?_ ?_ _) | (with_reducible refine Below.drew ?_) | (with_reducible refine below_drewN ?_ _) | (with_reducible exact Nat.le_refl _) | (with_reducible exact hB.size) | (simp [go_sem]; done) | (have := hB.size; simp [go_sem]; omega))); done)); (focus ((repeat' (first | (with_reducible exact hB) | (with_reducible exact Below.refl _ _) | (with_reducible refine Below.alloc ?_ ?_ _) | (with_reducible refine Below.setCell ?_ ?_ _) | (with_reducible refine Below.drew ?_) | (with_reducible refine below_drewN ?_ _) | (with_reducible exact Nat.le_refl _) | (with_reducible exact hB.size) | (simp [go_sem]; done) | (have := hB.size; simp [go_sem]; omega))); done)); (focus (first | (simp; done) | (simp <;> omega))); rintro R w' hI hRge; clear hM hB; (try simp at hI); (try clear hC); have hC := mem_facts hI.1; simp at hC) | (go_at_call 78; apply use_rd (w := w) (R := R) (fun hb hr hq => l91Mat_ _ _ _ _ hb hr hq); (focus ((repeat' (first | (with_reducible exact hI) | (with_reducible apply inv_alloc) | (with_reducible apply inv_drew) | (with_reducible apply inv_drewN) | (with_reducible apply inv_set) | (simp only [setL_map]; simp; done) | (simp; done))); done)); (focus omega); rintro v' w' ⟨x, y, z, t, rfl⟩; clear hI; intro hI; (try simp at hI); (try clear hC); have hC := mem_facts hI.1; simp at hC))
  refine bodyPost_ret (by (simp [results, Tryz.results33, go_sem, *]; try rfl)) rfl ?_
  apply mp_use (w := w)
  · (repeat' (first | (with_reducible exact hI) | (with_reducible apply inv_alloc) | (with_reducible apply inv_drew) | (with_reducible apply inv_drewN) | (with_reducible apply inv_set) | (simp only [setL_map]; simp; done) | (simp; done)))
  intro hJ
  exact ⟨_, _, _, _, rfl, hJ.2.2.1.below hRge⟩

theorem RowB.at_ {w W : World} {a : Option Addr} {len cap : Nat} {zs : List Int} (h : RowB .u8 w w.heap.size a len cap zs) (hb : Below w.heap.size w W) (hs : w.heap.size ≤ W.heap.size) : RowB .u8 W W.heap.size a len cap zs :=
  ⟨(h.below hb).1, fun x hx hc => Nat.lt_of_lt_of_le (h.2 x hx hc) hs⟩
theorem use_matrow {P : Program} {f : FuncId} {w W : World} {a : Option Addr} {len cap : Nat} {zs : List Int} {Q : Ending → World → Prop} (hRow : RowB .u8 w w.heap.size a len cap zs)
    (hc : ∀ W : World, RowB .u8 W W.heap.size a len cap zs → Calls P f #[.slice a len cap] W (MatPost W)) (hB : Below w.heap.size w W) (hs : w.heap.size ≤ W.heap.size)
    (h : ∀ a b c d w', Below W.heap.size W w' → Q (.returned (.agg #[.int .i64 a, .int .i64 b, .int .i64 c, .int .i64 d])) w') : Calls P f #[.slice a len cap] W Q := use_matpost (hc W (hRow.at_ hB hs)) h
theorem DrawMatDet_ (A : Option Addr) (len cap : Nat) (zs : List Int) (w : World) (hRow : RowB .u8 w w.heap.size A len cap zs) : Calls Tryz.prog 10 #[.slice A len cap] w (MatPost w) := by
  have hM := mem_nil w; have hB := Below.refl w.heap.size w; have hC := True.intro
  go_enter Tryz.func10, Tryz.ntmps10
  go_wp2_with (first | (go_at_call 33; apply use_matrow (w := w) hRow (l91One_ _ _ _ _); (focus ((repeat' (first | (with_reducible exact hB) | (with_reducible exact Below.refl _ _) | (with_reducible refine Below.alloc ?_ ?_ _) | (with_reducible refine Below.setCell ?_ ?_ _) | (with_reducible refine Below.drew ?_) | (with_reducible refine below_drewN ?_ _) | (with_reducible exact Nat.le_refl _) | (with_reducible exact hB.size) | (simp [go_sem]; done) | (have := hB.size; simp [go_sem]; omega))); done)); (focus ((repeat' (first | (with_reducible exact hB) | (with_reducible exact Below.refl _ _) | (with_reducible refine Below.alloc ?_ ?_ _) | (with_reducible refine Below.setCell ?_ ?_ _) | (with_reducible refine Below.drew ?_) | (with_reducible refine below_drewN ?_ _) | (with_reducible exact Nat.le_refl _) | (with_reducible exact hB.size) | (simp [go_sem]; done) | (have := hB.size; simp [go_sem]; omega))); done)); rintro a b c d w' hb; apply after_call (w := w) hb; (focus ((repeat' (first | (with_reducible exact hM) | (with_reducible apply mem_alloc) | (with_reducible apply mem_set) | (with_reducible apply mem_drew) | (with_reducible apply mem_drewN))); done)); (focus ((repeat' (first | (with_reducible exact hB) | (with_reducible exact Below.refl _ _) | (with_reducible refine Below.alloc ?_ ?_ _) | (with_reducible refine Below.setCell ?_ ?_ _) | (with_reducible refine Below.drew ?_) | (with_reducible refine below_drewN ?_ _) | (with_reducible exact Nat.le_refl _) | (with_reducible exact hB.size) | (simp [go_sem]; done) | (have := hB.size; simp [go_sem]; omega))); done)); (focus ((repeat' (first | (with_reducible exact hB) | (with_reducible exact Below.refl _ _) | (with_reducible refine Below.alloc ?_ ?_ _) | (with_reducible refine Below.setCell ?_ ?_ _) | (with_reducible refine Below.drew ?_) | (with_reducible refine below_drewN ?_ _) | (with_reducible exact Nat.le_refl _) | (with_reducible exact hB.size) | (simp [go_sem]; done) | (have := hB.size; simp [go_sem]; omega))); done)); clear hM hB hb; intro hM hB; (try clear hC); have hC := mem_facts hM; simp at hC))
  refine bodyPost_ret (by (simp [results, Tryz.results10, go_sem, *]; try rfl)) rfl ?_
  exact ⟨_, _, _, _, rfl, by (repeat' (first | (with_reducible exact hB) | (with_reducible exact Below.refl _ _) | (with_reducible refine Below.alloc ?_ ?_ _) | (with_reducible refine Below.setCell ?_ ?_ _) | (with_reducible refine Below.drew ?_) | (with_reducible refine below_drewN ?_ _) | (with_reducible exact Nat.le_refl _) | (with_reducible exact hB.size) | (simp [go_sem]; done) | (have := hB.size; simp [go_sem]; omega)))⟩
end Go.Proofs.YtpalgnfimelioaaGreatDoor

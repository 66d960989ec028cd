
/- The draws of one number, for every slice of bytes. -/
import Derived.Test.YthpbdcookhpdaaaDrawG
namespace Go.Proofs.Ythpbdcookhpdaaa
open Go.RowKit

/-- a number from -100 to 100 -/
def OnePost (w : World) (e : Ending) (w' : World) : Prop := ∃ t : Int, e = .returned (.int .i64 t) ∧ -100 ≤ t ∧ t ≤ 100 ∧ Below w.heap.size w w'
theorem one_use {R B q : Nat} {w W : World} {L : List (Nat × Array Value × TypeId)} {v : Value} (h : Inv R B q w W L) (k : Inv R B q w W L → OnePost w (.returned v) W) : OnePost w (.returned v) W := k h
theorem use_onerow {P : Program} {f : FuncId} {w W : World} {a : Option Addr} {len cap : Nat} {zs : List Int} {Q : Ending → World → Prop} (hRow : RowB .u8 w w.heap.size a len cap zs)
    (hc : ∀ W : World, RowB .u8 W W.heap.size a len cap zs → Calls P f #[.slice a len cap] W (OnePost W)) (hB : Below w.heap.size w W) (hs : w.heap.size ≤ W.heap.size)
    (h : ∀ t w', -100 ≤ t → t ≤ 100 → Below W.heap.size W w' → Q (.returned (.int .i64 t)) w') : Calls P f #[.slice a len cap] W Q :=
  (hc W (hRow.at_ hB hs)).mono fun e w' ⟨t, he, h0, h1, hb⟩ => by rw [he]; exact h t w' h0 h1 hb
theorem quo24 {y : Int} (h0 : 0 ≤ y) (h1 : y < 24) : 0 ≤ y.tdiv 23 ∧ y.tdiv 23 ≤ 1 := by
  rw [Int.tdiv_eq_ediv_of_nonneg h0]; omega
theorem DrawNecklaceAll_ (A : Option Addr) (len cap : Nat) (zs : List Int) (w : World) (hRow : RowB .u8 w w.heap.size A len cap zs) : Calls Try.prog 4 #[.slice A len cap] w (OnePost w) := by
  have hM := mem_nil w; have hB := Below.refl w.heap.size w; have hC := True.intro
  go_enter Try.func4, Try.ntmps4
  go_wp2_with (first | (go_at_call 12; apply use_open (w := w) hRow; (focus ((repeat' (first | (with_reducible exact hM) | (with_reducible apply mem_alloc) | (with_reducible apply mem_set) | (with_reducible apply mem_drew) | (with_reducible apply mem_drewN))); done)); (focus ((repeat' (first | (with_reducible exact hB) | (with_reducible exact Below.refl _ _) | (with_reducible refine Below.alloc ?_ ?_ _) | (with_reducible refine Below.setCell ?_ ?_ _) | (with_reducible refine Below.drew ?_) | (with_reducible refine below_drewN ?_ _) | (with_reducible exact Nat.le_refl _) | (with_reducible exact hB.size) | (simp [go_sem]; done) | (have := hB.size; simp [go_sem]; omega))); done)); (focus ((repeat' (first | (with_reducible exact hB) | (with_reducible exact Below.refl _ _) | (with_reducible refine Below.alloc ?_ ?_ _) | (with_reducible refine Below.setCell ?_ ?_ _) | (with_reducible refine Below.drew ?_) | (with_reducible refine below_drewN ?_ _) | (with_reducible exact Nat.le_refl _) | (with_reducible exact hB.size) | (simp [go_sem]; done) | (have := hB.size; simp [go_sem]; omega))); done)); (focus (first | (simp; done) | (simp <;> omega))); rintro R w' hI hRge; clear hM hB; (try simp at hI); (try clear hC); have hC := mem_facts hI.1; simp at hC) | ((go_at_call 13; apply use_rd (w := w) (R := R) (fun hb hr hq => pickD _ _ _ _ _ hb hr hq); (focus ((repeat' (first | (with_reducible exact hI) | (with_reducible apply inv_alloc) | (with_reducible apply inv_drew) | (with_reducible apply inv_drewN) | (with_reducible apply inv_set) | (simp only [setL_map]; simp; done) | (simp; done))); done)); (focus omega); rintro v' w' ⟨x, rfl, hx0, hx1, _⟩; clear hI; intro hI; (try simp at hI); (try clear hC); have hC := mem_facts hI.1; simp at hC); replace hx1 := hx1 (by decide); (try have hxq := quo24 hx0 hx1)))
  refine bodyPost_ret (by (simp [results, Try.results4, go_sem, *]; try rfl)) rfl ?_
  apply one_use (w := w)
  · (repeat' (first | (with_reducible exact hI) | (with_reducible apply inv_alloc) | (with_reducible apply inv_drew) | (with_reducible apply inv_drewN) | (with_reducible apply inv_set) | (simp only [setL_map]; simp; done) | (simp; done)))
  intro hJ
  exact ⟨_, rfl, by omega, by omega, hJ.2.2.1.below hRge⟩
end Go.Proofs.Ythpbdcookhpdaaa

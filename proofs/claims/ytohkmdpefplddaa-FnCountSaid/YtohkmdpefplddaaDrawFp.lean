
/- The draws of a form and something besides, for every slice of bytes. -/
import Derived.Test.YtohkmdpefplddaaDrawFo
import Derived.Deep.DeepCutAuto
namespace Go.Proofs.Ytohkmdpefplddaa
open Go.RowKit

set_option maxHeartbeats 1000000 in
theorem DrawFormCount_ (A : Option Addr) (len cap : Nat) (zs : List Int) (w : World) (hRow : RowB .u8 w w.heap.size A len cap zs) : Calls Try.prog 11 #[.slice A len cap] w (FonPost w) := by
  have hM := mem_nil w; have hB := Below.refl w.heap.size w; have hC := True.intro
  go_enter Try.func11, Try.ntmps11
  go_upto_region 3 with (first | (go_at_call 14; apply use_open (w := w) hRow; (focus ((repeat' (first | (with_reducible exact hM) | (with_reducible apply mem_alloc) | (with_reducible apply mem_set) | (with_reducible apply mem_drew) | (with_reducible apply mem_drewN))); done)); (focus ((repeat' (first | (with_reducible exact hB) | (with_reducible exact Below.refl _ _) | (with_reducible refine Below.alloc ?_ ?_ _) | (with_reducible refine Below.setCell ?_ ?_ _) | (with_reducible refine Below.drew ?_) | (with_reducible refine below_drewN ?_ _) | (with_reducible exact Nat.le_refl _) | (with_reducible exact hB.size) | (simp [go_sem]; done) | (have := hB.size; simp [go_sem]; omega))); done)); (focus ((repeat' (first | (with_reducible exact hB) | (with_reducible exact Below.refl _ _) | (with_reducible refine Below.alloc ?_ ?_ _) | (with_reducible refine Below.setCell ?_ ?_ _) | (with_reducible refine Below.drew ?_) | (with_reducible refine below_drewN ?_ _) | (with_reducible exact Nat.le_refl _) | (with_reducible exact hB.size) | (simp [go_sem]; done) | (have := hB.size; simp [go_sem]; omega))); done)); (focus (first | (simp; done) | (simp <;> omega))); rintro R w' hI hRge; clear hM hB; (try simp at hI); (try clear hC); have hC := mem_facts hI.1; simp at hC) | (go_at_call 23; apply use_rd (w := w) (R := R) (fun hb hr hq => l92Form_ _ _ _ _ hb hr hq); (focus ((repeat' (first | (with_reducible exact hI) | (with_reducible apply inv_alloc) | (with_reducible apply inv_drew) | (with_reducible apply inv_drewN) | (with_reducible apply inv_set) | (simp only [setL_map]; simp; done) | (simp; done))); done)); (focus omega); rintro v' w' ⟨x, y, z, rfl⟩; clear hI; intro hI; (try simp at hI); (try clear hC); have hC := mem_facts hI.1; simp at hC))
  obtain ⟨w1, rfl⟩ : ∃ w1 : World, w1 = w' := ⟨_, rfl⟩
  go_region_held3 (fun W' => W'.cell? ⟨w1.heap.size, 0, none⟩ = some (.int .i64 x) ∧ W'.cell? ⟨w1.heap.size, 1, none⟩ = some (.int .i64 y) ∧ W'.cell? ⟨w1.heap.size, 2, none⟩ = some (.int .i64 z)) ((simp [*, go_sem]; done)) (first | (go_at_call 15; apply use_rd (w := w) (R := R) (fun hb hr hq => pickD _ _ _ _ _ hb hr hq); (focus ((repeat' (first | (with_reducible exact hI) | (with_reducible apply inv_alloc) | (with_reducible apply inv_drew) | (with_reducible apply inv_drewN) | (with_reducible apply inv_set) | (simp only [setL_map]; simp; done) | (simp; done))); done)); (focus omega); rintro v' w' ⟨k, rfl, hk0, hk1, _⟩; clear hI; intro hI; (try simp at hI); (try clear hC); have hC := mem_facts hI.1; simp at hC))
  all_goals
    go_wp2
    refine bodyPost_ret (by (simp [results, Try.results11, go_sem, *]; try rfl)) rfl ?_
    apply fon_use (w := w)
    · (repeat' (first | (with_reducible exact hI) | (with_reducible apply inv_alloc) | (with_reducible apply inv_drew) | (with_reducible apply inv_drewN) | (with_reducible apply inv_set) | (simp only [setL_map]; simp; done) | (simp; done)))
    intro hJ
    exact ⟨_, _, _, _, rfl, hJ.2.2.1.below hRge⟩
end Go.Proofs.Ytohkmdpefplddaa

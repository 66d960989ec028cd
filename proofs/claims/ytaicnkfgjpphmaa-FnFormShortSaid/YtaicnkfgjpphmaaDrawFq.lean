
/- The draw of two forms, for every slice of bytes. -/
import Derived.Test.YtaicnkfgjpphmaaDrawFp
namespace Go.Proofs.Ytaicnkfgjpphmaa
open Go.RowKit

/-- behind the form that is moved -/
def SmRel (R B : Nat) (w : World) (L : List (Nat × Array Value × TypeId)) (v u : Value) (wx : World) : Prop := ∃ (g : Nat) (a b c : Int) (ok : Bool), v = .pointer (some ⟨g, 0, none⟩) ∧ u = .bool ok ∧
  Inv R B 1000 w wx ((g, #[.int .i64 a, .int .i64 b, .int .i64 c], 24) :: L)
theorem sm_use {R B q : Nat} {w W : World} {L L' : List (Nat × Array Value × TypeId)} {v u : Value} (h : Inv R B q w W L') (k : Inv R B q w W L' → SmRel R B w L v u W) : SmRel R B w L v u W := k h
set_option maxHeartbeats 2000000 in
theorem DrawFormSame_ (A : Option Addr) (len cap : Nat) (zs : List Int) (w : World) (hRow : RowB .u8 w w.heap.size A len cap zs) : Calls Try.prog 11 #[.slice A len cap] w (FofPost w) := by
  have hM := mem_nil w; have hB := Below.refl w.heap.size w; have hC := True.intro
  go_enter Try.func11, Try.ntmps11
  go_upto_region 3 with (first | (go_at_call 14; apply use_open (w := w) hRow; (focus ((repeat' (first | (with_reducible exact hM) | (with_reducible apply mem_alloc) | (with_reducible apply mem_set) | (with_reducible apply mem_drew) | (with_reducible apply mem_drewN))); done)); (focus ((repeat' (first | (with_reducible exact hB) | (with_reducible exact Below.refl _ _) | (with_reducible refine Below.alloc ?_ ?_ _) | (with_reducible refine Below.setCell ?_ ?_ _) | (with_reducible refine Below.drew ?_) | (with_reducible refine below_drewN ?_ _) | (with_reducible exact Nat.le_refl _) | (with_reducible exact hB.size) | (simp [go_sem]; done) | (have := hB.size; simp [go_sem]; omega))); done)); (focus ((repeat' (first | (with_reducible exact hB) | (with_reducible exact Below.refl _ _) | (with_reducible refine Below.alloc ?_ ?_ _) | (with_reducible refine Below.setCell ?_ ?_ _) | (with_reducible refine Below.drew ?_) | (with_reducible refine below_drewN ?_ _) | (with_reducible exact Nat.le_refl _) | (with_reducible exact hB.size) | (simp [go_sem]; done) | (have := hB.size; simp [go_sem]; omega))); done)); (focus (first | (simp; done) | (simp <;> omega))); rintro R w' hI hRge; clear hM hB; (try simp at hI); (try clear hC); have hC := mem_facts hI.1; simp at hC) | (go_at_call 13; apply use_rd (w := w) (R := R) (fun hb hr hq => l92Form_ _ _ _ _ hb hr hq); (focus ((repeat' (first | (with_reducible exact hI) | (with_reducible apply inv_alloc) | (with_reducible apply inv_drew) | (with_reducible apply inv_drewN) | (with_reducible apply inv_set) | (simp only [setL_map]; simp; done) | (simp; done))); done)); (focus omega); rintro v' w' ⟨x, y, z, rfl⟩; clear hI; intro hI; (try simp at hI); (try clear hC); have hC := mem_facts hI.1; simp at hC))
  obtain ⟨w1, rfl⟩ : ∃ w1 : World, w1 = w' := ⟨_, rfl⟩
  go_cut [6, 7] (SmRel R w.heap.size w [(w1.heap.size, #[.int .i64 x, .int .i64 y, .int .i64 z], 24), (w.heap.size + 1, #[.int .i64 0, .int .i64 0, .int .i64 0], 24), (w.heap.size, #[.int .i64 0, .int .i64 0, .int .i64 0], 24)])
  case first =>
    go_region_held3 (fun W' => W'.cell? ⟨w1.heap.size, 0, none⟩ = some (.int .i64 x) ∧ W'.cell? ⟨w1.heap.size, 1, none⟩ = some (.int .i64 y) ∧ W'.cell? ⟨w1.heap.size, 2, none⟩ = some (.int .i64 z)) ((simp [*, go_sem]; done)) (first | (go_at_call 23; apply use_rd (w := w) (R := R) (fun hb hr hq => l91Even_ _ _ _ _ hb hr hq); (focus ((repeat' (first | (with_reducible exact hI) | (with_reducible apply inv_alloc) | (with_reducible apply inv_drew) | (with_reducible apply inv_drewN) | (with_reducible apply inv_set) | (simp only [setL_map]; simp; done) | (simp; done))); done)); (focus omega); rintro v' w' ⟨p, q, r, t, rfl⟩; clear hI; intro hI; (try simp at hI); (try clear hC); have hC := mem_facts hI.1; simp at hC) | (go_at_call 22; refine (sFormMoved_ _ _ _ _ _ _ _ _).mono ?_; rintro e w' ⟨rfl, hb⟩; apply inv_below (w := w) (R := R) hb; (focus ((repeat' (first | (with_reducible exact hI) | (with_reducible apply inv_alloc) | (with_reducible apply inv_drew) | (with_reducible apply inv_drewN) | (with_reducible apply inv_set) | (simp only [setL_map]; simp; done) | (simp; done))); done)); clear hI hb; intro hI; (try simp at hI); (try clear hC); have hC := mem_facts hI.1; simp at hC))
    all_goals
      go_wp2_with fail
      go_meet
      apply sm_use
      · (repeat' (first | (with_reducible exact hI) | (with_reducible apply inv_alloc) | (with_reducible apply inv_drew) | (with_reducible apply inv_drewN) | (with_reducible apply inv_set) | (simp only [setL_map]; simp; done) | (simp; done)))
      intro hJ
      (try simp [hC] at hJ)
      exact ⟨_, _, _, _, _, rfl, rfl, inv_mono hJ (by omega)⟩
  case rest =>
    obtain ⟨g, a, b, c, ok, rfl, rfl, hI'⟩ := hcut
    clear hI hC
    have hI := hI'
    clear hI'
    have hC := mem_facts hI.1; simp at hC
    cases ok
    · go_wp2_with fail
      go_region_held3 (fun W' => W'.cell? ⟨w1.heap.size, 0, none⟩ = some (.int .i64 x) ∧ W'.cell? ⟨w1.heap.size, 1, none⟩ = some (.int .i64 y) ∧ W'.cell? ⟨w1.heap.size, 2, none⟩ = some (.int .i64 z)) ((simp [*, go_sem]; done)) (first | (go_at_call 13; apply use_rd (w := w) (R := R) (fun hb hr hq => l92Form_ _ _ _ _ hb hr hq); (focus ((repeat' (first | (with_reducible exact hI) | (with_reducible apply inv_alloc) | (with_reducible apply inv_drew) | (with_reducible apply inv_drewN) | (with_reducible apply inv_set) | (simp only [setL_map]; simp; done) | (simp; done))); done)); (focus omega); rintro v' w' ⟨x', y', z', rfl⟩; clear hI; intro hI; (try simp at hI); (try clear hC); have hC := mem_facts hI.1; simp at hC))
      all_goals
        go_wp2
        refine bodyPost_ret (by (simp [results, Try.results11, go_sem, *]; try rfl)) rfl ?_
        apply fof_use (w := w)
        · (repeat' (first | (with_reducible exact hI) | (with_reducible apply inv_alloc) | (with_reducible apply inv_drew) | (with_reducible apply inv_drewN) | (with_reducible apply inv_set) | (simp only [setL_map]; simp; done) | (simp; done)))
        intro hJ
        exact ⟨_, _, _, _, _, _, rfl, hJ.2.2.1.below hRge⟩
    · go_upto_if 24 with (first | (go_at_call 24; apply use_rd (w := w) (R := R) (fun hb hr hq => pickD _ _ _ _ _ hb hr hq); (focus ((repeat' (first | (with_reducible exact hI) | (with_reducible apply inv_alloc) | (with_reducible apply inv_drew) | (with_reducible apply inv_drewN) | (with_reducible apply inv_set) | (simp only [setL_map]; simp; done) | (simp; done))); done)); (focus omega); rintro v' w' ⟨k, rfl, hk0, hk1, _⟩; clear hI; intro hI; (try simp at hI); (try clear hC); have hC := mem_facts hI.1; simp at hC))
      by_cases hk : 0 < k
      · go_wp2_with fail
        go_region_held3 (fun W' => (W'.cell? ⟨w1.heap.size, 0, none⟩ = some (.int .i64 x) ∧ W'.cell? ⟨w1.heap.size, 1, none⟩ = some (.int .i64 y) ∧ W'.cell? ⟨w1.heap.size, 2, none⟩ = some (.int .i64 z)) ∧ W'.cell? ⟨g, 0, none⟩ = some (.int .i64 a) ∧ W'.cell? ⟨g, 1, none⟩ = some (.int .i64 b) ∧ W'.cell? ⟨g, 2, none⟩ = some (.int .i64 c)) ((simp [*, go_sem]; done)) (fail)
        all_goals
          go_wp2
          refine bodyPost_ret (by (simp [results, Try.results11, go_sem, *]; try rfl)) rfl ?_
          apply fof_use (w := w)
          · (repeat' (first | (with_reducible exact hI) | (with_reducible apply inv_alloc) | (with_reducible apply inv_drew) | (with_reducible apply inv_drewN) | (with_reducible apply inv_set) | (simp only [setL_map]; simp; done) | (simp; done)))
          intro hJ
          exact ⟨_, _, _, _, _, _, rfl, hJ.2.2.1.below hRge⟩
      · go_wp2_with fail
        go_region_held3 (fun W' => W'.cell? ⟨w1.heap.size, 0, none⟩ = some (.int .i64 x) ∧ W'.cell? ⟨w1.heap.size, 1, none⟩ = some (.int .i64 y) ∧ W'.cell? ⟨w1.heap.size, 2, none⟩ = some (.int .i64 z)) ((simp [*, go_sem]; done)) (first | (go_at_call 13; apply use_rd (w := w) (R := R) (fun hb hr hq => l92Form_ _ _ _ _ hb hr hq); (focus ((repeat' (first | (with_reducible exact hI) | (with_reducible apply inv_alloc) | (with_reducible apply inv_drew) | (with_reducible apply inv_drewN) | (with_reducible apply inv_set) | (simp only [setL_map]; simp; done) | (simp; done))); done)); (focus omega); rintro v' w' ⟨x', y', z', rfl⟩; clear hI; intro hI; (try simp at hI); (try clear hC); have hC := mem_facts hI.1; simp at hC))
        all_goals
          go_wp2
          refine bodyPost_ret (by (simp [results, Try.results11, go_sem, *]; try rfl)) rfl ?_
          apply fof_use (w := w)
          · (repeat' (first | (with_reducible exact hI) | (with_reducible apply inv_alloc) | (with_reducible apply inv_drew) | (with_reducible apply inv_drewN) | (with_reducible apply inv_set) | (simp only [setL_map]; simp; done) | (simp; done)))
          intro hJ
          exact ⟨_, _, _, _, _, _, rfl, hJ.2.2.1.below hRge⟩
end Go.Proofs.Ytaicnkfgjpphmaa

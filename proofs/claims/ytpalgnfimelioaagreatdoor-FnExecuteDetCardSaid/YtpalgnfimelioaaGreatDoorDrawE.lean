
/- Matrices that are drawn. -/
import Derived.Test.YtpalgnfimelioaaGreatDoorDrawD
import Derived.Deep.DeepCutAuto
namespace Go.Proofs.YtpalgnfimelioaaGreatDoor
open Go.RowKit

theorem use_l2Mat {s : ByteArray} {W : World} {Q : Ending → World → Prop} (hs : s.size ≤ 1000) (h : ∀ a b c d w', Below W.heap.size W w' → Q (.returned (.agg #[.int .i64 a, .int .i64 b, .int .i64 c, .int .i64 d])) w') : Calls Tryz.prog 24 #[.string s] W Q :=
  (l2Mat_ s hs W).mono fun e w' ⟨a, b, c, d, he, hb⟩ => by rw [he]; exact h a b c d w' hb
/-- a matrix in block g, the result's block behind it -/
def EvRel (R B q : Nat) (w : World) (g : Nat) (wx : World) : Prop := ∃ a b c d : Int,
  Inv R B q w wx [(g, #[.int .i64 a, .int .i64 b, .int .i64 c, .int .i64 d], 25), (w.heap.size, #[.int .i64 0, .int .i64 0, .int .i64 0, .int .i64 0], 25)]
theorem inv_to {R B q q' : Nat} {w W : World} {L L' : List (Nat × Array Value × TypeId)} (h : Inv R B q w W L) (hq : q ≤ q') (e : L = L') : Inv R B q' w W L' := by subst e; exact inv_mono h hq

theorem ev_use {R B q q' g : Nat} {w W : World} {L : List (Nat × Array Value × TypeId)} (h : Inv R B q' w W L) (k : Inv R B q' w W L → EvRel R B q w g W) : EvRel R B q w g W := k h
theorem dpost_use {R B q q' : Nat} {w W : World} {L : List (Nat × Array Value × TypeId)} {Good : Value → Prop} {v : Value} (h : Inv R B q' w W L) (k : Inv R B q' w W L → DPost Good R B q w (.returned v) W) : DPost Good R B q w (.returned v) W := k h
set_option maxHeartbeats 2000000 in
theorem l91Even_ (R B q : Nat) (w : World) (hB : B ≤ w.heap.size) (hR : Rdr w R B q) (hq : q ≤ 700000) : Calls Tryz.prog 117 #[.pointer (some ⟨R, 0, none⟩)] w (DPost IsMat R B (q + 200) w) := by
  have hI := inv_start hR hB
  clear hR
  go_enter Tryz.func117, Tryz.ntmps117
  go_upto_region 2 with (first | (go_at_call 17; apply use_rd (w := w) (R := R) (fun hb hr hq => word6 _ _ _ _ hb hr hq); (focus ((repeat' (first | (with_reducible exact hI) | (with_reducible apply inv_alloc) | (with_reducible apply inv_drew) | (with_reducible apply inv_drewN) | (with_reducible apply inv_set) | (simp only [setL_map]; simp; done) | (simp; done))); done)); (focus omega); rintro v' w' ⟨s, rfl, hs⟩; clear hI; intro hI; (try simp at hI); (try clear hC); have hC := mem_facts hI.1; simp at hC) | (go_at_call 24; apply use_l2Mat; (focus (omega)); intro a b c d w' hb; apply inv_below (w := w) (R := R) hb; (focus ((repeat' (first | (with_reducible exact hI) | (with_reducible apply inv_alloc) | (with_reducible apply inv_drew) | (with_reducible apply inv_drewN) | (with_reducible apply inv_set) | (simp only [setL_map]; simp; done) | (simp; done))); done)); clear hI hb; intro hI; (try simp at hI); (try clear hC); have hC := mem_facts hI.1; simp at hC))
  obtain ⟨w0, rfl⟩ : ∃ w0 : World, w0 = w' := ⟨_, rfl⟩
  go_upto_if 9 with (go_at_call 15; apply use_rd (w := w) (R := R) (fun hb hr hq => pickD _ _ _ _ _ hb hr hq); (focus ((repeat' (first | (with_reducible exact hI) | (with_reducible apply inv_alloc) | (with_reducible apply inv_drew) | (with_reducible apply inv_drewN) | (with_reducible apply inv_set) | (simp only [setL_map]; simp; done) | (simp; done))); done)); (focus omega); rintro v' w' ⟨x, rfl, hx0, hx1, _⟩; clear hI; intro hI; (try simp at hI); (try clear hC); have hC := mem_facts hI.1; simp at hC)
  go_cut [] (EvRel R B (q + 150) w w0.heap.size)
  case first =>
    go_wp2_with (first | (go_at_call 17; apply use_rd (w := w) (R := R) (fun hb hr hq => word3 _ _ _ _ hb hr hq); (focus ((repeat' (first | (with_reducible exact hI) | (with_reducible apply inv_alloc) | (with_reducible apply inv_drew) | (with_reducible apply inv_drewN) | (with_reducible apply inv_set) | (simp only [setL_map]; simp; done) | (simp; done))); done)); (focus omega); rintro v' w' ⟨s, rfl, hs⟩; clear hI; intro hI; (try simp at hI); (try clear hC); have hC := mem_facts hI.1; simp at hC) | (go_at_call 24; apply use_l2Mat; (focus (omega)); intro a b c d w' hb; apply inv_below (w := w) (R := R) hb; (focus ((repeat' (first | (with_reducible exact hI) | (with_reducible apply inv_alloc) | (with_reducible apply inv_drew) | (with_reducible apply inv_drewN) | (with_reducible apply inv_set) | (simp only [setL_map]; simp; done) | (simp; done))); done)); clear hI hb; intro hI; (try simp at hI); (try clear hC); have hC := mem_facts hI.1; simp at hC) | (go_at_call 159; refine (l3Turn_ _ _ _ _ _).mono ?_; rintro e w' ⟨rfl, hb⟩; apply inv_below (w := w) (R := R) hb; (focus ((repeat' (first | (with_reducible exact hI) | (with_reducible apply inv_alloc) | (with_reducible apply inv_drew) | (with_reducible apply inv_drewN) | (with_reducible apply inv_set) | (simp only [setL_map]; simp; done) | (simp; done))); done)); clear hI hb; intro hI; (try simp at hI); (try clear hC); have hC := mem_facts hI.1; simp at hC) | (go_at_call 158; refine (l1Times_ _ _ _ _ _ _ _ _ _).mono ?_; rintro e w' ⟨rfl, hb⟩; apply inv_below (w := w) (R := R) hb; (focus ((repeat' (first | (with_reducible exact hI) | (with_reducible apply inv_alloc) | (with_reducible apply inv_drew) | (with_reducible apply inv_drewN) | (with_reducible apply inv_set) | (simp only [setL_map]; simp; done) | (simp; done))); done)); clear hI hb; intro hI; (try simp at hI); (try clear hC); have hC := mem_facts hI.1; simp at hC))
    all_goals
      go_meet
      apply ev_use
      · (repeat' (first | (with_reducible exact hI) | (with_reducible apply inv_alloc) | (with_reducible apply inv_drew) | (with_reducible apply inv_drewN) | (with_reducible apply inv_set) | (simp only [setL_map]; simp; done) | (simp; done)))
      intro hJ
      (try simp [hC] at hJ)
      exact ⟨_, _, _, _, inv_mono hJ (by omega)⟩
  case rest =>
    obtain ⟨a, b, c, d, hI'⟩ := hcut
    clear hI hC
    have hI := hI'
    clear hI'
    have hC := mem_facts hI.1; simp at hC
    go_upto_if 18 with (go_at_call 15; apply use_rd (w := w) (R := R) (fun hb hr hq => pickD _ _ _ _ _ hb hr hq); (focus ((repeat' (first | (with_reducible exact hI) | (with_reducible apply inv_alloc) | (with_reducible apply inv_drew) | (with_reducible apply inv_drewN) | (with_reducible apply inv_set) | (simp only [setL_map]; simp; done) | (simp; done))); done)); (focus omega); rintro v' w' ⟨y, rfl, hy0, hy1, _⟩; clear hI; intro hI; (try simp at hI); (try clear hC); have hC := mem_facts hI.1; simp at hC)
    go_cut [] (EvRel R B (q + 160) w w0.heap.size)
    case first =>
      go_wp2
      all_goals
        go_meet
        apply ev_use
        · (repeat' (first | (with_reducible exact hI) | (with_reducible apply inv_alloc) | (with_reducible apply inv_drew) | (with_reducible apply inv_drewN) | (with_reducible apply inv_set) | (simp only [setL_map]; simp; done) | (simp; done)))
        intro hJ
        (try simp [hC] at hJ)
        exact ⟨_, _, _, _, inv_mono hJ (by omega)⟩
    case rest =>
      obtain ⟨a, b, c, d, hI'⟩ := hcut
      clear hI hC
      have hI := hI'
      clear hI'
      have hC := mem_facts hI.1; simp at hC
      cases h : inB ⟨a, b, c, d⟩
      all_goals
        go_wp2_with (first | (go_at_call 36; refine (sMatIn_ _ _ _ _ _).mono ?_; rintro e w' ⟨rfl, hb⟩; apply inv_below (w := w) (R := R) hb; (focus ((repeat' (first | (with_reducible exact hI) | (with_reducible apply inv_alloc) | (with_reducible apply inv_drew) | (with_reducible apply inv_drewN) | (with_reducible apply inv_set) | (simp only [setL_map]; simp; done) | (simp; done))); done)); clear hI hb; intro hI; (try simp at hI); (try clear hC); have hC := mem_facts hI.1; simp at hC) | (go_at_call 43; refine (l1Unit_ _).mono ?_; rintro e w' ⟨rfl, hb⟩; apply inv_below (w := w) (R := R) hb; (focus ((repeat' (first | (with_reducible exact hI) | (with_reducible apply inv_alloc) | (with_reducible apply inv_drew) | (with_reducible apply inv_drewN) | (with_reducible apply inv_set) | (simp only [setL_map]; simp; done) | (simp; done))); done)); clear hI hb; intro hI; (try simp at hI); (try clear hC); have hC := mem_facts hI.1; simp at hC))
        refine bodyPost_ret (by (simp [results, Tryz.results117, go_sem, *]; try rfl)) rfl ?_
        apply dpost_use (w := w)
        · (repeat' (first | (with_reducible exact hI) | (with_reducible apply inv_alloc) | (with_reducible apply inv_drew) | (with_reducible apply inv_drewN) | (with_reducible apply inv_set) | (simp only [setL_map]; simp; done) | (simp; done)))
        intro hJ
        exact inv_end hJ (by omega) ⟨_, _, _, _, rfl⟩
end Go.Proofs.YtpalgnfimelioaaGreatDoor

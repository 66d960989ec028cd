
/- The laws on drawn matrices: the order. No condition. -/
import Derived.Test.YteepjgamcgceoaaTurnG
import Derived.Test.YteepjgamcgceoaaDrawG
import Derived.Test.YteepjgamcgceoaaLawD
import Derived.Deep.DeepCutAuto
namespace Go.Proofs.Yteepjgamcgceoaa
open Go.RowKit

theorem ord_pw {m : M} (hm : inB m = true) {K : Nat} {P : Nat → M} (h : OrdSeq m K P) : ∀ k, k < K → pok m (k + 1) = true ∧ pw m (k + 1) = P (k + 1)
  | 0, hk => by
    have e : pw m 1 = m := by show tm m unitM = m; rw [tm_x hm unit_in, xm_unit]
    exact ⟨by show (true && inB (pw m 1)) = true; rw [e, hm]; rfl, by rw [e]; exact h.1.symm⟩
  | k + 1, hk => by
    obtain ⟨h1, h2⟩ := ord_pw hm h k (by omega)
    have h3 := (h.2.1 (k + 1) (by omega) hk).1
    have hin := h.2.2.1 (k + 1 + 1) (by omega) (by omega)
    have e : pw m (k + 1 + 1) = P (k + 1 + 1) := by
      rw [← h3, ← h2, tm_x (pok_in h1) hm, ← pw_commutes hm h1, ← tm_x hm (pok_in h1)]
      rfl
    exact ⟨by show (pok m (k + 1) && inB (pw m (k + 1 + 1))) = true; rw [h1, e, hin]; rfl, e⟩
theorem ord_power {m : M} (hm : inB m = true) (hd : xd m = 1) (ho : (ord m).2 = true) : mmp m (ord m).1 = (unitM, true) := by
  rcases ord_seq hm hd with ⟨K, P, h⟩ | ⟨h1, h2, h3⟩
  · obtain ⟨k, rfl⟩ : ∃ k, K = k + 1 := ⟨K - 1, by have := h.2.2.2.2.1; omega⟩
    obtain ⟨h1, h2⟩ := ord_pw hm h k (by omega)
    have h6 := h.2.2.2.2.2.1
    rw [h.2.2.2.2.2.2]
    have e : mmp m ((k + 1 : Nat) : Int) = mpw m (k + 1) := by
      rw [mmp, if_pos ⟨hm, by omega, by omega⟩, if_pos (by omega)]; rfl
    obtain ⟨u1, u2, u3, u4⟩ := unB_iff.1 h.2.2.2.1
    have eu : P (k + 1) = unitM := M.ext' u1 u2 u3 u4
    rw [e, mpw, if_pos h1, h2, eu]
  · rw [ord_none h1 h2 h3] at ho; cases ho
theorem ord_trace {m : M} (ho : (ord m).2 = true) : ((ord m).1 = 1 ∧ m.a + m.d = 2) ∨ ((ord m).1 = 2 ∧ m.a + m.d = -2) ∨ ((ord m).1 = 3 ∧ m.a + m.d = -1) ∨ ((ord m).1 = 4 ∧ m.a + m.d = 0) ∨ ((ord m).1 = 6 ∧ m.a + m.d = 1) := by
  unfold ord at ho ⊢
  split at ho
  · rename_i h
    obtain ⟨h1, _, _, h4⟩ := unB_iff.1 h
    rw [if_pos h]; exact .inl ⟨rfl, by omega⟩
  · rename_i h0
    rw [if_neg h0]
    split at ho
    · rename_i h
      obtain ⟨h1, _, _, h4⟩ := ngU_iff.1 h
      rw [if_pos h]; exact .inr (.inl ⟨rfl, by omega⟩)
    · rename_i h1
      rw [if_neg h1]
      split at ho
      · rename_i h; rw [if_pos h]; exact .inr (.inr (.inl ⟨rfl, by omega⟩))
      · rename_i h2
        rw [if_neg h2]
        split at ho
        · rename_i h; rw [if_pos h]; exact .inr (.inr (.inr (.inl ⟨rfl, by omega⟩)))
        · rename_i h3
          rw [if_neg h3]
          split at ho
          · rename_i h; rw [if_pos h]; exact .inr (.inr (.inr (.inr ⟨rfl, by omega⟩)))
          · cases ho
theorem or_use {R B q : Nat} {w W : World} {L : List (Nat × Array Value × TypeId)} {P : Nat → Int → Int → Int → Int → List (Nat × Array Value × TypeId)} {v : Nat → Prop} (h : Inv R B q w W L) (k : Inv R B q w W L → ∃ b x y z t, v b ∧ Inv R B q w W (P b x y z t)) : ∃ b x y z t, v b ∧ Inv R B q w W (P b x y z t) := k h
set_option maxRecDepth 100000 in
set_option maxHeartbeats 4000000 in
theorem DrawTurnOrder_ (A : Option Addr) (len cap : Nat) (zs : List Int) (w : World) (hRow : RowB .u8 w w.heap.size A len cap zs) : Calls Try.prog 4 #[.slice A len cap] w (MatPost w) := by
  have hM := mem_nil w; have hB := Below.refl w.heap.size w; have hC := True.intro
  go_enter Try.func4, Try.ntmps4
  go_upto_region 3 with (first | (go_at_call 10; apply use_open (w := w) hRow; (focus ((repeat' (first | (with_reducible exact hM) | (with_reducible apply mem_alloc) | (with_reducible apply mem_set) | (with_reducible apply mem_drew) | (with_reducible apply mem_drewN))); done)); (focus ((repeat' (first | (with_reducible exact hB) | (with_reducible exact Below.refl _ _) | (with_reducible refine Below.alloc ?_ ?_ _) | (with_reducible refine Below.setCell ?_ ?_ _) | (with_reducible refine Below.drew ?_) | (with_reducible refine below_drewN ?_ _) | (with_reducible exact Nat.le_refl _) | (with_reducible exact hB.size) | (simp [go_sem]; done) | (have := hB.size; simp [go_sem]; omega))); done)); (focus ((repeat' (first | (with_reducible exact hB) | (with_reducible exact Below.refl _ _) | (with_reducible refine Below.alloc ?_ ?_ _) | (with_reducible refine Below.setCell ?_ ?_ _) | (with_reducible refine Below.drew ?_) | (with_reducible refine below_drewN ?_ _) | (with_reducible exact Nat.le_refl _) | (with_reducible exact hB.size) | (simp [go_sem]; done) | (have := hB.size; simp [go_sem]; omega))); done)); (focus (simp; done)); rintro R w' hI hRge; clear hM hB; (try simp at hI); (try clear hC); have hC := mem_facts hI.1; simp at hC) | ((go_at_call 11; apply use_rd (w := w) (R := R) (fun hb hr hq => l91Even_ _ _ _ _ hb hr hq); (focus ((repeat' (first | (with_reducible exact hI) | (with_reducible apply inv_alloc) | (with_reducible apply inv_drew) | (with_reducible apply inv_drewN) | (with_reducible apply inv_set) | (simp only [setL_map]; simp; done) | (simp; done))); done)); (focus omega); rintro v' w' ⟨a, b, c, d, rfl⟩; clear hI; intro hI; (try simp at hI); (try clear hC); have hC := mem_facts hI.1; simp at hC); obtain ⟨wm, rfl⟩ : ∃ wm : World, wm = w' := ⟨_, rfl⟩))
  go_cut [5] (fun s5 wx => ∃ (bn : Nat) (a5 c5 d5 e5 : Int), s5 = .pointer (some ⟨bn, 0, none⟩) ∧ Inv R w.heap.size 201 w wx [(bn, #[.int .i64 a5, .int .i64 c5, .int .i64 d5, .int .i64 e5], 24), (wm.heap.size + 1, #[.int .i64 0, .int .i64 (-1), .int .i64 1, .int .i64 0, .int .i64 0, .int .i64 (-1), .int .i64 1, .int .i64 1, .int .i64 0, .int .i64 (-1), .int .i64 1, .int .i64 (-1), .int .i64 (-1), .int .i64 0, .int .i64 0, .int .i64 (-1), .int .i64 1, .int .i64 0, .int .i64 0, .int .i64 1], 24), (wm.heap.size, #[.int .i64 a, .int .i64 b, .int .i64 c, .int .i64 d], 24), (w.heap.size, #[.int .i64 0, .int .i64 0, .int .i64 0, .int .i64 0], 24)])
  case first =>
    go_wp2_with fail
    (go_at_call 12; apply use_rd (w := w) (R := R) (fun hb hr hq => pickD _ _ _ _ _ hb hr hq); (focus ((repeat' (first | (with_reducible exact hI) | (with_reducible apply inv_alloc) | (with_reducible apply inv_drew) | (with_reducible apply inv_drewN) | (with_reducible apply inv_set) | (simp only [setL_map]; simp; done) | (simp; done))); done)); (focus omega); rintro v' w' ⟨x, rfl, hx0, hx1, _⟩; clear hI; intro hI; (try simp at hI); (try clear hC); have hC := mem_facts hI.1; simp at hC)
    have hx5 := hx1 (by omega)
    have hx : x = 0 ∨ x = 1 ∨ x = 2 ∨ x = 3 ∨ x = 4 := by omega
    clear hx0 hx1 hx5
    rcases hx with rfl | rfl | rfl | rfl | rfl
    all_goals
      go_wp2_with fail
      go_meet
      exact ⟨_, _, _, _, _, rfl, inv_alloc hI _ _⟩
  case rest =>
    obtain ⟨bn, a5, c5, d5, e5, rfl, hI'⟩ := hcut
    clear hI hC
    have hI := hI'
    clear hI'
    have hC := mem_facts hI.1; simp at hC
    go_upto_if 5 with (go_at_call 12; apply use_rd (w := w) (R := R) (fun hb hr hq => pickD _ _ _ _ _ hb hr hq); (focus ((repeat' (first | (with_reducible exact hI) | (with_reducible apply inv_alloc) | (with_reducible apply inv_drew) | (with_reducible apply inv_drewN) | (with_reducible apply inv_set) | (simp only [setL_map]; simp; done) | (simp; done))); done)); (focus omega); rintro v' w' ⟨x, rfl, hx0, hx1, _⟩; clear hI; intro hI; (try simp at hI); (try clear hC); have hC := mem_facts hI.1; simp at hC)
    · refine bodyPost_ret (by (simp [results, Try.results4, go_sem, *]; try rfl)) rfl ?_
      apply mp_use (w := w)
      · (repeat' (first | (with_reducible exact hI) | (with_reducible apply inv_alloc) | (with_reducible apply inv_drew) | (with_reducible apply inv_drewN) | (with_reducible apply inv_set) | (simp only [setL_map]; simp; done) | (simp; done)))
      intro hJ
      exact ⟨_, _, _, _, rfl, hJ.2.2.1.below hRge⟩
    · go_cut [6] (fun s6 wx => ∃ (b6 : Nat) (a6 c6 d6 e6 : Int), s6 = .pointer (some ⟨b6, 0, none⟩) ∧ Inv R w.heap.size 202 w wx [(b6, #[.int .i64 a6, .int .i64 c6, .int .i64 d6, .int .i64 e6], 24), (bn, #[.int .i64 a5, .int .i64 c5, .int .i64 d5, .int .i64 e5], 24), (wm.heap.size + 1, #[.int .i64 0, .int .i64 (-1), .int .i64 1, .int .i64 0, .int .i64 0, .int .i64 (-1), .int .i64 1, .int .i64 1, .int .i64 0, .int .i64 (-1), .int .i64 1, .int .i64 (-1), .int .i64 (-1), .int .i64 0, .int .i64 0, .int .i64 (-1), .int .i64 1, .int .i64 0, .int .i64 0, .int .i64 1], 24), (wm.heap.size, #[.int .i64 a, .int .i64 b, .int .i64 c, .int .i64 d], 24), (w.heap.size, #[.int .i64 0, .int .i64 0, .int .i64 0, .int .i64 0], 24)])
      case first =>
        go_region_held3 (fun W' => W'.cell? ⟨wm.heap.size, 0, none⟩ = some (.int .i64 a) ∧ W'.cell? ⟨wm.heap.size, 1, none⟩ = some (.int .i64 b) ∧ W'.cell? ⟨wm.heap.size, 2, none⟩ = some (.int .i64 c) ∧ W'.cell? ⟨wm.heap.size, 3, none⟩ = some (.int .i64 d) ∧ W'.cell? ⟨bn, 0, none⟩ = some (.int .i64 a5) ∧ W'.cell? ⟨bn, 1, none⟩ = some (.int .i64 c5) ∧ W'.cell? ⟨bn, 2, none⟩ = some (.int .i64 d5) ∧ W'.cell? ⟨bn, 3, none⟩ = some (.int .i64 e5)) ((simp [*, go_sem]; done)) (first | (go_at_call 13; refine (l1Times_ _ _ _ _ _ _ _ _ _).mono ?_; rintro e w' ⟨rfl, hb⟩; apply inv_below (w := w) (R := R) hb; (focus ((repeat' (first | (with_reducible exact hI) | (with_reducible apply inv_alloc) | (with_reducible apply inv_drew) | (with_reducible apply inv_drewN) | (with_reducible apply inv_set) | (simp only [setL_map]; simp; done) | (simp; done))); done)); clear hI hb; intro hI; (try simp at hI); (try clear hC); have hC := mem_facts hI.1; simp at hC) | (go_at_call 14; refine (l1Back_ _ _ _ _ _).mono ?_; rintro e w' ⟨rfl, hb⟩; apply inv_below (w := w) (R := R) hb; (focus ((repeat' (first | (with_reducible exact hI) | (with_reducible apply inv_alloc) | (with_reducible apply inv_drew) | (with_reducible apply inv_drewN) | (with_reducible apply inv_set) | (simp only [setL_map]; simp; done) | (simp; done))); done)); clear hI hb; intro hI; (try simp at hI); (try clear hC); have hC := mem_facts hI.1; simp at hC))
        all_goals
          go_wp2_with fail
          go_meet
          apply or_use
          · (repeat' (first | (with_reducible exact hI) | (with_reducible apply inv_alloc) | (with_reducible apply inv_drew) | (with_reducible apply inv_drewN) | (with_reducible apply inv_set) | (simp only [setL_map]; simp; done) | (simp; done)))
          intro hJ
          (try simp [hC] at hJ)
          exact ⟨_, _, _, _, _, rfl, hJ⟩
      case rest =>
        obtain ⟨b6, a6, c6, d6, e6, rfl, hI'⟩ := hcut
        clear hI hC
        have hI := hI'
        clear hI'
        have hC := mem_facts hI.1; simp at hC
        cases h : inB ⟨a6, c6, d6, e6⟩
        all_goals
          go_wp2_with (first | (go_at_call 15; refine (sMatIn_ _ _ _ _ _).mono ?_; rintro e w' ⟨rfl, hb⟩; apply inv_below (w := w) (R := R) hb; (focus ((repeat' (first | (with_reducible exact hI) | (with_reducible apply inv_alloc) | (with_reducible apply inv_drew) | (with_reducible apply inv_drewN) | (with_reducible apply inv_set) | (simp only [setL_map]; simp; done) | (simp; done))); done)); clear hI hb; intro hI; (try simp at hI); (try clear hC); have hC := mem_facts hI.1; simp at hC))
          refine bodyPost_ret (by (simp [results, Try.results4, go_sem, *]; try rfl)) rfl ?_
          apply mp_use (w := w)
          · (repeat' (first | (with_reducible exact hI) | (with_reducible apply inv_alloc) | (with_reducible apply inv_drew) | (with_reducible apply inv_drewN) | (with_reducible apply inv_set) | (simp only [setL_map]; simp; done) | (simp; done)))
          intro hJ
          exact ⟨_, _, _, _, rfl, hJ.2.2.1.below hRge⟩
end Go.Proofs.Yteepjgamcgceoaa

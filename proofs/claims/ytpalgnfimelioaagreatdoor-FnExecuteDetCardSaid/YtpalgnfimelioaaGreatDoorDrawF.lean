
/- A matrix that is drawn, seldom one that is none; the reader opened over the bytes of an argument; the draws of one matrix. -/
import Derived.Test.YtpalgnfimelioaaGreatDoorDrawE
import Derived.Test.YtpalgnfimelioaaGreatDoorArg
import Derived.OpenShut
namespace Go.Proofs.YtpalgnfimelioaaGreatDoor
open Go.RowKit

set_option maxHeartbeats 2000000 in
theorem l91Mat_ (R B q : Nat) (w : World) (hB : B ≤ w.heap.size) (hR : Rdr w R B q) (hq : q ≤ 600000) : Calls Tryz.prog 78 #[.pointer (some ⟨R, 0, none⟩)] w (DPost IsMat R B (q + 300) w) := by
  have hI := inv_start hR hB
  clear hR
  go_enter Tryz.func78, Tryz.ntmps78
  go_wp2_with (first | (go_at_call 15; apply use_rd (w := w) (R := R) (fun hb hr hq => pickD _ _ _ _ _ hb hr hq); (focus ((repeat' (first | (with_reducible exact hI) | (with_reducible apply inv_alloc) | (with_reducible apply inv_drew) | (with_reducible apply inv_drewN) | (with_reducible apply inv_set) | (simp only [setL_map]; simp; done) | (simp; done))); done)); (focus omega); rintro v' w' ⟨x, rfl, hx0, hx1, _⟩; clear hI; intro hI; (try simp [hC] at hI); (try clear hC); have hC := mem_facts hI.1; simp at hC) | (go_at_call 117; apply use_rd (w := w) (R := R) (fun hb hr hq => l91Even_ _ _ _ _ hb hr hq); (focus ((repeat' (first | (with_reducible exact hI) | (with_reducible apply inv_alloc) | (with_reducible apply inv_drew) | (with_reducible apply inv_drewN) | (with_reducible apply inv_set) | (simp only [setL_map]; simp; done) | (simp; done))); done)); (focus omega); rintro v' w' ⟨a, b, c, d, rfl⟩; clear hI; intro hI; (try simp at hI); (try clear hC); have hC := mem_facts hI.1; simp at hC))
  all_goals
    refine bodyPost_ret (by (simp [results, Tryz.results78, go_sem, *]; try rfl)) rfl ?_
    apply dpost_use (w := w)
    · (repeat' (first | (with_reducible exact hI) | (with_reducible apply inv_alloc) | (with_reducible apply inv_drew) | (with_reducible apply inv_drewN) | (with_reducible apply inv_set) | (simp only [setL_map]; simp; done) | (simp; done)))
    intro hJ
    exact inv_end hJ (by omega) ⟨_, _, _, _, rfl⟩

/-- what the opening of a reader leaves -/
def OpenPost (B : Nat) (w : World) (e : Ending) (w' : World) : Prop := ∃ R : Nat, e = .returned (.pointer (some ⟨R, 0, none⟩)) ∧ Rdr w' R B 0 ∧ Below w.heap.size w w' ∧ w.heap.size ≤ R
theorem open_rdr {w : World} {B : Nat} {a : Option Addr} {len cap n : Nat} {zs : List Int} (hh : RowB .u8 w B a len cap zs) (hn : n ≤ 2000) (hl : n ≤ len) (A : Option Addr) (c : Nat) (hc : n ≤ c) (hA : 0 < n → A = a) :
    Rdr (w.alloc (.cells #[.slice A n c, .int .i64 0] 72)) w.heap.size B 0 := by
  obtain ⟨h, hBB⟩ := hh
  refine ⟨A, n, c, 0, fun i => if 0 ≤ zs.getD i 0 ∧ zs.getD i 0 ≤ 255 then zs.getD i 0 else 0, heap_alloc_new w _, Int.le_refl _, by simp, hn, hc, fun i => ?_, fun hn0 => ?_⟩
  · dsimp only
    split
    · assumption
    · omega
  · rcases h with ⟨_, h, _⟩ | ⟨x, rfl, h1, h2, h3, h4, h5⟩
    · omega
    · have c0 := h4 0 (by omega)
      obtain ⟨b, off, spot⟩ := x
      have hspot : spot = none := by simpa [Addr.add] using World.cell?_spot c0
      subst hspot
      have hb : b < w.heap.size := by have := World.block_lt_of_cell? w _ c0; simpa [Addr.add] using this
      refine ⟨b, off, hA hn0, ⟨hb, hBB _ rfl (by omega)⟩, fun i hi => ?_⟩
      have ci := h4 i (by omega)
      have e : zs.getD i 0 = zs[i]'(by omega) := by simp [List.getD, show i < zs.length by omega]
      have hw := h5 (zs.getD i 0) (by rw [e]; exact List.getElem_mem _)
      have hr : 0 ≤ zs.getD i 0 ∧ zs.getD i 0 ≤ 255 := bounds_u8 hw
      rw [World.cell?_alloc_lt _ _ _ (by exact hb)]
      dsimp only
      rw [if_pos hr]
      simpa [Addr.add_lit] using ci
theorem open_ (B : Nat) (a : Option Addr) (len cap : Nat) (zs : List Int) (w : World) (h : RowB .u8 w B a len cap zs) : Calls Tryz.prog 14 #[.slice a len cap] w (OpenPost B w) := by
  have hlc : len ≤ cap ∧ cap ≤ maxLen := by
    rcases h.1 with ⟨_, rfl, rfl, _⟩ | ⟨x, rfl, h1, h2, _⟩
    · exact ⟨Nat.le_refl _, by decide⟩
    · exact ⟨h1, h2⟩
  obtain ⟨hlc, hcm⟩ := hlc
  unfold maxLen at hcm
  have H := Lib.hid h
  clear h
  by_cases hl : 2000 < len
  · go_enter Tryz.func14, Tryz.ntmps14
    go_wp2
    go_ret
    exact ⟨_, rfl, open_rdr H.out (by omega) (by omega) _ _ (by omega) (fun _ => by first | rfl | simp), (Below.refl _ _).alloc (Nat.le_refl _) _, Nat.le_refl _⟩
  · go_enter Tryz.func14, Tryz.ntmps14
    go_wp2
    go_ret
    exact ⟨_, rfl, open_rdr H.out (by omega) (by omega) _ _ (by omega) (fun _ => rfl), (Below.refl _ _).alloc (Nat.le_refl _) _, Nat.le_refl _⟩
end Go.Proofs.YtpalgnfimelioaaGreatDoor

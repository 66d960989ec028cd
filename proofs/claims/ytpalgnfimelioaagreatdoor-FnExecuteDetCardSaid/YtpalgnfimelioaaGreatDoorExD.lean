
/- Chapter 9's methods of the bench: word, letters, trace, and what they come to. No condition but the table of Itoa's where a number is told. -/
import Derived.Test.YtpalgnfimelioaaGreatDoorExC
import Derived.Test.YtpalgnfimelioaaGreatDoorImplW
import Derived.Test.YtpalgnfimelioaaGreatDoorWordsB
namespace Go.Proofs.YtpalgnfimelioaaGreatDoor
open Go.RowKit

theorem bench_cells {b : Nat} {m : M} {w : World} (h : BenchAt b m w) : (w.cell? ⟨b, 0, none⟩ = some (.int .i64 m.a) ∧ w.cell? ⟨b, 1, none⟩ = some (.int .i64 m.b) ∧ w.cell? ⟨b, 2, none⟩ = some (.int .i64 m.c) ∧ w.cell? ⟨b, 3, none⟩ = some (.int .i64 m.d)) ∧
    (w.frozen? ⟨b, 0, none⟩ = false ∧ w.frozen? ⟨b, 1, none⟩ = false ∧ w.frozen? ⟨b, 2, none⟩ = false ∧ w.frozen? ⟨b, 3, none⟩ = false) := by
  unfold BenchAt at h
  simp [World.cell?, World.frozen?, h]
theorem bench_below {b : Nat} {m : M} {w w' : World} (h : BenchAt b m w) (hb : Below w.heap.size w w') : BenchAt b m w' := (hb.block b (mem_lt h)).trans h
/-- nothing is stored that was not there -/
theorem st4_same {b : Nat} {m : M} {w : World} (h : BenchAt b m w) : Below w.heap.size w (st4 w b m) :=
  ⟨rfl, rfl, rfl, by rw [st4_size]; exact Nat.le_refl _, fun k hk => by
    by_cases e : k = b
    · subst e
      unfold BenchAt at h
      simp [st4, World.setCell, Array.getElem?_modify, h]
    · exact st4_ne _ _ e⟩
theorem st4_same' {b : Nat} {m : M} {w w' : World} (h : BenchAt b m w) (hb : Below w.heap.size w w') : Below w.heap.size (st4 w b m) w' :=
  ⟨hb.os, hb.tape, hb.output, by rw [st4_size]; exact hb.size, fun k hk => (hb.block k hk).trans ((st4_same h).block k hk).symm⟩
theorem bench_mem {b : Nat} {m : M} {w : World} (h : BenchAt b m w) : Mem w [(b, #[.int .i64 m.a, .int .i64 m.b, .int .i64 m.c, .int .i64 m.d], 46)] :=
  ⟨fun p hp => by obtain rfl := List.mem_singleton.1 hp; exact h, List.pairwise_singleton _ _⟩
set_option maxHeartbeats 1000000 in
theorem become_ (b : Nat) (m : M) (x y z t : Int) (w : World) (h : BenchAt b m w) : Calls Tryz.prog 83 #[.pointer (some ⟨b, 0, none⟩), .agg #[.int .i64 x, .int .i64 y, .int .i64 z, .int .i64 t], .bool true] w
    fun e w' => e = .returned (.string (tx [111, 107])) ∧ Below w.heap.size (st4 w b ⟨x, y, z, t⟩) w' := by
  have hM := bench_mem h
  have hC := mem_facts hM
  simp at hC
  go_enter Tryz.func83, Tryz.ntmps83
  go_wp2
  go_ret
  exact ⟨rfl, (Below.refl _ (st4 w b ⟨x, y, z, t⟩)).alloc (Nat.le_refl _) _ |>.mono (by rw [st4_size]; exact Nat.le_refl _)⟩

set_option maxHeartbeats 1000000 in
theorem word_ (b : Nat) (m : M) (l : List UInt8) (hl : l.length ≤ 1000000) (hq : (wmt l).2 = true) (w : World) (h : BenchAt b m w) : Calls Tryz.prog 56 #[.pointer (some ⟨b, 0, none⟩), .string (tx l)] w
    fun e w' => e = .returned (.string (tx [111, 107])) ∧ Below w.heap.size (st4 w b (wmt l).1) w' := by
  have hW := fun w => WordMat_ (tx l) (by rw [tx_size]; omega) w
  simp only [tx_list, hq] at hW
  have hM := mem_nil w; have hB := Below.refl w.heap.size w; have hC := True.intro
  go_enter Tryz.func56, Tryz.ntmps56
  go_wp2_with (go_at_call 6; refine (hW _).mono ?_; rintro e w' ⟨rfl, hb⟩; apply after_call (w := w) hb; (focus ((repeat' (first | (with_reducible exact hM) | (with_reducible apply mem_alloc) | (with_reducible apply mem_set) | (with_reducible apply mem_drew) | (with_reducible apply mem_drewN))); done)); (focus ((repeat' (first | (with_reducible exact hB) | (with_reducible exact Below.refl _ _) | (with_reducible refine Below.alloc ?_ ?_ _) | (with_reducible refine Below.setCell ?_ ?_ _) | (with_reducible refine Below.drew ?_) | (with_reducible refine below_drewN ?_ _) | (with_reducible exact Nat.le_refl _) | (with_reducible exact hB.size) | (simp [go_sem]; done) | (have := hB.size; simp [go_sem]; omega))); done)); (focus ((repeat' (first | (with_reducible exact hB) | (with_reducible exact Below.refl _ _) | (with_reducible refine Below.alloc ?_ ?_ _) | (with_reducible refine Below.setCell ?_ ?_ _) | (with_reducible refine Below.drew ?_) | (with_reducible refine below_drewN ?_ _) | (with_reducible exact Nat.le_refl _) | (with_reducible exact hB.size) | (simp [go_sem]; done) | (have := hB.size; simp [go_sem]; omega))); done)); clear hM hB hb; intro hM hB; (try clear hC); have hC := mem_facts hM; simp at hC)
  refine (become_ b m _ _ _ _ _ (bench_below h hB)).mono ?_
  rintro e w2 ⟨rfl, hb2⟩
  go_wp2
  go_ret
  exact ⟨rfl, (st4_below b _ (mem_lt h) hB).trans (hb2.mono hB.size)⟩
set_option maxHeartbeats 1000000 in
theorem letters9_ (b : Nat) (m : M) (l : List UInt8) (hq : (wof m).2 = true) (hl : (wof m).1 = tx l) (w : World) (h : BenchAt b m w) : Calls Tryz.prog 50 #[.pointer (some ⟨b, 0, none⟩)] w
    fun e w' => e = .returned (.string (tx (dotL l))) ∧ Below w.heap.size (st4 w b m) w' := by
  have hM := bench_mem h
  have hB := Below.refl w.heap.size w
  have hC := mem_facts hM
  simp at hC
  have hW := fun w => WordOf_ m.a m.b m.c m.d w
  have hs := fun g c w hg => spelled1_ l g c w hg
  change ∀ w, Calls _ _ _ _ (fun E' W' => E' = .returned (.tuple #[.string (wof m).1, .bool (wof m).2]) ∧ _) at hW
  rw [hq, hl] at hW
  go_enter Tryz.func50, Tryz.ntmps50
  go_wp2_with (first | (go_at_call 88; refine (hW _).mono ?_; rintro e w' ⟨rfl, hb⟩; apply after_call (w := w) hb; (focus ((repeat' (first | (with_reducible exact hM) | (with_reducible apply mem_alloc) | (with_reducible apply mem_set) | (with_reducible apply mem_drew) | (with_reducible apply mem_drewN))); done)); (focus ((repeat' (first | (with_reducible exact hB) | (with_reducible exact Below.refl _ _) | (with_reducible refine Below.alloc ?_ ?_ _) | (with_reducible refine Below.setCell ?_ ?_ _) | (with_reducible refine Below.drew ?_) | (with_reducible refine below_drewN ?_ _) | (with_reducible exact Nat.le_refl _) | (with_reducible exact hB.size) | (simp [go_sem]; done) | (have := hB.size; simp [go_sem]; omega))); done)); (focus ((repeat' (first | (with_reducible exact hB) | (with_reducible exact Below.refl _ _) | (with_reducible refine Below.alloc ?_ ?_ _) | (with_reducible refine Below.setCell ?_ ?_ _) | (with_reducible refine Below.drew ?_) | (with_reducible refine below_drewN ?_ _) | (with_reducible exact Nat.le_refl _) | (with_reducible exact hB.size) | (simp [go_sem]; done) | (have := hB.size; simp [go_sem]; omega))); done)); clear hM hB hb; intro hM hB; (try clear hC); have hC := mem_facts hM; simp at hC) | (go_at_call 89; refine (hs _ _ _ (by simp [*, go_sem]; done)).mono ?_; rintro e w' ⟨rfl, hb⟩; apply after_call (w := w) hb; (focus ((repeat' (first | (with_reducible exact hM) | (with_reducible apply mem_alloc) | (with_reducible apply mem_set) | (with_reducible apply mem_drew) | (with_reducible apply mem_drewN))); done)); (focus ((repeat' (first | (with_reducible exact hB) | (with_reducible exact Below.refl _ _) | (with_reducible refine Below.alloc ?_ ?_ _) | (with_reducible refine Below.setCell ?_ ?_ _) | (with_reducible refine Below.drew ?_) | (with_reducible refine below_drewN ?_ _) | (with_reducible exact Nat.le_refl _) | (with_reducible exact hB.size) | (simp [go_sem]; done) | (have := hB.size; simp [go_sem]; omega))); done)); (focus ((repeat' (first | (with_reducible exact hB) | (with_reducible exact Below.refl _ _) | (with_reducible refine Below.alloc ?_ ?_ _) | (with_reducible refine Below.setCell ?_ ?_ _) | (with_reducible refine Below.drew ?_) | (with_reducible refine below_drewN ?_ _) | (with_reducible exact Nat.le_refl _) | (with_reducible exact hB.size) | (simp [go_sem]; done) | (have := hB.size; simp [go_sem]; omega))); done)); clear hM hB hb; intro hM hB; (try clear hC); have hC := mem_facts hM; simp at hC))
  go_ret
  exact ⟨rfl, st4_same' h (by (repeat' (first | (with_reducible exact hB) | (with_reducible exact Below.refl _ _) | (with_reducible refine Below.alloc ?_ ?_ _) | (with_reducible refine Below.setCell ?_ ?_ _) | (with_reducible refine Below.drew ?_) | (with_reducible refine below_drewN ?_ _) | (with_reducible exact Nat.le_refl _) | (with_reducible exact hB.size) | (simp [go_sem]; done) | (have := hB.size; simp [go_sem]; omega))))⟩
set_option maxHeartbeats 1000000 in
theorem trace9_ (b : Nat) (m : M) (n : Int) (hn : mtr m = (n, true)) (h0 : -9223372036854775808 ≤ n) (h1 : n ≤ 9223372036854775807) (w : World) (hT : TabB w.heap.size w) (h : BenchAt b m w) : Calls Tryz.prog 31 #[.pointer (some ⟨b, 0, none⟩)] w
    fun e w' => e = .returned (.string (tx (Lib.itoa n))) ∧ Below w.heap.size (st4 w b m) w' := by
  have hM := bench_mem h
  have hB := Below.refl w.heap.size w
  have hC := mem_facts hM
  simp at hC
  have hW := fun w => MatTrace_ m.a m.b m.c m.d w
  change ∀ w, Calls _ _ _ _ (fun E' W' => E' = .returned (.tuple #[.int .i64 (mtr m).1, .bool (mtr m).2]) ∧ _) at hW
  rw [hn] at hW
  go_enter Tryz.func31, Tryz.ntmps31
  go_wp2_with (first | (go_at_call 76; refine (hW _).mono ?_; rintro e w' ⟨rfl, hb⟩; apply after_call (w := w) hb; (focus ((repeat' (first | (with_reducible exact hM) | (with_reducible apply mem_alloc) | (with_reducible apply mem_set) | (with_reducible apply mem_drew) | (with_reducible apply mem_drewN))); done)); (focus ((repeat' (first | (with_reducible exact hB) | (with_reducible exact Below.refl _ _) | (with_reducible refine Below.alloc ?_ ?_ _) | (with_reducible refine Below.setCell ?_ ?_ _) | (with_reducible refine Below.drew ?_) | (with_reducible refine below_drewN ?_ _) | (with_reducible exact Nat.le_refl _) | (with_reducible exact hB.size) | (simp [go_sem]; done) | (have := hB.size; simp [go_sem]; omega))); done)); (focus ((repeat' (first | (with_reducible exact hB) | (with_reducible exact Below.refl _ _) | (with_reducible refine Below.alloc ?_ ?_ _) | (with_reducible refine Below.setCell ?_ ?_ _) | (with_reducible refine Below.drew ?_) | (with_reducible refine below_drewN ?_ _) | (with_reducible exact Nat.le_refl _) | (with_reducible exact hB.size) | (simp [go_sem]; done) | (have := hB.size; simp [go_sem]; omega))); done)); clear hM hB hb; intro hM hB; (try clear hC); have hC := mem_facts hM; simp at hC) | (go_at_call 77; refine (told1_ n h0 h1 _ _ _ (hT.later (by (repeat' (first | (with_reducible exact hB) | (with_reducible exact Below.refl _ _) | (with_reducible refine Below.alloc ?_ ?_ _) | (with_reducible refine Below.setCell ?_ ?_ _) | (with_reducible refine Below.drew ?_) | (with_reducible refine below_drewN ?_ _) | (with_reducible exact Nat.le_refl _) | (with_reducible exact hB.size) | (simp [go_sem]; done) | (have := hB.size; simp [go_sem]; omega))))) (by simp [*, go_sem]; done) (by simp)).mono ?_; rintro e w' ⟨rfl, hb⟩; apply after_call (w := w) hb; (focus ((repeat' (first | (with_reducible exact hM) | (with_reducible apply mem_alloc) | (with_reducible apply mem_set) | (with_reducible apply mem_drew) | (with_reducible apply mem_drewN))); done)); (focus ((repeat' (first | (with_reducible exact hB) | (with_reducible exact Below.refl _ _) | (with_reducible refine Below.alloc ?_ ?_ _) | (with_reducible refine Below.setCell ?_ ?_ _) | (with_reducible refine Below.drew ?_) | (with_reducible refine below_drewN ?_ _) | (with_reducible exact Nat.le_refl _) | (with_reducible exact hB.size) | (simp [go_sem]; done) | (have := hB.size; simp [go_sem]; omega))); done)); (focus ((repeat' (first | (with_reducible exact hB) | (with_reducible exact Below.refl _ _) | (with_reducible refine Below.alloc ?_ ?_ _) | (with_reducible refine Below.setCell ?_ ?_ _) | (with_reducible refine Below.drew ?_) | (with_reducible refine below_drewN ?_ _) | (with_reducible exact Nat.le_refl _) | (with_reducible exact hB.size) | (simp [go_sem]; done) | (have := hB.size; simp [go_sem]; omega))); done)); clear hM hB hb; intro hM hB; (try clear hC); have hC := mem_facts hM; simp at hC))
  go_ret
  exact ⟨rfl, st4_same' h (by (repeat' (first | (with_reducible exact hB) | (with_reducible exact Below.refl _ _) | (with_reducible refine Below.alloc ?_ ?_ _) | (with_reducible refine Below.setCell ?_ ?_ _) | (with_reducible refine Below.drew ?_) | (with_reducible refine below_drewN ?_ _) | (with_reducible exact Nat.le_refl _) | (with_reducible exact hB.size) | (simp [go_sem]; done) | (have := hB.size; simp [go_sem]; omega))))⟩
end Go.Proofs.YtpalgnfimelioaaGreatDoor

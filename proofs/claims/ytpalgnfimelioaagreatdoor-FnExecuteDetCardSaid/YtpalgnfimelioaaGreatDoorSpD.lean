
/- Chapter 9's line 'mat' and what det says, walked. Condition of what tells a number: the library's table of powers of ten lies as its text lays it. -/
import Derived.Test.YtpalgnfimelioaaGreatDoorSpC
namespace Go.Proofs.YtpalgnfimelioaaGreatDoor
open Go.RowKit Go.Shelf

def matT (a b c d : Int) : List UInt8 := spL ([a, b, c, d].map Lib.itoa)
def Sm (n : Int) : Prop := -99999 ≤ n ∧ n ≤ 99999
theorem itoa_short {n : Int} (h : Sm n) : (Lib.itoa n).length ≤ 6 := by
  unfold Lib.itoa
  split
  · have := dec_len 4 n.natAbs (by have := h.1; omega)
    simp only [List.length_cons]
    omega
  · have := dec_len 4 n.toNat (by have := h.2; omega)
    omega
theorem matT_len {a b c d : Int} (ha : Sm a) (hb : Sm b) (hc : Sm c) (hd : Sm d) : (matT a b c d).length ≤ 27 := by
  have h1 := itoa_short ha
  have h2 := itoa_short hb
  have h3 := itoa_short hc
  have h4 := itoa_short hd
  simp only [matT, List.map_cons, List.map_nil, spL, List.length_append, List.length_cons]
  omega
set_option maxHeartbeats 1000000 in
set_option maxRecDepth 100000 in
theorem restNumbers_ (a b c d : Int) (ha : Sm a) (hb : Sm b) (hc : Sm c) (hd : Sm d) (w : World) : Calls Tryz.prog 101 #[.string (tx (matT a b c d)), .int .i64 4] w
    fun e w' => ∃ g cap, e = .returned (.slice (some ⟨g, 0, none⟩) 4 cap) ∧ (w'.cell? ⟨g, 0, none⟩ = some (.int .i64 a) ∧ w'.cell? ⟨g, 1, none⟩ = some (.int .i64 b) ∧ w'.cell? ⟨g, 2, none⟩ = some (.int .i64 c) ∧ w'.cell? ⟨g, 3, none⟩ = some (.int .i64 d)) ∧ w.heap.size ≤ g ∧ Below w.heap.size w w' := by
  have hl := restList_ [a, b, c, d] (by simp) (by simp) (by
    intro n hn
    simp only [List.mem_cons, List.mem_nil_iff, or_false] at hn
    rcases hn with rfl | rfl | rfl | rfl <;> assumption) (by have := matT_len ha hb hc hd; unfold matT at this; omega)
  change ∀ w : World, Calls Tryz.prog 96 #[.string (tx (matT a b c d))] w _ at hl
  go_enter Tryz.func101, Tryz.ntmps101
  go_wp2_with (go_at_call 96; refine (hl w).mono ?_; rintro e w' ⟨v, rfl, hrow, hb'⟩; obtain ⟨g, cap, rfl⟩ := ownsRow_succ (k := 3) hrow; have hcs := hrow.cells (g := g) rfl; have hge := own_ge hrow (r := g) rfl)
  go_ret
  exact ⟨g, cap, rfl, ⟨hcs 0 _ rfl, hcs 1 _ rfl, hcs 2 _ rfl, hcs 3 _ rfl⟩, by omega, hb'⟩
set_option maxHeartbeats 1000000 in
theorem restMat_ (a b c d : Int) (sa : Sm a) (sb : Sm b) (sc : Sm c) (sd : Sm d) (w : World) : Calls Tryz.prog 94 #[.string (tx (matT a b c d))] w (fun E' W' => E' = .returned (.agg #[.int .i64 a, .int .i64 b, .int .i64 c, .int .i64 d]) ∧ Below w.heap.size w W') := by
  have hM := mem_nil w; have hB := Below.refl w.heap.size w; have hC := True.intro
  go_enter Tryz.func94, Tryz.ntmps94
  go_wp2_with (go_at_call 101; refine (restNumbers_ a b c d sa sb sc sd _).mono ?_; rintro e w' ⟨g, cap, rfl, ⟨h0, h1, h2, h3⟩, hge, hb⟩; apply after_call (w := w) hb; (focus ((repeat' (first | (with_reducible exact hM) | (with_reducible apply mem_alloc) | (with_reducible apply mem_set) | (with_reducible apply mem_drew) | (with_reducible apply mem_drewN))); done)); (focus ((repeat' (first | (with_reducible exact hB) | (with_reducible exact Below.refl _ _) | (with_reducible refine Below.alloc ?_ ?_ _) | (with_reducible refine Below.setCell ?_ ?_ _) | (with_reducible refine Below.drew ?_) | (with_reducible refine below_drewN ?_ _) | (with_reducible exact Nat.le_refl _) | (with_reducible exact hB.size) | (simp [go_sem]; done) | (have := hB.size; simp [go_sem]; omega))); done)); (focus ((repeat' (first | (with_reducible exact hB) | (with_reducible exact Below.refl _ _) | (with_reducible refine Below.alloc ?_ ?_ _) | (with_reducible refine Below.setCell ?_ ?_ _) | (with_reducible refine Below.drew ?_) | (with_reducible refine below_drewN ?_ _) | (with_reducible exact Nat.le_refl _) | (with_reducible exact hB.size) | (simp [go_sem]; done) | (have := hB.size; simp [go_sem]; omega))); done)); clear hM hB hb; intro hM hB; (try clear hC); have hC := mem_facts hM; simp at hC)
  go_region
  go_wp2
  obtain ⟨X, hX⟩ : ∃ X, X = ((((w'.setCell ⟨w.heap.size, 0, none⟩ (.int .i64 a)).setCell ⟨w.heap.size, 1, none⟩ (.int .i64 b)).setCell ⟨w.heap.size, 2, none⟩ (.int .i64 c)).setCell ⟨w.heap.size, 3, none⟩ (.int .i64 d)).drew := ⟨_, rfl⟩
  have hMX : Mem X [(w.heap.size, #[.int .i64 a, .int .i64 b, .int .i64 c, .int .i64 d], 25)] := by
    rw [hX]
    apply mem_drop 0
    · (repeat' (first | (with_reducible exact hM) | (with_reducible apply mem_alloc) | (with_reducible apply mem_set) | (with_reducible apply mem_drew) | (with_reducible apply mem_drewN)))
    · simp
  have hBX : Below w.heap.size w X := by rw [hX]; exact by (repeat' (first | (with_reducible exact hB) | (with_reducible exact Below.refl _ _) | (with_reducible refine Below.alloc ?_ ?_ _) | (with_reducible refine Below.setCell ?_ ?_ _) | (with_reducible refine Below.drew ?_) | (with_reducible refine below_drewN ?_ _) | (with_reducible exact Nat.le_refl _) | (with_reducible exact hB.size) | (simp [go_sem]; done) | (have := hB.size; simp [go_sem]; omega)))
  rw [← hX]
  have hCX := mem_facts hMX
  simp at hCX
  clear hX hM hC hB hMX
  refine bodyPost_ret (v := .agg #[.int .i64 a, .int .i64 b, .int .i64 c, .int .i64 d]) (by simp [results, Tryz.results94, go_sem, hCX.1]) rfl ?_
  exact ⟨rfl, hBX⟩
set_option maxHeartbeats 1000000 in
theorem mat9_ (p : Nat) (m : M) (a b c d : Int) (ha : Sm a) (hb : Sm b) (hc : Sm c) (hd : Sm d) (w : World) (h : BenchAt p m w) : Calls Tryz.prog 55 #[.pointer (some ⟨p, 0, none⟩), .string (tx (matT a b c d))] w
    fun e w' => e = .returned (.string (tx [111, 107])) ∧ Below w.heap.size (st4 w p ⟨a, b, c, d⟩) w' := by
  have hW := fun w => restMat_ a b c d ha hb hc hd w
  have hM := mem_nil w; have hB := Below.refl w.heap.size w; have hC := True.intro
  go_enter Tryz.func55, Tryz.ntmps55
  go_wp2_with (go_at_call 94; refine (hW _).mono ?_; rintro e w' ⟨rfl, hb⟩; apply after_call (w := w) hb; (focus ((repeat' (first | (with_reducible exact hM) | (with_reducible apply mem_alloc) | (with_reducible apply mem_set) | (with_reducible apply mem_drew) | (with_reducible apply mem_drewN))); done)); (focus ((repeat' (first | (with_reducible exact hB) | (with_reducible exact Below.refl _ _) | (with_reducible refine Below.alloc ?_ ?_ _) | (with_reducible refine Below.setCell ?_ ?_ _) | (with_reducible refine Below.drew ?_) | (with_reducible refine below_drewN ?_ _) | (with_reducible exact Nat.le_refl _) | (with_reducible exact hB.size) | (simp [go_sem]; done) | (have := hB.size; simp [go_sem]; omega))); done)); (focus ((repeat' (first | (with_reducible exact hB) | (with_reducible exact Below.refl _ _) | (with_reducible refine Below.alloc ?_ ?_ _) | (with_reducible refine Below.setCell ?_ ?_ _) | (with_reducible refine Below.drew ?_) | (with_reducible refine below_drewN ?_ _) | (with_reducible exact Nat.le_refl _) | (with_reducible exact hB.size) | (simp [go_sem]; done) | (have := hB.size; simp [go_sem]; omega))); done)); clear hM hB hb; intro hM hB; (try clear hC); have hC := mem_facts hM; simp at hC)
  refine (become_ p m _ _ _ _ _ (bench_below h hB)).mono ?_
  rintro e w2 ⟨rfl, hb2⟩
  go_wp2
  go_ret
  exact ⟨rfl, (st4_below p _ (mem_lt h) hB).trans (hb2.mono hB.size)⟩
end Go.Proofs.YtpalgnfimelioaaGreatDoor

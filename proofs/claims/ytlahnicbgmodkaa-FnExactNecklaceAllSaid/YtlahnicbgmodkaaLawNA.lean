
/- The exact law of 'NecklaceAll'. -/
import Derived.Test.YtlahnicbgmodkaaStrs
namespace Go.Proofs.Ytlahnicbgmodkaa
open Go.RowKit

theorem rdT_of_rowN {w : World} {base n : Nat} {v : Value} {xs : List (List UInt8)} {e : TypeId} (h : w.ownsRow base e 1 v n (xs.map strV)) (hn : xs.length = n) : RdT w v xs := by
  subst hn
  exact rdT_of_rowS h
theorem row_base {w : World} {base n : Nat} {v : Value} {xs : List Value} {e : TypeId} (h : w.ownsRow base e 1 v n xs) : ∀ j, v.ownBlock = some j → base ≤ j := by
  intro j hj
  rcases h.2 with ⟨rfl, _⟩ | ⟨g, cap, cur, rfl, hb, _⟩
  · simp [Value.ownBlock] at hj
  · obtain rfl : g = j := by simpa [Value.ownBlock] using hj
    exact hb
theorem row_blk {w : World} {base n g cap : Nat} {xs : List Value} {e : TypeId} (h : w.ownsRow base e 1 (.slice (some ⟨g, 0, none⟩) n cap) n xs) : g < w.heap.size := by
  rcases h.2 with ⟨h0, _⟩ | ⟨g', cap', cur, h0, _, hg, _⟩
  · cases h0
  · cases h0
    exact mem_lt hg
set_option maxHeartbeats 2000000 in
theorem sNecklaceAll_no (t : Int) (ht : ¬ (3 ≤ t ∧ t ≤ 30)) (w : World) : Calls Try.prog 5 #[.int .i64 t] w fun e w' => ∃ v, e = .returned (.tuple #[v, .bool false]) ∧ RowS w' w.heap.size v [] ∧ Below w.heap.size w w' := by
  have hno : trB t = false := by
    cases h : trB t
    · rfl
    · exact absurd (trB_iff.1 h) ht
  have hI : ∀ W : World, Calls Try.prog 12 #[.int .i64 t, .int .i64 3, .int .i64 30] W (fun E' W' => E' = .returned (.bool false) ∧ W' = W) := fun W => by
    exact (l6In4_ t W).mono fun e w' ⟨he, hw⟩ => ⟨by rw [he, hno], hw.symm⟩
  have hM := mem_nil w; have hB := Below.refl w.heap.size w; have hC := True.intro
  go_enter Try.func5, Try.ntmps5
  go_wp2_with fail
  go_at_call 12
  refine (hI _).mono ?_
  rintro e w' ⟨rfl, rfl⟩
  go_wp2_with fail
  go_ret2
  exact ⟨_, rfl, ⟨w'.heap.size, 0, rfl, row_ofS (L := [(w'.heap.size, #[], 9)]) (by (repeat' (first | (with_reducible exact hM) | (with_reducible apply mem_alloc) | (with_reducible apply mem_set) | (with_reducible apply mem_drew) | (with_reducible apply mem_drewN)))) (by simp) (Nat.le_refl _)⟩, by (repeat' (first | (with_reducible exact hB) | (with_reducible exact Below.refl _ _) | (with_reducible refine Below.alloc ?_ ?_ _) | (with_reducible refine Below.setCell ?_ ?_ _) | (with_reducible refine Below.drew ?_) | (with_reducible refine below_drewN ?_ _) | (with_reducible exact Nat.le_refl _) | (with_reducible exact hB.size) | (simp [go_sem]; done) | (have := hB.size; simp [go_sem]; omega)))⟩
set_option maxHeartbeats 2000000 in
theorem NecklaceAll_no (t : Int) (ht : ¬ (3 ≤ t ∧ t ≤ 30)) (w : World) : Calls Try.prog 6 #[.int .i64 t] w fun e w' => ∃ v, e = .returned (.tuple #[v, .bool false]) ∧ w'.ownsRow w.heap.size 9 1 v ([] : List (List UInt8)).length (([] : List (List UInt8)).map strV) ∧ Below w.heap.size w w' := by
  by_cases h1 : t < 3
  · have h2 : (3 ≤ t) = False := by simp; omega
    have hM := mem_nil w; have hB := Below.refl w.heap.size w; have hC := True.intro
    go_enter Try.func6, Try.ntmps6
    go_wp2_with fail
    go_ret2
    exact ⟨_, rfl, World.ownsRow_nil _ _ _ _, by (repeat' (first | (with_reducible exact hB) | (with_reducible exact Below.refl _ _) | (with_reducible refine Below.alloc ?_ ?_ _) | (with_reducible refine Below.setCell ?_ ?_ _) | (with_reducible refine Below.drew ?_) | (with_reducible refine below_drewN ?_ _) | (with_reducible exact Nat.le_refl _) | (with_reducible exact hB.size) | (simp [go_sem]; done) | (have := hB.size; simp [go_sem]; omega)))⟩
  · have h2 : (t ≤ 30) = False := by simp; omega
    have h3 : (30 < t) = True := by simp; omega
    have hM := mem_nil w; have hB := Below.refl w.heap.size w; have hC := True.intro
    go_enter Try.func6, Try.ntmps6
    go_wp2_with fail
    go_ret2
    exact ⟨_, rfl, World.ownsRow_nil _ _ _ _, by (repeat' (first | (with_reducible exact hB) | (with_reducible exact Below.refl _ _) | (with_reducible refine Below.alloc ?_ ?_ _) | (with_reducible refine Below.setCell ?_ ?_ _) | (with_reducible refine Below.drew ?_) | (with_reducible refine below_drewN ?_ _) | (with_reducible exact Nat.le_refl _) | (with_reducible exact hB.size) | (simp [go_sem]; done) | (have := hB.size; simp [go_sem]; omega)))⟩
set_option maxHeartbeats 4000000 in
theorem lawAll (t : Int) (L : List (List UInt8)) (ok : Bool) (hL : L.length ≤ 6525)
    (h1 : ∀ W : World, Calls Try.prog 6 #[.int .i64 t] W fun e w' => ∃ v, e = .returned (.tuple #[v, .bool ok]) ∧ w'.ownsRow W.heap.size 9 1 v L.length (L.map strV) ∧ Below W.heap.size W w')
    (h2 : ∀ W : World, Calls Try.prog 5 #[.int .i64 t] W fun e w' => ∃ v, e = .returned (.tuple #[v, .bool ok]) ∧ RowS w' W.heap.size v L ∧ Below W.heap.size W w') (w : World) : Calls Try.prog 3 #[.int .i64 t] w (fun E' W' => E' = .returned (.bool true) ∧ Below w.heap.size w W') := by
  have hM := mem_nil w; have hB := Below.refl w.heap.size w; have hC := True.intro
  go_enter Try.func3, Try.ntmps3
  go_wp2_with fail
  go_at_call 5
  refine (h2 _).mono ?_
  rintro e w1 ⟨v1, rfl, ⟨g1, c1, rfl, hR1⟩, hb1⟩
  go_wp2_with fail
  go_at_call 6
  refine (h1 _).mono ?_
  rintro e w2 ⟨v2, rfl, hR2, hb2⟩
  have hB2 : Below w.heap.size w w2 := hb1.trans (hb2.mono hb1.size)
  have hS2 := row_keep hR1 hb2
  have hs1 : w.heap.size ≤ w1.heap.size := hb1.size
  have hg1 := row_blk hR1
  clear hR1 hb1 hb2 hM hC hB
  go_wp2_with fail
  go_at_call 7
  refine (eqStringS_same _ _ L (by omega) w2 (rdT_of_rowS hR2) (rdT_of_rowS hS2)).mono ?_
  rintro e w3 ⟨rfl, hb⟩
  have hR3 := row_keep hR2 hb
  have hS3 := row_keep hS2 hb
  have hB3 : Below w.heap.size w w3 := hB2.trans (hb.mono hB2.size)
  clear hR2 hS2 hB2 hb
  go_wp2_with fail
  go_at_call 8
  refine (markStringS_ _ _ L (by omega) w3 hR3).mono ?_
  rintro e w4 ⟨rfl, hR4, hg⟩
  have hS4 := hS3.kept hg (.inr (rowBlk_ne hR3 hg1).symm)
  have hB4 : Below w.heap.size w w4 := hB3.grown hg hB3.size (fun j hj => Nat.le_trans hs1 (row_base hR3 j hj))
  clear hR3 hS3 hB3 hg
  have hneg : (((L.length : Nat) : Int) + 1 < 0) = False := by simp; omega
  go_wp2_with fail
  go_at_call 9
  refine (heldStringS_ _ L.length (by omega) w4 (rdT_of_rowN hR4 (upT_len _))).mono ?_
  rintro e w5 ⟨rfl, hb⟩
  have hR5 := row_keep hR4 hb
  have hS5 := row_keep hS4 hb
  have hB5 : Below w.heap.size w w5 := hB4.trans (hb.mono hB4.size)
  clear hR4 hS4 hB4 hb
  go_wp2_with fail
  go_at_call 6
  refine (h1 _).mono ?_
  rintro e w6 ⟨v6, rfl, hR6, hb⟩
  have hV6 := row_keep hR5 hb
  have hS6 := row_keep hS5 hb
  have hB6 : Below w.heap.size w w6 := hB5.trans (hb.mono hB5.size)
  clear hR5 hS5 hB5 hb
  go_wp2_with fail
  go_at_call 7
  refine (eqStringS_same _ _ L (by omega) w6 (rdT_of_rowS hR6) (rdT_of_rowS hS6)).mono ?_
  rintro e w7 ⟨rfl, hb⟩
  have hV7 := row_keep hV6 hb
  have hB7 : Below w.heap.size w w7 := hB6.trans (hb.mono hB6.size)
  clear hR6 hS6 hV6 hB6 hb
  go_wp2_with fail
  go_at_call 9
  refine (heldStringS_ _ L.length (by omega) w7 (rdT_of_rowN hV7 (upT_len _))).mono ?_
  rintro e w8 ⟨rfl, hb⟩
  have hB8 : Below w.heap.size w w8 := hB7.trans (hb.mono hB7.size)
  clear hV7 hB7 hb
  go_wp2_with fail
  go_ret
  exact ⟨rfl, hB8⟩
theorem lawNecklaceAll (t : Int) (w : World) : Calls Try.prog 3 #[.int .i64 t] w (fun E' W' => E' = .returned (.bool true) ∧ Below w.heap.size w W') := by
  by_cases ht : 3 ≤ t ∧ t ≤ 30
  · exact lawAll t (nkl t.toNat) true (nkl_len (t := t.toNat) (by omega)) (fun W => NecklaceAll_ t ht W) (fun W => sNecklaceAll_ t ht W) w
  · exact lawAll t [] false (by simp) (fun W => NecklaceAll_no t ht W) (fun W => sNecklaceAll_no t ht W) w
end Go.Proofs.Ytlahnicbgmodkaa

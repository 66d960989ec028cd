
/- The program's and the model's lists of necklaces; walked. -/
import Derived.Test.YthpbdcookhpdaaaNecS
namespace Go.Proofs.Ythpbdcookhpdaaa
open Go.RowKit Go.Shelf Go.Lib

set_option maxHeartbeats 2000000 in
theorem sNecklaceAll_ (t : Int) (ht : 3 ≤ t ∧ t ≤ 30) (w : World) : Calls Try.prog 6 #[.int .i64 t] w fun e w' => ∃ v, e = .returned (.tuple #[v, .bool true]) ∧ RowS w' w.heap.size v (nkl t.toNat) ∧ Below w.heap.size w w' := by
  obtain ⟨n, rfl⟩ : ∃ n : Nat, t = (n : Int) := ⟨t.toNat, by omega⟩
  have hn : 3 ≤ n ∧ n ≤ 30 := by omega
  have hI : ∀ W : World, Calls Try.prog 15 #[.int .i64 n, .int .i64 3, .int .i64 30] W (fun E' W' => E' = .returned (.bool true) ∧ W' = W) := fun W => by
    exact (l6In4_ (n : Int) W).mono fun e w' ⟨he, hw⟩ => ⟨by rw [he, trB_iff.2 ht], hw.symm⟩
  rw [Int.toNat_natCast]
  have hM := mem_nil w; have hB := Below.refl w.heap.size w; have hC := True.intro
  go_enter Try.func6, Try.ntmps6
  go_wp2_with fail
  go_at_call 15
  refine (hI _).mono ?_
  rintro e w' ⟨rfl, rfl⟩
  go_wp2_with fail
  go_at_call 16
  refine (l4All_ n hn _).mono ?_
  rintro e w1 ⟨v, rfl, hR, hb⟩
  go_wp2_with fail
  go_ret2
  exact ⟨v, rfl, hR, hb⟩
/-- at the head of a round: the first k are listed -/
def NlR (L : List (List UInt8)) (w : World) (g : Nat) (v k : Value) (wr : World) : Prop := ∃ n : Nat, n + g = L.length ∧ k = .int .i64 (n : Int) ∧ wr.ownsRow w.heap.size 9 1 v n ((L.take n).map strV) ∧ Below w.heap.size w wr
set_option maxRecDepth 100000 in
set_option maxHeartbeats 4000000 in
theorem NecklaceAll_ (t : Int) (ht : 3 ≤ t ∧ t ≤ 30) (w : World) : Calls Try.prog 5 #[.int .i64 t] w fun e w' => ∃ v, e = .returned (.tuple #[v, .bool true]) ∧ w'.ownsRow w.heap.size 9 1 v (nkl t.toNat).length ((nkl t.toNat).map strV) ∧ Below w.heap.size w w' := by
  obtain ⟨n, rfl⟩ : ∃ n : Nat, t = (n : Int) := ⟨t.toNat, by omega⟩
  have hn : 3 ≤ n ∧ n ≤ 30 := by omega
  have hL := nkl_len hn
  rw [Int.toNat_natCast]
  have hM := mem_nil w; have hB := Below.refl w.heap.size w; have hC := True.intro
  go_enter Try.func5, Try.ntmps5
  go_wp2_with fail
  go_at_call 14
  refine (necklacesWith_ n hn _).mono ?_
  rintro e w1 ⟨vw, rfl, hR, hb1⟩
  rw [all_one hn.1] at hR
  change w1.ownsRow w.heap.size 42 1 vw (nkl n).length ((nkl n).map strV) at hR
  obtain ⟨L, hLn⟩ : ∃ L, L = nkl n := ⟨_, rfl⟩
  rw [← hLn] at hR hL
  have HLN := Lib.hid hLn
  clear hLn
  obtain ⟨ao, cap, rfl, hrd⟩ := rdT_of_row hR
  have hs1 := hb1.size
  have HRD := Lib.hid hrd
  have HB1 := Lib.hid hb1
  clear hR hrd hM hB hC hb1
  go_wp2_with fail
  go_loopg [4, 16] L.length (fun gk v k wr => NlR L w1 gk v k wr)
  case atStart => exact ⟨0, by omega, rfl, World.ownsRow_nil _ _ _ _, Below.refl _ _⟩
  case round =>
    obtain ⟨k, hk, rfl, hR, hB⟩ := hrel
    by_cases hlt : k < L.length
    · obtain ⟨g, rfl, hc⟩ := HRD.out k hlt
      have hcw : wr.cell? ⟨g, k, none⟩ = some (strV (L.getD k [])) := (hB.cell (p := ⟨g, k, none⟩) (World.block_lt_of_cell? w1 _ hc)).trans hc
      clear hc
      have HT := Lib.hid (show L.take (k + 1) = L.take k ++ [L.getD k []] from by
        rw [List.take_succ_eq_append_getElem hlt, show L.getD k [] = L[k] from by simp [List.getD, hlt]])
      unfold strV at hcw
      generalize L.getD k [] = x at *
      obtain ⟨i0, hi, hz0, hz1, hz2⟩ := info_parts infoStr
      obtain ⟨w, hww⟩ : ∃ x : World, x = w1 := ⟨_, rfl⟩
      rw [← hww] at hR hB
      go_wp2_with (at_builtin; refine wpList_append_own _ rfl _ _ 24 rfl w.heap.size 9 i0 (.string ⟨#[]⟩) 1 16 Try.underlying24 hi hz0 hz1 hz2 rfl (by decide) _ _ _ rfl (hR.alloc _) ⟨_, 0, none⟩ 1 1 [.string (txt x)] rfl rfl (cell_one_new _ _ _) (by simp [Value.oneCell']) (by simp [maxLen]; omega) (by first | omega | (simp; omega)) (by have := hB.size; simp; omega) ?_; intro v' w1 hown' hgrow _; obtain ⟨g', cap', rfl⟩ := ownsRow_succ hown'; apply after_app (w := w) (A := wr) (L := []) hgrow (hR.alloc _) (mem_nil _) (by simp) (hB.alloc hB.size _) (by have := hB.size; simp; omega) (keeps_alloc (KeepsOthers.refl wr) _); clear hB hgrow hR; intro _ hB _; have hR := hown'; clear hown')
      subst hww
      go_roundg (gk - 1)
      case measure => omega
      case rel =>
        refine ⟨k + 1, by omega, by go_num, ?_, hB⟩
        rw [HT.out]
        simpa [strV] using hR
    · obtain rfl : k = L.length := by omega
      go_wp2_with fail
      go_ret2
      rw [List.take_of_length_le (Nat.le_refl _)] at hR
      rw [← HLN.out]
      exact ⟨_, rfl, ownsRow_base_a hR hs1, HB1.out.trans (hB.mono hs1)⟩
end Go.Proofs.Ythpbdcookhpdaaa

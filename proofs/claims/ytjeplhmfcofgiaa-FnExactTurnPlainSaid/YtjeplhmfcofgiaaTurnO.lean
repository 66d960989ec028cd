
/- Plain lists: plain, walked in the program and the model; the exact law. No condition. -/
import Derived.Test.YtjeplhmfcofgiaaTurnI
import Derived.Test.YtjeplhmfcofgiaaTurnS
import Derived.Test.YtjeplhmfcofgiaaTurnC
import Derived.Test.YtjeplhmfcofgiaaRowArg
namespace Go.Proofs.Ytjeplhmfcofgiaa
open Go.RowKit

/-- a number that is not from -1 to 1 -/
def ouB (x : Int) : Bool := !(decide (-1 ≤ x) && decide (x ≤ 1))
theorem ouB_iff {x : Int} : ouB x = true ↔ x < -1 ∨ 1 < x := by simp [ouB]
/-- no inner number is from -1 to 1 -/
def plB (zs : List Int) : Bool := decide (∀ i, i < zs.length - 1 → 1 ≤ i → ouB (zs.getD i 0) = true)
theorem plB_iff {zs : List Int} : plB zs = true ↔ ∀ i, i < zs.length - 1 → 1 ≤ i → ouB (zs.getD i 0) = true := by simp [plB]
theorem plB_no {zs : List Int} {k : Nat} (h1 : k < zs.length - 1) (h2 : 1 ≤ k) (h : ouB (zs.getD k 0) = false) : plB zs = false := by
  cases hp : plB zs
  · rfl
  · have := plB_iff.1 hp k h1 h2
    rw [h] at this; cases this
/-- a list that is plain -/
def prB (zs : List Int) : Bool := lsB zs && plB zs
/-- the inner numbers ahead of place k -/
def PlU (zs : List Int) (k : Nat) : Prop := ∀ i, i < k → 1 ≤ i → ouB (zs.getD i 0) = true
set_option maxHeartbeats 1000000 in
theorem plain_ (v : Value) (zs : List Int) (hz : zs.length ≤ 1000000000) (w : World) (hv : RdO w v zs) : Calls Try.prog 21 #[v] w (fun E' W' => E' = .returned (.bool (plB zs)) ∧ w = W') := by
  obtain ⟨ao, cap, rfl, _, hc⟩ := hv
  have HC := Lib.hid hc
  clear hc
  go_enter Try.func21, Try.ntmps21
  go_wp2
  go_loop [3] (fun i => ∃ k : Nat, 1 ≤ k ∧ (k ≤ zs.length - 1 ∨ k = 1) ∧ i = .int .i64 k ∧ PlU zs k) (fun i => zs.length - (intOf i).toNat)
  case atStart => exact ⟨1, Nat.le_refl _, .inr rfl, rfl, fun i h1 h2 => by omega⟩
  case round =>
    obtain ⟨k, hk1, hk2, rfl, ha⟩ := hrel
    have HA := Lib.hid ha
    clear ha
    by_cases hlt : k < zs.length - 1
    · obtain ⟨g, o, rfl, h3⟩ := HC.out k (by omega)
      have HN := Lib.hid (plB_no (zs := zs) hlt hk1)
      have hU : PlU zs k → ouB (zs.getD k 0) = true → PlU zs (k + 1) := fun h h' i h1 h2 => by
        by_cases e : i = k
        · subst e; exact h'
        · exact h i (by omega) h2
      have HU := Lib.hid hU
      clear hU
      generalize zs.getD k 0 = z at *
      by_cases h4 : -1 ≤ z
      · by_cases h5 : z ≤ 1
        · go_wp2
          go_ret
          exact ⟨by rw [HN.out (by simp [ouB]; omega)]; rfl, rfl⟩
        · go_wp2
          go_round
          case rel => exact ⟨k + 1, by omega, by omega, by go_num, HU.out HA.out (ouB_iff.2 (by omega))⟩
          case measure => simp [intOf]; omega
      · go_wp2
        go_round
        case rel => exact ⟨k + 1, by omega, by omega, by go_num, HU.out HA.out (ouB_iff.2 (by omega))⟩
        case measure => simp [intOf]; omega
    · have hp : plB zs = true := plB_iff.2 fun i h1 h2 => HA.out i (by omega) h2
      have HP := Lib.hid hp
      clear hp
      go_wp2
      go_ret
      exact ⟨by rw [HP.out]; rfl, rfl⟩
theorem TurnPlain_ (v : Value) (zs : List Int) (hz : zs.length ≤ 1000000000) (w : World) (hv : RdO w v zs) : Calls Try.prog 10 #[v] w (fun E' W' => E' = .returned (.bool (prB zs)) ∧ w = W') := by
  have HE := Lib.hid (show prB zs = (lsB zs && plB zs) from rfl)
  have h1 := fun W hv => turnsIn_ v zs hz W hv
  cases h : lsB zs
  all_goals
    rw [h] at h1
    rw [h] at HE
    clear h
    go_enter Try.func10, Try.ntmps10
    go_wp2_with (first | (go_at_call 20; refine (h1 _ hv).mono ?_; rintro e w' ⟨rfl, rfl⟩) | (go_at_call 21; refine (plain_ _ zs hz _ hv).mono ?_; rintro e w' ⟨rfl, rfl⟩))
    go_ret
    exact ⟨by rw [HE.out]; rfl, rfl⟩
set_option maxHeartbeats 1000000 in
theorem sTurnPlain_ (v : Value) (zs : List Int) (hz : zs.length ≤ 1000000000) (w : World) (hv : RdO w v zs) : Calls Try.prog 8 #[v] w (fun E' W' => E' = .returned (.bool (prB zs)) ∧ w = W') := by
  have hv0 := hv
  obtain ⟨ao, cap, rfl, _, hc⟩ := hv
  have HC := Lib.hid hc
  have HE := Lib.hid (show prB zs = (lsB zs && plB zs) from rfl)
  clear hc
  go_enter Try.func8, Try.ntmps8
  go_wp2
  go_loop [3] (fun i => ∃ k : Nat, 1 ≤ k ∧ (k ≤ zs.length - 1 ∨ k = 1) ∧ i = .int .i64 k ∧ PlU zs k) (fun i => zs.length - (intOf i).toNat)
  case atStart => exact ⟨1, Nat.le_refl _, .inr rfl, rfl, fun i h1 h2 => by omega⟩
  case round =>
    obtain ⟨k, hk1, hk2, rfl, ha⟩ := hrel
    have HA := Lib.hid ha
    clear ha
    by_cases hlt : k < zs.length - 1
    · obtain ⟨g, o, rfl, h3⟩ := HC.out k (by omega)
      have HN := Lib.hid (plB_no (zs := zs) hlt hk1)
      have hU : PlU zs k → ouB (zs.getD k 0) = true → PlU zs (k + 1) := fun h h' i h1 h2 => by
        by_cases e : i = k
        · subst e; exact h'
        · exact h i (by omega) h2
      have HU := Lib.hid hU
      clear hU
      generalize zs.getD k 0 = z at *
      have ho : l6B z (-1) 1 = !ouB z := by simp [l6B, ouB]
      cases h4 : ouB z
      · rw [h4] at ho
        go_wp2_with (first | (go_at_call 18; refine (l6In_ _ _ _ _).mono ?_; rintro e w' ⟨rfl, rfl⟩))
        go_ret
        exact ⟨by rw [HE.out, HN.out h4, Bool.and_false]; rfl, rfl⟩
      · rw [h4] at ho
        go_wp2_with (first | (go_at_call 18; refine (l6In_ _ _ _ _).mono ?_; rintro e w' ⟨rfl, rfl⟩))
        go_round
        case rel => exact ⟨k + 1, by omega, by omega, by go_num, HU.out HA.out h4⟩
        case measure => simp [intOf]; omega
    · have hp : plB zs = true := plB_iff.2 fun i h1 h2 => HA.out i (by omega) h2
      have HP := Lib.hid hp
      clear hp
      go_wp2_with (first | (go_at_call 19; refine (l3List_ _ zs hz _ hv0).mono ?_; rintro e w' ⟨rfl, rfl⟩))
      go_ret
      exact ⟨by rw [HE.out, HP.out, Bool.and_true]; rfl, rfl⟩
set_option maxHeartbeats 1000000 in
theorem lawTurnPlain (v : Value) (zs : List Int) (w : World) (hv : RdO w v zs) : Calls Try.prog 4 #[v] w (fun E' W' => E' = .returned (.bool true) ∧ Below w.heap.size w W') := by
  have hv0 := hv
  obtain ⟨ao, cap, rfl, _⟩ := hv
  by_cases hl : 1048576 < zs.length
  · have hM := mem_nil w; have hB := Below.refl w.heap.size w; have hC := True.intro
    go_enter Try.func4, Try.ntmps4
    go_wp2
    go_ret
    exact ⟨rfl, by (repeat' (first | (with_reducible exact hB) | (with_reducible exact Below.refl _ _) | (with_reducible refine Below.alloc ?_ ?_ _) | (with_reducible refine Below.setCell ?_ ?_ _) | (with_reducible refine Below.drew ?_) | (with_reducible refine below_drewN ?_ _) | (with_reducible exact Nat.le_refl _) | (with_reducible exact hB.size) | (simp [go_sem]; done) | (have := hB.size; simp [go_sem]; omega)))⟩
  · have hz : zs.length ≤ 1000000000 := by omega
    have hS := fun v W hv => sTurnPlain_ v zs hz W hv
    have hI := fun v W hv => TurnPlain_ v zs hz W hv
    generalize prB zs = ok at *
    have hM := mem_nil w; have hB := Below.refl w.heap.size w; have hC := True.intro
    go_enter Try.func4, Try.ntmps4
    go_wp2_with (first | (go_at_call 9; refine (toIntS_ _ zs hz _ (hv0.below (by (repeat' (first | (with_reducible exact hB) | (with_reducible exact Below.refl _ _) | (with_reducible refine Below.alloc ?_ ?_ _) | (with_reducible refine Below.setCell ?_ ?_ _) | (with_reducible refine Below.drew ?_) | (with_reducible refine below_drewN ?_ _) | (with_reducible exact Nat.le_refl _) | (with_reducible exact hB.size) | (simp [go_sem]; done) | (have := hB.size; simp [go_sem]; omega)))))).mono ?_; rintro e w' ⟨rfl, hn, hb⟩; apply after_new (w := w) hb hn; (focus ((repeat' (first | (with_reducible exact hM) | (with_reducible apply mem_alloc) | (with_reducible apply mem_set) | (with_reducible apply mem_drew) | (with_reducible apply mem_drewN))); done)); (focus ((repeat' (first | (with_reducible exact hB) | (with_reducible exact Below.refl _ _) | (with_reducible refine Below.alloc ?_ ?_ _) | (with_reducible refine Below.setCell ?_ ?_ _) | (with_reducible refine Below.drew ?_) | (with_reducible refine below_drewN ?_ _) | (with_reducible exact Nat.le_refl _) | (with_reducible exact hB.size) | (simp [go_sem]; done) | (have := hB.size; simp [go_sem]; omega))); done)); (focus ((repeat' (first | (with_reducible exact hB) | (with_reducible exact Below.refl _ _) | (with_reducible refine Below.alloc ?_ ?_ _) | (with_reducible refine Below.setCell ?_ ?_ _) | (with_reducible refine Below.drew ?_) | (with_reducible refine below_drewN ?_ _) | (with_reducible exact Nat.le_refl _) | (with_reducible exact hB.size) | (simp [go_sem]; done) | (have := hB.size; simp [go_sem]; omega))); done)); clear hM hB hb hn; intro hM hB; (try clear hC); have hC := mem_facts hM; simp at hC) | (go_at_call 8; refine (hS _ _ (rdO_mem (t := 3) (by (repeat' (first | (with_reducible exact hM) | (with_reducible apply mem_alloc) | (with_reducible apply mem_set) | (with_reducible apply mem_drew) | (with_reducible apply mem_drewN)))) (by simp))).mono ?_; rintro e w' ⟨rfl, rfl⟩) | (go_at_call 10; refine (hI _ _ (rdO_mem (t := 3) (by (repeat' (first | (with_reducible exact hM) | (with_reducible apply mem_alloc) | (with_reducible apply mem_set) | (with_reducible apply mem_drew) | (with_reducible apply mem_drewN)))) (by simp))).mono ?_; rintro e w' ⟨rfl, rfl⟩) | (go_at_call 11; refine (eqIntS_same _ _ zs hz _ (readsI_mem (t := 3) (by (repeat' (first | (with_reducible exact hM) | (with_reducible apply mem_alloc) | (with_reducible apply mem_set) | (with_reducible apply mem_drew) | (with_reducible apply mem_drewN)))) (by simp)) (readsI_mem (t := 3) (by (repeat' (first | (with_reducible exact hM) | (with_reducible apply mem_alloc) | (with_reducible apply mem_set) | (with_reducible apply mem_drew) | (with_reducible apply mem_drewN)))) (by simp))).mono ?_; rintro e w' ⟨rfl, hb⟩; apply after_call (w := w) hb; (focus ((repeat' (first | (with_reducible exact hM) | (with_reducible apply mem_alloc) | (with_reducible apply mem_set) | (with_reducible apply mem_drew) | (with_reducible apply mem_drewN))); done)); (focus ((repeat' (first | (with_reducible exact hB) | (with_reducible exact Below.refl _ _) | (with_reducible refine Below.alloc ?_ ?_ _) | (with_reducible refine Below.setCell ?_ ?_ _) | (with_reducible refine Below.drew ?_) | (with_reducible refine below_drewN ?_ _) | (with_reducible exact Nat.le_refl _) | (with_reducible exact hB.size) | (simp [go_sem]; done) | (have := hB.size; simp [go_sem]; omega))); done)); (focus ((repeat' (first | (with_reducible exact hB) | (with_reducible exact Below.refl _ _) | (with_reducible refine Below.alloc ?_ ?_ _) | (with_reducible refine Below.setCell ?_ ?_ _) | (with_reducible refine Below.drew ?_) | (with_reducible refine below_drewN ?_ _) | (with_reducible exact Nat.le_refl _) | (with_reducible exact hB.size) | (simp [go_sem]; done) | (have := hB.size; simp [go_sem]; omega))); done)); clear hM hB hb; intro hM hB; (try clear hC); have hC := mem_facts hM; simp at hC))
    go_ret
    exact ⟨rfl, by (repeat' (first | (with_reducible exact hB) | (with_reducible exact Below.refl _ _) | (with_reducible refine Below.alloc ?_ ?_ _) | (with_reducible refine Below.setCell ?_ ?_ _) | (with_reducible refine Below.drew ?_) | (with_reducible refine below_drewN ?_ _) | (with_reducible exact Nat.le_refl _) | (with_reducible exact hB.size) | (simp [go_sem]; done) | (have := hB.size; simp [go_sem]; omega)))⟩
theorem goTurnPlain (A : Option Addr) (len cap : Nat) (zs : List Int) (w : World) (h : IsRow .i64 w A len cap zs) : Calls Try.prog 4 #[.slice A len cap] w (fun E' W' => E' = .returned (.bool true) ∧ Below w.heap.size w W') := lawTurnPlain _ _ w (rdO_arg h)
end Go.Proofs.Ytjeplhmfcofgiaa


/- Plain lists: plain, walked in the program and the model; the exact law. No condition. -/
import Derived.Test.YtbpaklcibkifnaaDoorTurnI
import Derived.Test.YtbpaklcibkifnaaDoorTurnS
import Derived.Test.YtbpaklcibkifnaaDoorTurnC
import Derived.Test.YtbpaklcibkifnaaDoorRowArg
namespace Go.Proofs.YtbpaklcibkifnaaDoor
open Go.RowKit

/-- a number that is not from -1 to 1 -/
def ouB (x : Int) : Bool := !(decide (-1 ≤ x) && decide (x ≤ 1))
theorem ouB_iff {x : Int} : ouB x = true ↔ x < -1 ∨ 1 < x := by simp [ouB]
/-- no inner number is from -1 to 1 -/
def plB (zs : List Int) : Bool := decide (∀ i, i < zs.length - 1 → 1 ≤ i → ouB (zs.getD i 0) = true)
theorem plB_iff {zs : List Int} : plB zs = true ↔ ∀ i, i < zs.length - 1 → 1 ≤ i → ouB (zs.getD i 0) = true := by simp [plB]
theorem plB_no {zs : List Int} {k : Nat} (h1 : k < zs.length - 1) (h2 : 1 ≤ k) (h : ouB (zs.getD k 0) = false) : plB zs = false := by
  cases hp : plB zs
  · rfl
  · have := plB_iff.1 hp k h1 h2
    rw [h] at this; cases this
/-- a list that is plain -/
def prB (zs : List Int) : Bool := lsB zs && plB zs
/-- the inner numbers ahead of place k -/
def PlU (zs : List Int) (k : Nat) : Prop := ∀ i, i < k → 1 ≤ i → ouB (zs.getD i 0) = true
set_option maxHeartbeats 1000000 in
theorem plain_ (v : Value) (zs : List Int) (hz : zs.length ≤ 1000000000) (w : World) (hv : RdO w v zs) : Calls Tryd.prog 40 #[v] w (fun E' W' => E' = .returned (.bool (plB zs)) ∧ w = W') := by
  obtain ⟨ao, cap, rfl, _, hc⟩ := hv
  have HC := Lib.hid hc
  clear hc
  go_enter Tryd.func40, Tryd.ntmps40
  go_wp2
  go_loop [3] (fun i => ∃ k : Nat, 1 ≤ k ∧ (k ≤ zs.length - 1 ∨ k = 1) ∧ i = .int .i64 k ∧ PlU zs k) (fun i => zs.length - (intOf i).toNat)
  case atStart => exact ⟨1, Nat.le_refl _, .inr rfl, rfl, fun i h1 h2 => by omega⟩
  case round =>
    obtain ⟨k, hk1, hk2, rfl, ha⟩ := hrel
    have HA := Lib.hid ha
    clear ha
    by_cases hlt : k < zs.length - 1
    · obtain ⟨g, o, rfl, h3⟩ := HC.out k (by omega)
      have HN := Lib.hid (plB_no (zs := zs) hlt hk1)
      have hU : PlU zs k → ouB (zs.getD k 0) = true → PlU zs (k + 1) := fun h h' i h1 h2 => by
        by_cases e : i = k
        · subst e; exact h'
        · exact h i (by omega) h2
      have HU := Lib.hid hU
      clear hU
      generalize zs.getD k 0 = z at *
      by_cases h4 : -1 ≤ z
      · by_cases h5 : z ≤ 1
        · go_wp2
          go_ret
          exact ⟨by rw [HN.out (by simp [ouB]; omega)]; rfl, rfl⟩
        · go_wp2
          go_round
          case rel => exact ⟨k + 1, by omega, by omega, by go_num, HU.out HA.out (ouB_iff.2 (by omega))⟩
          case measure => simp [intOf]; omega
      · go_wp2
        go_round
        case rel => exact ⟨k + 1, by omega, by omega, by go_num, HU.out HA.out (ouB_iff.2 (by omega))⟩
        case measure => simp [intOf]; omega
    · have hp : plB zs = true := plB_iff.2 fun i h1 h2 => HA.out i (by omega) h2
      have HP := Lib.hid hp
      clear hp
      go_wp2
      go_ret
      exact ⟨by rw [HP.out]; rfl, rfl⟩
theorem TurnPlain_ (v : Value) (zs : List Int) (hz : zs.length ≤ 1000000000) (w : World) (hv : RdO w v zs) : Calls Tryd.prog 15 #[v] w (fun E' W' => E' = .returned (.bool (prB zs)) ∧ w = W') := by
  have HE := Lib.hid (show prB zs = (lsB zs && plB zs) from rfl)
  have h1 := fun W hv => turnsIn_ v zs hz W hv
  cases h : lsB zs
  all_goals
    rw [h] at h1
    rw [h] at HE
    clear h
    go_enter Tryd.func15, Tryd.ntmps15
    go_wp2_with (first | (go_at_call 22; refine (h1 _ hv).mono ?_; rintro e w' ⟨rfl, rfl⟩) | (go_at_call 40; refine (plain_ _ zs hz _ hv).mono ?_; rintro e w' ⟨rfl, rfl⟩))
    go_ret
    exact ⟨by rw [HE.out]; rfl, rfl⟩
end Go.Proofs.YtbpaklcibkifnaaDoor

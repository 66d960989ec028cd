
/- 'pick', for every reader and every number: it returns a number below n, not negative, or 0; it changes its reader alone. -/
import Derived.Test.YtpalgnfimelioaaGreatDoorDrawA
namespace Go.Proofs.YtpalgnfimelioaaGreatDoor
open Go.RowKit

theorem pick_end {w : World} {R B q m c : Nat} {A : Option Addr} {p n v : Int} {z : Nat → Int} (hw : w.heap[R]? = some (.cells #[.slice A m c, .int .i64 p] 72 (0, 0)))
    (hp0 : 0 ≤ p) (hpq : p ≤ q) (hm : m ≤ 2000) (hmc : m ≤ c) (hz : ∀ i, 0 ≤ z i ∧ z i ≤ 255)
    (hb : 0 < m → ∃ b off, A = some ⟨b, off, none⟩ ∧ (b < R ∧ b < B) ∧ ∀ i, i < m → w.cell? ⟨b, off + i, none⟩ = some (.int .u8 (z i)))
    (hv : 0 ≤ v ∧ (1 ≤ n → v < n) ∧ (n < 1 → v = 0)) (k : Nat) :
    PickPost n R B q w (.returned (.int .i64 v)) ((w.setCell ⟨R, 1, none⟩ (.int .i64 (p + 1))).drewN k) := by
  refine ⟨v, rfl, hv, ?_, ((Since.refl R w).setCell (.inl rfl) _).drewN k⟩
  refine Rdr.drewN ?_ k
  refine ⟨A, m, c, p + 1, z, ?_, by omega, by omega, hm, hmc, hz, fun h => ?_⟩
  · simp [World.setCell, Array.getElem?_modify, hw]
  · obtain ⟨b, off, e, hbR, hc⟩ := hb h
    exact ⟨b, off, e, hbR, fun i hi => (World.cell?_setCell_other w _ _ _ (by have := hbR.1; intro e; injection e; omega)).trans (hc i hi)⟩
theorem pick_end0 {w : World} {R B q m c : Nat} {A : Option Addr} {p n v : Int} {z : Nat → Int} (hw : w.heap[R]? = some (.cells #[.slice A m c, .int .i64 p] 72 (0, 0)))
    (hp0 : 0 ≤ p) (hpq : p ≤ q) (hm : m ≤ 2000) (hmc : m ≤ c) (hz : ∀ i, 0 ≤ z i ∧ z i ≤ 255)
    (hb : 0 < m → ∃ b off, A = some ⟨b, off, none⟩ ∧ (b < R ∧ b < B) ∧ ∀ i, i < m → w.cell? ⟨b, off + i, none⟩ = some (.int .u8 (z i)))
    (hv : 0 ≤ v ∧ (1 ≤ n → v < n) ∧ (n < 1 → v = 0)) :
    PickPost n R B q w (.returned (.int .i64 v)) (w.setCell ⟨R, 1, none⟩ (.int .i64 (p + 1))) := pick_end hw hp0 hpq hm hmc hz hb hv 0

theorem tmod_bd {x n : Int} (hx : 0 ≤ x) (hn : 1 ≤ n) : 0 ≤ x.tmod n ∧ x.tmod n < n := by
  rw [Int.tmod_eq_emod_of_nonneg hx]
  exact ⟨Int.emod_nonneg _ (by omega), Int.emod_lt_of_pos _ (by omega)⟩
set_option maxHeartbeats 1000000 in
theorem pick_ (R B q : Nat) (n : Int) (w : World) (hR : Rdr w R B q) (hq : q ≤ 1000000) : Calls Tryz.prog 15 #[.pointer (some ⟨R, 0, none⟩), .int .i64 n] w (PickPost n R B q w) := by
  obtain ⟨A, m, c, p, z, hw, hp0, hpq, hm, hmc, hz, hb⟩ := hR
  have hc0 : w.cell? ⟨R, 0, none⟩ = some (.slice A m c) := cell_of_row w R 0 _ _ _ hw
  have hc1 : w.cell? ⟨R, 1, none⟩ = some (.int .i64 p) := cell_of_row w R 1 _ _ _ hw
  have hf : ∀ o, w.frozen? ⟨R, o, none⟩ = false := fun o => by simp [World.frozen?, hw]
  have HW := Lib.hid hw
  have HB := Lib.hid hb
  have HZ := Lib.hid hz
  clear hw hb hz
  have hq' : p ≤ 1000000 := by omega
  by_cases hn : n < 1
  · go_enter Tryz.func15, Tryz.ntmps15
    go_wp2
    go_ret
    exact pick_end0 HW.out hp0 hpq hm hmc HZ.out HB.out ⟨by omega, by omega, by omega⟩
  · by_cases hm0 : m = 0
    · subst hm0
      go_enter Tryz.func15, Tryz.ntmps15
      go_wp2
      go_ret
      exact pick_end0 HW.out hp0 hpq hm hmc HZ.out HB.out ⟨by omega, by omega, by omega⟩
    · obtain ⟨b, off, rfl, hbR, hcb⟩ := HB.out (by omega)
      have HCB := Lib.hid hcb
      clear hcb
      have hm1 : ((m : Int) == 0) = false := by simp; omega
      have hRb : (R = b) = False := by have := hbR.1; simp; omega
      have hbR' : (b = R) = False := by have := hbR.1; simp; omega
      by_cases hlt : p < m
      · obtain ⟨k, rfl⟩ : ∃ k : Nat, p = k := ⟨p.toNat, by omega⟩
        have hcell := HCB.out k (by omega)
        have hzk := HZ.out k
        go_enter Tryz.func15, Tryz.ntmps15
        go_wp2
        go_ret
        exact pick_end0 HW.out hp0 hpq hm hmc HZ.out HB.out ⟨Int.emod_nonneg _ (by omega), fun _ => Int.emod_lt_of_pos _ (by omega), by omega⟩
      · obtain ⟨k, rfl⟩ : ∃ k : Nat, p = k := ⟨p.toNat, by omega⟩
        have h1 : k % m < m := Nat.mod_lt _ (by omega)
        have h2 : (k * 7 + 3) % m < m := Nat.mod_lt _ (by omega)
        have hcell := HCB.out (k % m) h1
        have hcell2 := HCB.out ((k * 7 + 3) % m) h2
        have hz1 := HZ.out (k % m)
        have hz2 := HZ.out ((k * 7 + 3) % m)
        have t1 : (k : Int).tmod (m : Int) = (k : Int) % m := Int.tmod_eq_emod_of_nonneg (by omega)
        have t2 : ((k : Int) * 7 + 3).tmod (m : Int) = ((k : Int) * 7 + 3) % m := Int.tmod_eq_emod_of_nonneg (by omega)
        have t3 : (k : Int).tdiv (m : Int) = (k : Int) / m := Int.tdiv_eq_ediv_of_nonneg (by omega)
        have b1 : 0 ≤ (k : Int) % m := Int.emod_nonneg _ (by omega)
        have b2 : (k : Int) % m < m := Int.emod_lt_of_pos _ (by omega)
        have b3 : 0 ≤ ((k : Int) * 7 + 3) % m := Int.emod_nonneg _ (by omega)
        have b4 : ((k : Int) * 7 + 3) % m < m := Int.emod_lt_of_pos _ (by omega)
        have c1 : ((k : Int) % m).toNat = k % m := by rw [← Int.natCast_emod, Int.toNat_natCast]
        have c2 : (((k : Int) * 7 + 3) % m).toNat = (k * 7 + 3) % m := by rw [show (k : Int) * 7 + 3 = ((k * 7 + 3 : Nat) : Int) from by omega, ← Int.natCast_emod, Int.toNat_natCast]
        have d1 : 0 ≤ (k : Int) / m := Int.ediv_nonneg (by omega) (by omega)
        have d2 : (k : Int) / m ≤ k := Int.ediv_le_self _ (by omega)
        have w1 : IntKind.i64.wrap ((k : Int) * 7) = (k : Int) * 7 := IntWalk.i64_in _ (by omega)
        have w2 : IntKind.i64.wrap ((k : Int) * 7 + 3) = (k : Int) * 7 + 3 := IntWalk.i64_in _ (by omega)
        go_enter Tryz.func15, Tryz.ntmps15
        go_wp2_with fail
        go_quiet (fail)
        go_wp2
        go_ret
        have hx := xor_nonneg (x := z (k % m) * 131 + z ((k * 7 + 3) % m) * 1117 + k * 29 + (k : Int) / m * 53) (y := (z (k % m) * 131 + z ((k * 7 + 3) % m) * 1117 + k * 29 + (k : Int) / m * 53) / 64) ⟨by omega, by omega⟩ ⟨by omega, by omega⟩
        have hy := tmod_bd hx.1 (show 1 ≤ n by omega)
        exact pick_end HW.out hp0 hpq hm hmc HZ.out HB.out ⟨hy.1, fun _ => hy.2, by omega⟩ _
end Go.Proofs.YtpalgnfimelioaaGreatDoor


/- The law's own function that writes a number. No condition. -/
import Derived.Test.YtpalgnfimelioaaGreatDoorExF
import Derived.Lib.ItoaNum
namespace Go.Proofs.YtpalgnfimelioaaGreatDoor
open Go.RowKit

theorem one_byte (W : World) (g : Nat) (c : UInt8) (h : W.cell? ⟨g, 0, none⟩ = some (.int .u8 (c.toNat : Int))) : (convert 22 9 (.slice (some ⟨g, 0, none⟩) 1 1)).run Tryz.prog W = .ok (.string (tx [c])) W := by
  refine run_convert_bytes_back _ 22 9 5 ⟨g, 0, none⟩ 1 [c] Tryz.underlying22 Tryz.underlying5 Tryz.underlying9 fun j hj => ?_
  obtain rfl : j = 0 := by simp at hj; omega
  exact h
set_option maxHeartbeats 1000000 in
set_option maxRecDepth 100000 in
theorem writtenP (u : Nat) : ∀ (_ : u ≤ 1000000000000) (w : World), Calls Tryz.prog 9 #[.int .i64 (u : Int)] w (fun E' W' => E' = .returned (.string (tx (Lib.decDigits u))) ∧ Below w.heap.size w W') := by
  induction u using Nat.strongRecOn with
  | ind u ih =>
    intro hu w
    have ob : ∀ (k : Nat), k < 10 → ∀ (W : World) (g : Nat), W.cell? ⟨g, 0, none⟩ = some (.int .u8 (48 + (k : Int))) → (convert 22 9 (.slice (some ⟨g, 0, none⟩) 1 1)).run Tryz.prog W = .ok (.string (tx [UInt8.ofNat (48 + k)])) W := fun k hk W g hg => by
      have e : ((UInt8.ofNat (48 + k)).toNat : Int) = 48 + (k : Int) := by simp; omega
      exact one_byte W g (UInt8.ofNat (48 + k)) (by rw [e]; exact hg)
    by_cases h : u < 10
    · have hd : Lib.decDigits u = [UInt8.ofNat (48 + u)] := by rw [Lib.decDigits, dif_pos h]
      have hob := ob u h
      rw [hd]
      have h1 : (u : Int) < 10 := by omega
      have h0 : ¬ (u : Int) < 0 := by omega
      clear ih ob
      have hM := mem_nil w; have hB := Below.refl w.heap.size w; have hC := True.intro
      go_enter Tryz.func9, Tryz.ntmps9
      go_wp2
      go_ret
      exact ⟨rfl, by (repeat' (first | (with_reducible exact hB) | (with_reducible exact Below.refl _ _) | (with_reducible refine Below.alloc ?_ ?_ _) | (with_reducible refine Below.setCell ?_ ?_ _) | (with_reducible refine Below.drew ?_) | (with_reducible refine below_drewN ?_ _) | (with_reducible exact Nat.le_refl _) | (with_reducible exact hB.size) | (simp [go_sem]; done) | (have := hB.size; simp [go_sem]; omega)))⟩
    · have hd : Lib.decDigits u = Lib.decDigits (u / 10) ++ [UInt8.ofNat (48 + u % 10)] := by rw [Lib.decDigits, dif_neg h]
      have hrec := fun W => ih (u / 10) (by omega) (by omega) W
      have hob := ob (u % 10) (by omega)
      have h1 : ¬ (u : Int) < 10 := by omega
      have h0 : ¬ (u : Int) < 0 := by omega
      have w1 : ∀ x : Int, -9223372036854775808 ≤ x → x ≤ 9223372036854775807 → IntKind.i64.wrap x = x := fun x h0 h1 => by rw [IntKind.wrap_i64]; omega
      have w2 : ∀ x : Int, 0 ≤ x → x ≤ 255 → IntKind.u8.wrap x = x := fun x h0 h1 => by
        show (let m := x % (2 ^ 8 : Int); if false && decide (m ≥ (2 ^ 7 : Int)) then m - (2 ^ 8 : Int) else m) = x
        simp; omega
      have t1 : (u : Int).tmod 10 = (u : Int) % 10 := Int.tmod_eq_emod_of_nonneg (by omega)
      have q1 : ((u / 10 : Nat) : Int) = IntKind.i64.wrap ((u : Int) / 10) := by rw [w1 _ (by omega) (by omega)]; omega
      have q2 : (48 : Int) + ((u % 10 : Nat) : Int) = IntKind.u8.wrap (IntKind.i64.wrap (48 + (u : Int).tmod 10)) := by
        rw [t1, w1 _ (by omega) (by omega), w2 _ (by omega) (by omega)]; omega
      rw [q1] at hrec
      rw [q2] at hob
      clear ih ob q1 q2 w1 w2 t1
      have hLl : (Lib.decDigits (u / 10)).length ≤ 21 := by
        have := Lib.itoa_length_le ((u / 10 : Nat) : Int) (by omega) (by omega)
        rwa [Lib.itoa, if_neg (by omega), Int.toNat_natCast] at this
      obtain ⟨L, hL⟩ : ∃ L, Lib.decDigits (u / 10) = L := ⟨_, rfl⟩
      rw [hL] at hLl
      obtain ⟨c, hc⟩ : ∃ c, UInt8.ofNat (48 + u % 10) = c := ⟨_, rfl⟩
      have hcat : tx L ++ tx [c] = tx (L ++ [c]) := ba_ext (by simp [tx])
      have s1 := tx_size L
      have s2 : (tx [c]).size = 1 := rfl
      have s3 : ¬ (9223372036854775807 < L.length + 1) := by omega
      rw [hc] at hob
      rw [hd, hc]
      clear hc
      rw [hL] at hrec ⊢
      have HL := Lib.hid hL
      clear hL hd
      have hM := mem_nil w; have hB := Below.refl w.heap.size w; have hC := True.intro
      go_enter Tryz.func9, Tryz.ntmps9
      go_wp2
      go_region_with (go_at_call 9; refine (hrec _).mono ?_; rintro e w' ⟨rfl, hb⟩; apply after_call (w := w) hb; (focus ((repeat' (first | (with_reducible exact hM) | (with_reducible apply mem_alloc) | (with_reducible apply mem_set) | (with_reducible apply mem_drew) | (with_reducible apply mem_drewN))); done)); (focus ((repeat' (first | (with_reducible exact hB) | (with_reducible exact Below.refl _ _) | (with_reducible refine Below.alloc ?_ ?_ _) | (with_reducible refine Below.setCell ?_ ?_ _) | (with_reducible refine Below.drew ?_) | (with_reducible refine below_drewN ?_ _) | (with_reducible exact Nat.le_refl _) | (with_reducible exact hB.size) | (simp [go_sem]; done) | (have := hB.size; simp [go_sem]; omega))); done)); (focus ((repeat' (first | (with_reducible exact hB) | (with_reducible exact Below.refl _ _) | (with_reducible refine Below.alloc ?_ ?_ _) | (with_reducible refine Below.setCell ?_ ?_ _) | (with_reducible refine Below.drew ?_) | (with_reducible refine below_drewN ?_ _) | (with_reducible exact Nat.le_refl _) | (with_reducible exact hB.size) | (simp [go_sem]; done) | (have := hB.size; simp [go_sem]; omega))); done)); clear hM hB hb; intro hM hB; (try clear hC); have hC := mem_facts hM; simp at hC)
      all_goals go_wp2
      all_goals go_ret
      all_goals exact ⟨rfl, by (repeat' (first | (with_reducible exact hB) | (with_reducible exact Below.refl _ _) | (with_reducible refine Below.alloc ?_ ?_ _) | (with_reducible refine Below.setCell ?_ ?_ _) | (with_reducible refine Below.drew ?_) | (with_reducible refine below_drewN ?_ _) | (with_reducible exact Nat.le_refl _) | (with_reducible exact hB.size) | (simp [go_sem]; done) | (have := hB.size; simp [go_sem]; omega)))⟩
/-- the number's text, whatever its sign -/
theorem written_ (n : Int) (h0 : -1000000000000 ≤ n) (h1 : n ≤ 1000000000000) (w : World) : Calls Tryz.prog 9 #[.int .i64 n] w (fun E' W' => E' = .returned (.string (tx (Lib.itoa n))) ∧ Below w.heap.size w W') := by
  by_cases h : n < 0
  · obtain ⟨u, rfl⟩ : ∃ u : Nat, n = -(u : Int) := ⟨n.natAbs, by omega⟩
    have hi : Lib.itoa (-(u : Int)) = 45 :: Lib.decDigits u := by rw [Lib.itoa, if_pos h]; simp
    have hrec := writtenP u (by omega)
    have hLl : (Lib.decDigits u).length ≤ 21 := by
      have := Lib.itoa_length_le (u : Int) (by omega) (by omega)
      rwa [Lib.itoa, if_neg (by omega), Int.toNat_natCast] at this
    obtain ⟨L, hL⟩ : ∃ L, Lib.decDigits u = L := ⟨_, rfl⟩
    rw [hi, hL]
    rw [hL] at hrec hLl
    have hcat : (⟨#[45]⟩ : ByteArray) ++ tx L = tx (45 :: L) := ba_ext (by simp [tx])
    have s1 := tx_size L
    have s3 : ¬ (9223372036854775807 < 1 + L.length) := by omega
    clear hL hi
    have hM := mem_nil w; have hB := Below.refl w.heap.size w; have hC := True.intro
    go_enter Tryz.func9, Tryz.ntmps9
    go_wp2_with (go_at_call 9; refine (hrec _).mono ?_; rintro e w' ⟨rfl, hb⟩; apply after_call (w := w) hb; (focus ((repeat' (first | (with_reducible exact hM) | (with_reducible apply mem_alloc) | (with_reducible apply mem_set) | (with_reducible apply mem_drew) | (with_reducible apply mem_drewN))); done)); (focus ((repeat' (first | (with_reducible exact hB) | (with_reducible exact Below.refl _ _) | (with_reducible refine Below.alloc ?_ ?_ _) | (with_reducible refine Below.setCell ?_ ?_ _) | (with_reducible refine Below.drew ?_) | (with_reducible refine below_drewN ?_ _) | (with_reducible exact Nat.le_refl _) | (with_reducible exact hB.size) | (simp [go_sem]; done) | (have := hB.size; simp [go_sem]; omega))); done)); (focus ((repeat' (first | (with_reducible exact hB) | (with_reducible exact Below.refl _ _) | (with_reducible refine Below.alloc ?_ ?_ _) | (with_reducible refine Below.setCell ?_ ?_ _) | (with_reducible refine Below.drew ?_) | (with_reducible refine below_drewN ?_ _) | (with_reducible exact Nat.le_refl _) | (with_reducible exact hB.size) | (simp [go_sem]; done) | (have := hB.size; simp [go_sem]; omega))); done)); clear hM hB hb; intro hM hB; (try clear hC); have hC := mem_facts hM; simp at hC)
    go_ret
    exact ⟨rfl, by (repeat' (first | (with_reducible exact hB) | (with_reducible exact Below.refl _ _) | (with_reducible refine Below.alloc ?_ ?_ _) | (with_reducible refine Below.setCell ?_ ?_ _) | (with_reducible refine Below.drew ?_) | (with_reducible refine below_drewN ?_ _) | (with_reducible exact Nat.le_refl _) | (with_reducible exact hB.size) | (simp [go_sem]; done) | (have := hB.size; simp [go_sem]; omega)))⟩
  · obtain ⟨u, rfl⟩ : ∃ u : Nat, n = (u : Int) := ⟨n.toNat, by omega⟩
    have hi : Lib.itoa (u : Int) = Lib.decDigits u := by rw [Lib.itoa, if_neg h]; simp
    rw [hi]
    exact writtenP u (by omega) w
end Go.Proofs.YtpalgnfimelioaaGreatDoor

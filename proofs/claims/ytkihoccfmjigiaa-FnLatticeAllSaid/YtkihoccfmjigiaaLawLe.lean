
/- The promise on all matrices in row form, walked over every slice of bytes. -/
import Derived.Test.YtkihoccfmjigiaaLaM
import Derived.Test.YtkihoccfmjigiaaLaX
import Derived.Test.YtkihoccfmjigiaaLaD
import Derived.Test.YtkihoccfmjigiaaDrawK
namespace Go.Proofs.Ytkihoccfmjigiaa
open Go.RowKit

theorem DrawLatticeAll_ (A : Option Addr) (len cap : Nat) (zs : List Int) (w : World) (hRow : RowB .u8 w w.heap.size A len cap zs) : Calls Try.prog 4 #[.slice A len cap] w (OnePost w) := by
  have hM := mem_nil w; have hB := Below.refl w.heap.size w; have hC := True.intro
  go_enter Try.func4, Try.ntmps4
  go_wp2_with (first | (go_at_call 9; apply use_open (w := w) hRow; (focus ((repeat' (first | (with_reducible exact hM) | (with_reducible apply mem_alloc) | (with_reducible apply mem_set) | (with_reducible apply mem_drew) | (with_reducible apply mem_drewN))); done)); (focus ((repeat' (first | (with_reducible exact hB) | (with_reducible exact Below.refl _ _) | (with_reducible refine Below.alloc ?_ ?_ _) | (with_reducible refine Below.setCell ?_ ?_ _) | (with_reducible refine Below.drew ?_) | (with_reducible refine below_drewN ?_ _) | (with_reducible exact Nat.le_refl _) | (with_reducible exact hB.size) | (simp [go_sem]; done) | (have := hB.size; simp [go_sem]; omega))); done)); (focus ((repeat' (first | (with_reducible exact hB) | (with_reducible exact Below.refl _ _) | (with_reducible refine Below.alloc ?_ ?_ _) | (with_reducible refine Below.setCell ?_ ?_ _) | (with_reducible refine Below.drew ?_) | (with_reducible refine below_drewN ?_ _) | (with_reducible exact Nat.le_refl _) | (with_reducible exact hB.size) | (simp [go_sem]; done) | (have := hB.size; simp [go_sem]; omega))); done)); (focus (first | (simp; done) | (simp <;> omega))); rintro R w' hI hRge; clear hM hB; (try simp at hI); (try clear hC); have hC := mem_facts hI.1; simp at hC) | ((go_at_call 10; apply use_rd (w := w) (R := R) (fun hb hr hq => pickD _ _ _ _ _ hb hr hq); (focus ((repeat' (first | (with_reducible exact hI) | (with_reducible apply inv_alloc) | (with_reducible apply inv_drew) | (with_reducible apply inv_drewN) | (with_reducible apply inv_set) | (simp only [setL_map]; simp; done) | (simp; done))); done)); (focus omega); rintro v' w' ⟨x, rfl, hx0, hx1, _⟩; clear hI; intro hI; (try simp at hI); (try clear hC); have hC := mem_facts hI.1; simp at hC); replace hx1 := hx1 (by decide); (try have hxq := quo24 hx0 hx1)))
  refine bodyPost_ret (by (simp [results, Try.results4, go_sem, *]; try rfl)) rfl ?_
  apply one_use (w := w)
  · (repeat' (first | (with_reducible exact hI) | (with_reducible apply inv_alloc) | (with_reducible apply inv_drew) | (with_reducible apply inv_drewN) | (with_reducible apply inv_set) | (simp only [setL_map]; simp; done) | (simp; done)))
  intro hJ
  exact ⟨_, rfl, by omega, by omega, hJ.2.2.1.below hRge⟩
/-- the sum of the divisors up to k -/
def sdiv (n : Nat) : Nat → Nat
  | 0 => 0
  | k + 1 => sdiv n k + if n % (k + 1) = 0 then k + 1 else 0
theorem sdiv_all : ∀ n, n < 61 → 1 ≤ n → sdiv n n = (frmsM n n).length := by decide +kernel
theorem sdiv_le (n : Nat) : ∀ k, sdiv n k ≤ k * k
  | 0 => by simp [sdiv]
  | k + 1 => by
    have := sdiv_le n k
    have e : (k + 1) * (k + 1) = k * k + 2 * k + 1 := by rw [Nat.add_mul, Nat.mul_add]; omega
    simp only [sdiv]
    split <;> omega
theorem frms_ok {n : Nat} (hn : n ≤ 60) : ∀ k, ∀ m ∈ frmsM n k, RF m ∧ m.a * m.d = n
  | 0, m, h => by simp [frmsM] at h
  | k + 1, m, h => by
    simp only [frmsM, List.mem_append] at h
    rcases h with h | h
    · exact frms_ok hn k m h
    · unfold rowsM at h
      split at h
      · rename_i hd
        simp only [List.mem_map, List.mem_range] at h
        obtain ⟨b, hb, rfl⟩ := h
        refine ⟨⟨rfl, by dsimp only; omega, by dsimp only; omega, by dsimp only; omega⟩, ?_⟩
        dsimp only
        have := Nat.div_add_mod n (k + 1)
        rw [hd, Nat.add_zero] at this
        have h2 : (((k + 1) * (n / (k + 1)) : Nat) : Int) = (n : Int) := by rw [this]
        rw [← h2]; simp
      · cases h
theorem getD_mem {ms : List M} {j : Nat} (h : j < ms.length) : ms.getD j zm ∈ ms := by
  rw [List.getD_eq_getElem?_getD, List.getElem?_eq_getElem h]; exact List.getElem_mem h
theorem run_neqM (a b c d : Int) (W : World) : (binOp .neq 29 (.agg #[.int .i64 a, .int .i64 b, .int .i64 c, .int .i64 d]) (.agg #[.int .i64 a, .int .i64 b, .int .i64 c, .int .i64 d])).run Try.prog W = .ok (.bool false) W := by go_simp
set_option maxHeartbeats 2000000 in
theorem sameMats_same (v u : Value) (ms : List M) (hz : ms.length ≤ 1000000) (w : World) (hv : ReadsM w v ms) (hu : ReadsM w u ms) : Calls Try.prog 7 #[v, u] w (fun E' W' => E' = .returned (.bool true) ∧ Below w.heap.size w W') := by
  obtain ⟨ao, cap, rfl, hc⟩ := hv
  obtain ⟨bo, cap', rfl, hd⟩ := hu
  have HC := Lib.hid hc
  have HD := Lib.hid hd
  clear hc hd
  have hM := mem_nil w; have hB := Below.refl w.heap.size w; have hC := True.intro
  go_enter Try.func7, Try.ntmps7
  go_wp2
  go_loopw [5] (fun i wr => ∃ k : Nat, k ≤ ms.length ∧ i = .int .i64 k ∧ Below w.heap.size w wr) (fun i _ => ms.length - (intOf i).toNat)
  case atStart => exact ⟨0, Nat.zero_le _, rfl, by (repeat' (first | (with_reducible exact hB) | (with_reducible exact Below.refl _ _) | (with_reducible refine Below.alloc ?_ ?_ _) | (with_reducible refine Below.setCell ?_ ?_ _) | (with_reducible refine Below.drew ?_) | (with_reducible refine below_drewN ?_ _) | (with_reducible exact Nat.le_refl _) | (with_reducible exact hB.size) | (simp [go_sem]; done) | (have := hB.size; simp [go_sem]; omega)))⟩
  case round =>
    obtain ⟨k, hk, rfl, hB'⟩ := hrel
    clear hB hM hC
    have hB := hB'
    clear hB'
    by_cases hlt : k < ms.length
    · obtain ⟨g, rfl, h1⟩ := HC.out k hlt
      obtain ⟨g', rfl, h2⟩ := HD.out k hlt
      generalize ms.getD k zm = m at h1 h2
      obtain ⟨p, q, r, t⟩ := m
      obtain ⟨a1, a2, a3, a4⟩ := h1.below hB
      obtain ⟨b1, b2, b3, b4⟩ := h2.below hB
      clear h1 h2
      dsimp only at a1 a2 a3 a4 b1 b2 b3 b4
      have hE := run_neqM p q r t
      go_wp2_with fail
      go_quiet (fail)
      go_wp2
      go_roundw
      case rel => exact ⟨k + 1, by omega, by go_num, by (repeat' (first | (with_reducible exact hB) | (with_reducible exact Below.refl _ _) | (with_reducible refine Below.alloc ?_ ?_ _) | (with_reducible refine Below.setCell ?_ ?_ _) | (with_reducible refine Below.drew ?_) | (with_reducible refine below_drewN ?_ _) | (with_reducible exact Nat.le_refl _) | (with_reducible exact hB.size) | (simp [go_sem]; done) | (have := hB.size; simp [go_sem]; omega)))⟩
      case measure => simp [intOf]; omega
    · obtain rfl : k = ms.length := by omega
      go_wp2
      go_ret
      exact ⟨rfl, by (repeat' (first | (with_reducible exact hB) | (with_reducible exact Below.refl _ _) | (with_reducible refine Below.alloc ?_ ?_ _) | (with_reducible refine Below.setCell ?_ ?_ _) | (with_reducible refine Below.drew ?_) | (with_reducible refine below_drewN ?_ _) | (with_reducible exact Nat.le_refl _) | (with_reducible exact hB.size) | (simp [go_sem]; done) | (have := hB.size; simp [go_sem]; omega)))⟩
end Go.Proofs.Ytkihoccfmjigiaa

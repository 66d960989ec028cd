
/- Numbers with a rest, one after the other up to 30: plain; the program's iterator over them, walked. No condition. -/
import Derived.Test.YtkallllpjkkhhaaMoN
namespace Go.Proofs.Ytkallllpjkkhhaa
open Go.RowKit Go.Shelf
attribute [local go_sem] Oper.semAt_some

/-- y, y + k, .. up to 30 -/
def lfF (k : Nat) : Nat → Nat → List Nat
  | 0, _ => []
  | f + 1, y => if y ≤ 30 then y :: lfF k f (y + k) else []
def lfs (k y : Nat) : List Nat := lfF k (31 - y) y
theorem lfF_irr {k : Nat} (hk : 1 ≤ k) : ∀ (f g y : Nat), 31 ≤ y + f → 31 ≤ y + g → lfF k f y = lfF k g y
  | 0, 0, _, _, _ => rfl
  | 0, g + 1, y, h, _ => by simp [lfF]; omega
  | f + 1, 0, y, _, h => by simp [lfF]; omega
  | f + 1, g + 1, y, h1, h2 => by
    simp only [lfF]
    rw [lfF_irr hk f g (y + k) (by omega) (by omega)]
theorem lfs_cons {k y : Nat} (hk : 1 ≤ k) (h : y ≤ 30) : lfs k y = y :: lfs k (y + k) := by
  rw [lfs, show 31 - y = (30 - y) + 1 by omega, lfF, if_pos h, lfs, lfF_irr hk (30 - y) (31 - (y + k)) (y + k) (by omega) (by omega)]
theorem lfs_nil {k y : Nat} (h : 30 < y) : lfs k y = [] := by rw [lfs, show 31 - y = 0 by omega]; rfl
theorem lfF_len (k : Nat) : ∀ (f y : Nat), (lfF k f y).length ≤ f
  | 0, _ => by simp [lfF]
  | f + 1, y => by
    simp only [lfF]
    split
    · have := lfF_len k f (y + k); simp; omega
    · simp
theorem lfs_len (k y : Nat) : (lfs k y).length ≤ 31 := by have := lfF_len k (31 - y) y; unfold lfs; omega
theorem lfF_mem {k z : Nat} : ∀ (f y : Nat), z ∈ lfF k f y → z ≤ 30 ∧ ∃ i, z = y + k * i
  | 0, _, h => by simp [lfF] at h
  | f + 1, y, h => by
    simp only [lfF] at h
    split at h
    · rcases List.mem_cons.1 h with rfl | h
      · exact ⟨by omega, 0, by simp⟩
      · obtain ⟨h1, i, h2⟩ := lfF_mem f (y + k) h
        exact ⟨h1, i + 1, by rw [h2, Nat.mul_succ]; omega⟩
    · simp at h
theorem lfs_mem {k y z : Nat} (h : z ∈ lfs k y) : z ≤ 30 ∧ ∃ i, z = y + k * i := lfF_mem _ _ h
/-- what a round is told of a number that it is handed: it is at most 30 -/
def ci (y : Nat) : Nat := y % 31
theorem ci_id {y : Nat} (h : y ≤ 30) : ci y = y := Nat.mod_eq_of_lt (by omega)
theorem ci_le (y : Nat) : ci y ≤ 30 := by have := Nat.mod_lt y (show 0 < 31 by decide); unfold ci; omega
theorem ci_lfs (k y : Nat) : (lfs k y).map ci = lfs k y := by
  conv => rhs; rw [← List.map_id (lfs k y)]
  exact List.map_congr_left fun q hq => ci_id (lfs_mem hq).1
def encI (y : Nat) : Array Value := #[.int .i64 (ci y : Nat)]
theorem lifts_ (k x : Int) (w : World) : Calls Try.prog 40 #[.int .i64 k, .int .i64 x] w fun e w' => e = .returned (.func (.func 53) #[] #[.pointer (some ⟨w.heap.size + 1, 0, none⟩), .pointer (some ⟨w.heap.size, 0, none⟩)]) ∧
    w' = (w.alloc (.cells #[.int .i64 k] 40)).alloc (.cells #[.int .i64 x] 3) := by
  go_enter Try.func40, Try.ntmps40
  go_wp2
  go_ret
  exact ⟨rfl, rfl⟩
set_option maxRecDepth 100000 in
set_option maxHeartbeats 1000000 in
theorem lifts1_in (F : Fence) (n : Nat) (hf : F.fn 53) (hro : F.round = none) (hn : 1 ≤ n) (l Bx Bn : Nat) (k x : Nat) (hk : 2 ≤ k ∧ k ≤ 12) (hx : x ≤ 12) (J Jx : List Nat → World → Prop)
    (hY : ∀ pre y W, J pre W → pre.length < 31 → YieldAt F (n - 1) Try.prog l (encI y) W fun e W' =>
      (e = .returned (.bool true) ∧ J (pre ++ [y]) W' ∧ KC Bn W W') ∨ (e = .returned (.bool false) ∧ Jx (pre ++ [y]) W'))
    (W : World) (hBx : W.cell? ⟨Bx, 0, none⟩ = some (.int .i64 (x : Int))) (hBn : W.cell? ⟨Bn, 0, none⟩ = some (.int .i64 (k : Int))) (h0 : J [] W) :
    CallsIn F n Try.prog 53 #[.func (.yield l) #[] #[], .pointer (some ⟨Bx, 0, none⟩), .pointer (some ⟨Bn, 0, none⟩)] W fun e W' => (∃ v, e = .returned v) ∧
      ((∃ ys, ys = lfs k x ∧ J ys W') ∨ (∃ pre, pre <+: lfs k x ∧ Jx pre W')) := by
  refine callsIn_of_wp Try.func53 rfl hf ?_ hro
  simp only [Try.ntmps53, List.size_toArray, List.length_cons, List.length_nil, Nat.reduceAdd, Nat.reduceSub, Array.replicate_succ, Array.replicate_zero, List.push_toArray, List.append_toArray, List.nil_append, List.cons_append]
  gi_wp2
  gi_loopw [4] (fun v wr => ∃ (y : Nat) (pre : List Nat), v = .int .i64 y ∧ y ≤ 42 ∧ lfs k x = pre ++ lfs k y ∧ J pre wr ∧ wr.cell? ⟨Bn, 0, none⟩ = some (.int .i64 (k : Int)))
    (fun v _ => 43 - (intOf v).toNat)
  case atStart => exact ⟨x, [], rfl, by omega, rfl, h0, hBn⟩
  case round =>
    obtain ⟨y, pre, rfl, hy, hl, hJ, hc⟩ := hrel
    have HL := Lib.hid hl
    clear hl
    by_cases hlt : y ≤ 30
    · have HC := Lib.hid (lfs_cons (k := k) (by omega) hlt)
      have hlen : pre.length < 31 := by
        have h1 := lfs_len k x
        rw [HL.out, HC.out, List.length_append, List.length_cons] at h1
        omega
      obtain ⟨fn, tmps, assign, body, hyl, hR⟩ := hY _ y wr hJ hlen
      unfold encI at hyl
      rw [ci_id hlt] at hyl
      gi_wp2
      refine hR.mono ?_
      rintro e W3 (⟨rfl, hJ3, hk3⟩ | ⟨rfl, hJx3⟩)
      · have hc3 := hk3 _ hc
        gi_wp2
        go_roundw
        case rel => exact ⟨y + k, pre ++ [y], by simp, by omega, by rw [HL.out, HC.out]; simp, hJ3, hc3⟩
        case measure => simp [intOf]; omega
      · gi_wp2
        refine bodyPost_ret (results_none rfl _ _ _) rfl ?_
        exact ⟨⟨_, rfl⟩, .inr ⟨_, ⟨lfs k (y + k), by rw [HL.out, HC.out]; simp⟩, hJx3⟩⟩
    · gi_wp2
      go_end0
      exact ⟨⟨_, rfl⟩, .inl ⟨_, rfl, by rw [HL.out, lfs_nil (by omega), List.append_nil]; exact hJ⟩⟩
theorem lifts_stops (F : Fence) (n : Nat) (hf : F.fn 53) (hro : F.round = none) (hn : 1 ≤ n) (Bx Bn : Nat) (k x : Nat) (hk : 2 ≤ k ∧ k ≤ 12) (hx : x ≤ 12) (w : World) (hBx : Bx < w.heap.size) (hBn : Bn < w.heap.size)
    (hcx : w.cell? ⟨Bx, 0, none⟩ = some (.int .i64 (x : Int))) (hcn : w.cell? ⟨Bn, 0, none⟩ = some (.int .i64 (k : Int))) :
    SeqStopsK F n Try.prog 53 #[.pointer (some ⟨Bx, 0, none⟩), .pointer (some ⟨Bn, 0, none⟩)] encI (KC Bn) (fun ys => ys = lfs k x) (fun pre => pre <+: lfs k x) 31 w := fun l J Jx W hW _ _ hY h0 =>
  lifts1_in F n hf hro hn l Bx Bn k x hk hx J Jx hY W ((hW.cell (p := ⟨Bx, 0, none⟩) hBx).trans hcx) ((hW.cell (p := ⟨Bn, 0, none⟩) hBn).trans hcn) h0
end Go.Proofs.Ytkallllpjkkhhaa

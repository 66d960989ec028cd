
/- Pairs of rests, one after the other: plain; the program's iterator over them, walked. No condition. -/
import Derived.Test.YtkallllpjkkhhaaMoA
import Derived.Test.YtkallllpjkkhhaaIter
namespace Go.Proofs.Ytkallllpjkkhhaa
open Go.RowKit Go.Shelf
attribute [local go_sem] Oper.semAt_some

def prs (k : Nat) : List (Nat × Nat) := (List.range (k * k)).map fun i => (i / k, i % k)
theorem prs_len (k : Nat) : (prs k).length = k * k := by simp [prs]
theorem prs_snoc {k x y : Nat} (hx : x < k) (hy : y < k) : (prs k).take (x * k + y + 1) = (prs k).take (x * k + y) ++ [(x, y)] := by
  have hb : x * k + y < k * k := by
    have := Nat.mul_le_mul_right k (show x + 1 ≤ k from hx)
    rw [Nat.succ_mul] at this
    omega
  rw [List.take_succ_eq_append_getElem (by rw [prs_len]; exact hb)]
  have e1 : (x * k + y) / k = x := by rw [Nat.add_comm, Nat.add_mul_div_right _ _ (by omega), Nat.div_eq_of_lt hy]; omega
  have e2 : (x * k + y) % k = y := by rw [Nat.add_comm, Nat.add_mul_mod_self_right, Nat.mod_eq_of_lt hy]
  simp [prs, e1, e2]
theorem prs_mem {k : Nat} {q : Nat × Nat} (h : q ∈ prs k) : q.1 < k ∧ q.2 < k := by
  simp only [prs, List.mem_map, List.mem_range] at h
  obtain ⟨i, hi, rfl⟩ := h
  have hk : 0 < k := by
    rcases Nat.eq_zero_or_pos k with e | e
    · subst e; simp at hi
    · exact e
  exact ⟨Nat.div_lt_of_lt_mul hi, Nat.mod_lt _ hk⟩
theorem prs_has {k x y : Nat} (hx : x < k) (hy : y < k) : (x, y) ∈ prs k := by
  have h := List.take_subset (x * k + y + 1) (prs k)
  rw [prs_snoc hx hy] at h
  exact h (by simp)
/-- what a round is told of a pair that it is handed: its numbers are less than 12 -/
def cl (q : Nat × Nat) : Nat × Nat := (q.1 % 12, q.2 % 12)
theorem cl_id {q : Nat × Nat} (h1 : q.1 < 12) (h2 : q.2 < 12) : cl q = q := by simp [cl, Nat.mod_eq_of_lt h1, Nat.mod_eq_of_lt h2]
theorem cl_lt (q : Nat × Nat) : (cl q).1 < 12 ∧ (cl q).2 < 12 := ⟨Nat.mod_lt _ (by decide), Nat.mod_lt _ (by decide)⟩
theorem cl_prs {k : Nat} (hk : k ≤ 12) : (prs k).map cl = prs k := by
  conv => rhs; rw [← List.map_id (prs k)]
  exact List.map_congr_left fun q hq => by
    have := prs_mem hq
    exact cl_id (by omega) (by omega)
def encP (q : Nat × Nat) : Array Value := #[.agg #[.int .i64 (cl q).1, .int .i64 (cl q).2]]

theorem pairs_ (n : Int) (w : World) : Calls Try.prog 48 #[.int .i64 n] w fun e w' => e = .returned (.func (.func 55) #[] #[.pointer (some ⟨w.heap.size, 0, none⟩)]) ∧ w' = w.alloc (.cells #[.int .i64 n] 40) := by
  go_enter Try.func48, Try.ntmps48
  go_wp2
  go_ret
  exact ⟨rfl, rfl⟩

set_option maxRecDepth 100000 in
set_option maxHeartbeats 1000000 in
theorem pairs1_in (F : Fence) (n : Nat) (hf : F.fn 55) (hro : F.round = none) (hn : 1 ≤ n) (l Bs : Nat) (m : Nat) (hm : m ≤ 12) (J Jx : List (Nat × Nat) → World → Prop)
    (hY : ∀ pre x W, J pre W → pre.length < m * m → YieldAt F (n - 1) Try.prog l (encP x) W fun e W' =>
      (e = .returned (.bool true) ∧ J (pre ++ [x]) W' ∧ KC Bs W W') ∨ (e = .returned (.bool false) ∧ Jx (pre ++ [x]) W'))
    (W : World) (hBs : W.cell? ⟨Bs, 0, none⟩ = some (.int .i64 (m : Int))) (h0 : J [] W) :
    CallsIn F n Try.prog 55 #[.func (.yield l) #[] #[], .pointer (some ⟨Bs, 0, none⟩)] W fun e W' => (∃ v, e = .returned v) ∧
      ((∃ ys, ys = prs m ∧ J ys W') ∨ (∃ pre, pre <+: prs m ∧ Jx pre W')) := by
  refine callsIn_of_wp Try.func55 rfl hf ?_ hro
  simp only [Try.ntmps55, List.size_toArray, List.length_cons, List.length_nil, Nat.reduceAdd, Nat.reduceSub, Array.replicate_succ, Array.replicate_zero, List.push_toArray, List.append_toArray, List.nil_append, List.cons_append]
  gi_wp2
  gi_loopw [6] (fun i wr => ∃ x : Nat, x ≤ m ∧ i = .int .i64 x ∧ J ((prs m).take (x * m)) wr ∧ wr.cell? ⟨Bs, 0, none⟩ = some (.int .i64 (m : Int)))
    (fun i _ => m - (intOf i).toNat)
  case atStart => exact ⟨0, Nat.zero_le _, rfl, by simpa using h0, hBs⟩
  case round =>
    obtain ⟨x, hx, rfl, hJ, hc⟩ := hrel
    by_cases hlt : x < m
    · gi_wp2
      gi_loopw [10] (fun j wr => ∃ y : Nat, y ≤ m ∧ j = .int .i64 y ∧ J ((prs m).take (x * m + y)) wr ∧ wr.cell? ⟨Bs, 0, none⟩ = some (.int .i64 (m : Int)))
        (fun j _ => m - (intOf j).toNat)
      case atStart => exact ⟨0, Nat.zero_le _, rfl, by simpa using hJ, hc⟩
      case round =>
        obtain ⟨y, hy, rfl, hJ, hc⟩ := hrel
        by_cases hly : y < m
        · have hb : x * m + y < m * m := by
            have := Nat.mul_le_mul_right m (show x + 1 ≤ m from hlt)
            rw [Nat.succ_mul] at this
            omega
          obtain ⟨fn, tmps, assign, body, hyl, hR⟩ := hY _ (x, y) wr hJ (by rw [List.length_take, prs_len]; omega)
          unfold encP at hyl
          rw [cl_id (q := (x, y)) (show x < 12 by omega) (show y < 12 by omega)] at hyl
          dsimp only at hyl
          gi_wp2
          refine hR.mono ?_
          rintro e W3 (⟨rfl, hJ3, hk3⟩ | ⟨rfl, hJx3⟩)
          · gi_wp2
            go_roundw
            case rel => exact ⟨y + 1, by omega, by simp, by rw [← Nat.add_assoc, prs_snoc hlt hly]; exact hJ3, hk3 _ hc⟩
            case measure => simp [intOf]; omega
          · gi_wp2
            refine bodyPost_ret (results_none rfl _ _ _) rfl ?_
            exact ⟨⟨_, rfl⟩, .inr ⟨_, by rw [← prs_snoc hlt hly]; exact List.take_prefix _ _, hJx3⟩⟩
        · obtain rfl : y = m := by omega
          gi_wp2
          go_roundw
          case rel => exact ⟨x + 1, by omega, by simp, by rw [Nat.succ_mul]; exact hJ, hc⟩
          case measure => simp [intOf]; omega
    · obtain rfl : x = m := by omega
      gi_wp2
      go_end0
      exact ⟨⟨_, rfl⟩, .inl ⟨_, rfl, by rw [List.take_of_length_le (by rw [prs_len]; omega)] at hJ; exact hJ⟩⟩

theorem pairs_stops (F : Fence) (n : Nat) (hf : F.fn 55) (hro : F.round = none) (hn : 1 ≤ n) (Bs : Nat) (m : Nat) (hm : m ≤ 12) (w : World) (hBs : Bs < w.heap.size)
    (hc : w.cell? ⟨Bs, 0, none⟩ = some (.int .i64 (m : Int))) :
    SeqStopsK F n Try.prog 55 #[.pointer (some ⟨Bs, 0, none⟩)] encP (KC Bs) (fun ys => ys = prs m) (fun pre => pre <+: prs m) (m * m) w := fun l J Jx W hW _ _ hY h0 =>
  pairs1_in F n hf hro hn l Bs m hm J Jx hY W ((hW.cell (p := ⟨Bs, 0, none⟩) hBs).trans hc) h0
end Go.Proofs.Ytkallllpjkkhhaa

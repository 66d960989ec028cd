
/- The program's iterator over the lists that come round, walked: it yields each of them once, from the list itself on. -/
import Derived.Test.YtbpaklcibkifnaaDoorTurnY
namespace Go.Proofs.YtbpaklcibkifnaaDoor
open Go.RowKit Go.Shelf
attribute [local go_sem] Oper.semAt_some

def KC2 (b c : Nat) (W W' : World) : Prop := KC b W W' ∧ KC c W W'
theorem kc2_t {b c : Nat} {X Y Z : World} (h : KC2 b c X Y) (k : KC2 b c Y Z) : KC2 b c X Z := ⟨kc_t h.1 k.1, kc_t h.2 k.2⟩
theorem kc2_b {b c : Nat} {w : World} (hb : b < w.heap.size) (hc : c < w.heap.size) (W : World) (l : Nat) (o o' : Obj) (hl : w.heap.size ≤ l) (h : W.heap[l]? = some o) (h1 : o.isCells = false) (h2 : o.isWalk = false) : KC2 b c W (W.putObj l o') :=
  ⟨kc_b hb W l o o' hl h h1 h2, kc_b hc W l o o' hl h h1 h2⟩
def encR (b1 n : Nat) (x : {i : Nat // i < n}) : Array Value := #[.slice (some ⟨b1, x.1, none⟩) n n]
set_option maxRecDepth 100000 in
set_option maxHeartbeats 1000000 in
theorem rounds1_in (F : Fence) (n : Nat) (hf : F.fn 59) (hro : F.round = none) (hn : 1 ≤ n) (l b0 b1 b2 N : Nat) (h1 : 1 ≤ N) (h20 : N ≤ 20) (J Jx : List {i : Nat // i < N} → World → Prop)
    (hY : ∀ pre x W, J pre W → pre.length < N → YieldAt F (n - 1) Tryd.prog l (encR b1 N x) W fun e W' =>
      (e = .returned (.bool true) ∧ J (pre ++ [x]) W' ∧ KC2 b0 b2 W W') ∨ (e = .returned (.bool false) ∧ Jx (pre ++ [x]) W'))
    (W : World) (hc0 : W.cell? ⟨b0, 0, none⟩ = some (.int .i64 N)) (hc2 : W.cell? ⟨b2, 0, none⟩ = some (.slice (some ⟨b1, 0, none⟩) (2 * N) (2 * N))) (h0 : J [] W) :
    CallsIn F n Tryd.prog 59 #[.func (.yield l) #[] #[], .pointer (some ⟨b0, 0, none⟩), .pointer (some ⟨b2, 0, none⟩)] W fun e W' => (∃ v, e = .returned v) ∧
      ((∃ ys, ys.map (fun (x : {i : Nat // i < N}) => x.1) = List.range N ∧ J ys W') ∨ (∃ pre : List {i : Nat // i < N}, True ∧ Jx pre W')) := by
  refine callsIn_of_wp Tryd.func59 rfl hf ?_ hro
  simp only [Tryd.ntmps59, List.size_toArray, List.length_cons, List.length_nil, Nat.reduceAdd, Nat.reduceSub, Array.replicate_succ, Array.replicate_zero, List.push_toArray, List.append_toArray, List.nil_append, List.cons_append]
  gi_wp2
  gi_loopw [4, 6] (fun _ i wr => ∃ (k : Nat) (pre : List {i : Nat // i < N}), k ≤ N ∧ i = .int .i64 k ∧ pre.map (fun (x : {i : Nat // i < N}) => x.1) = List.range k ∧ J pre wr ∧ wr.cell? ⟨b0, 0, none⟩ = some (.int .i64 N) ∧ wr.cell? ⟨b2, 0, none⟩ = some (.slice (some ⟨b1, 0, none⟩) (2 * N) (2 * N)))
    (fun _ i _ => N - (intOf i).toNat)
  case atStart => exact ⟨0, [], Nat.zero_le _, rfl, rfl, h0, hc0, hc2⟩
  case round =>
    obtain ⟨k, pre, hk, rfl, hpre, hJs, hd0, hd2⟩ := hrel
    by_cases hlt : k < N
    · have hlen : pre.length = k := by have := congrArg List.length hpre; simpa using this
      obtain ⟨fn, tmps, assign, body, hy, hR⟩ := hY pre ⟨k, hlt⟩ wr hJs (by omega)
      unfold encR at hy
      have HP := Lib.hid hpre
      clear hpre
      gi_wp2
      refine hR.mono ?_
      rintro e W3 (⟨rfl, hJ3, hk3⟩ | ⟨rfl, hJx3⟩)
      · gi_wp2
        go_roundw
        case rel => exact ⟨k + 1, pre ++ [⟨k, hlt⟩], by omega, by go_num, by rw [List.map_append, HP.out, List.range_succ]; rfl, hJ3, hk3.1 _ hd0, hk3.2 _ hd2⟩
        case measure => simp [intOf]; omega
      · gi_wp2
        refine bodyPost_ret (results_none rfl _ _ _) rfl ?_
        exact ⟨⟨_, rfl⟩, .inr ⟨_, trivial, hJx3⟩⟩
    · obtain rfl : k = N := by omega
      have HP := Lib.hid hpre
      clear hpre
      gi_wp2
      go_end0
      exact ⟨⟨_, rfl⟩, .inl ⟨_, HP.out, hJs⟩⟩
theorem rounds_stops (F : Fence) (n : Nat) (hf : F.fn 59) (hro : F.round = none) (hn : 1 ≤ n) (b0 b1 b2 N : Nat) (h1 : 1 ≤ N) (h20 : N ≤ 20) (w : World) (hb0 : b0 < w.heap.size) (hb2 : b2 < w.heap.size)
    (hc0 : w.cell? ⟨b0, 0, none⟩ = some (.int .i64 N)) (hc2 : w.cell? ⟨b2, 0, none⟩ = some (.slice (some ⟨b1, 0, none⟩) (2 * N) (2 * N))) :
    SeqStopsK F n Tryd.prog 59 #[.pointer (some ⟨b0, 0, none⟩), .pointer (some ⟨b2, 0, none⟩)] (encR b1 N) (KC2 b0 b2) (fun ys => ys.map (fun (x : {i : Nat // i < N}) => x.1) = List.range N) (fun _ => True) N w := fun l J Jx W hW _ _ hY h0 =>
  rounds1_in F n hf hro hn l b0 b1 b2 N h1 h20 J Jx hY W ((hW.cell (p := ⟨b0, 0, none⟩) hb0).trans hc0) ((hW.cell (p := ⟨b2, 0, none⟩) hb2).trans hc2) h0
end Go.Proofs.YtbpaklcibkifnaaDoor

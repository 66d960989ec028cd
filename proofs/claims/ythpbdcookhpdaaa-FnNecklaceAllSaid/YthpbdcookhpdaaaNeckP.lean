
/- The program's necklaces, walked: what comes round, as it is yielded; the least of it; a word of both letters. Under bounds on the word's length. -/
import Derived.Test.YthpbdcookhpdaaaWordIn
import Derived.Test.YthpbdcookhpdaaaConj
import Derived.Lib.Bytealg
namespace Go.Proofs.Ythpbdcookhpdaaa
open Go.RowKit Go.Shelf
attribute [local go_sem] Oper.semAt_some

def encT (x : List UInt8) : Array Value := #[.string (txt x)]
/-- a text taken round -/
def rotS (s : ByteArray) (k : Nat) : ByteArray := s.extract k s.size ++ s.extract 0 k
theorem rotS_list (s : ByteArray) (k : Nat) : rotS s k = txt (rotW s.data.toList k) := by
  rw [← txt_of (rotS s k)]
  congr 1
  unfold rotS rotW
  simp [ByteArray.data_append, ByteArray.data_extract]
  exact List.take_of_length_le (by simp)
theorem rotsW_len (l : List UInt8) : (rotsW l).length = l.length := by simp [rotsW]
theorem rotsW_snoc (l : List UInt8) (k : Nat) (h : k < l.length) : (rotsW l).take (k + 1) = (rotsW l).take k ++ [rotW l k] := by
  rw [List.take_succ_eq_append_getElem (by rw [rotsW_len]; exact h)]
  simp [rotsW]

theorem bl_less (x y : List UInt8) : Op.bytesLess x y = bl x y := rfl
theorem run_minT (ts : Array TypeId) (t : TypeId) (x y : List UInt8) (w : World) : (Builtin.min_ ts t #[.string (txt x), .string (txt y)]).run Try.prog w = .ok (.string (txt (mn x y))) w := by
  have h : (txt x).toList = x := (ByteArray.toList_eq _).trans (txt_list x)
  have k : (txt y).toList = y := (ByteArray.toList_eq _).trans (txt_list y)
  unfold mn le8
  cases e : bl x y || x == y
  all_goals simp [Builtin.min_, Builtin.min2, Op.stringOp, h, k, bl_less, e, asBool]

theorem wrounds_ (s : ByteArray) (w : World) : Calls Try.prog 38 #[.string s] w fun e w' => e = .returned (.func (.func 50) #[] #[.pointer (some ⟨w.heap.size, 0, none⟩)]) ∧ w' = w.alloc (.cells #[.string s] 42) := by
  go_enter Try.func38, Try.ntmps38
  go_wp2
  go_ret
  exact ⟨rfl, rfl⟩

set_option maxRecDepth 100000 in
set_option maxHeartbeats 1000000 in
theorem wrounds1_in (n : Nat) (hn : 1 ≤ n) (l Bs : Nat) (s : ByteArray) (hs : s.size ≤ 1000000000) (J Jx : List (List UInt8) → World → Prop) (hJd : ∀ pre W k, J pre W → J pre (W.drewN k))
    (hY : ∀ pre x W, J pre W → pre.length < s.size → YieldAt Fence.wide (n - 1) Try.prog l (encT x) W fun e W' =>
      (e = .returned (.bool true) ∧ J (pre ++ [x]) W' ∧ KC Bs W W') ∨ (e = .returned (.bool false) ∧ Jx (pre ++ [x]) W'))
    (W : World) (hBs : W.cell? ⟨Bs, 0, none⟩ = some (.string s)) (h0 : J [] W) :
    CallsIn Fence.wide n Try.prog 50 #[.func (.yield l) #[] #[], .pointer (some ⟨Bs, 0, none⟩)] W fun e W' => (∃ v, e = .returned v) ∧
      ((∃ ys, ys = rotsW s.data.toList ∧ J ys W') ∨ (∃ pre, pre <+: rotsW s.data.toList ∧ Jx pre W')) := by
  have hl : s.data.toList.length = s.size := by simp
  refine callsIn_of_wp Try.func50 rfl trivial ?_ rfl
  simp only [Try.ntmps50, List.size_toArray, List.length_cons, List.length_nil, Nat.reduceAdd, Nat.reduceSub, Array.replicate_succ, Array.replicate_zero, List.push_toArray, List.append_toArray, List.nil_append, List.cons_append]
  gi_wp2
  gi_loopw [6] (fun i wr => ∃ k : Nat, k ≤ s.size ∧ i = .int .i64 k ∧ J ((rotsW s.data.toList).take k) wr ∧ wr.cell? ⟨Bs, 0, none⟩ = some (.string s))
    (fun i _ => s.size - (intOf i).toNat)
  case atStart => exact ⟨0, Nat.zero_le _, rfl, h0, hBs⟩
  case round =>
    obtain ⟨k, hk, rfl, hJs, hnx⟩ := hrel
    by_cases hlt : k < s.size
    · obtain ⟨fn, tmps, assign, body, hy, hR⟩ := hY _ (rotW s.data.toList k) wr.drew (hJd _ _ 1 hJs) (by rw [List.length_take, rotsW_len]; omega)
      unfold encT at hy
      rw [← rotS_list] at hy
      unfold rotS at hy
      have hnx' : wr.drew.cell? ⟨Bs, 0, none⟩ = some (.string s) := hnx
      have hR' := hR.mono (R' := fun e W3 => ∃ b : Bool, e = .returned (.bool b) ∧ ((b = true ∧ J ((rotsW s.data.toList).take k ++ [rotW s.data.toList k]) W3 ∧ KC Bs wr.drew W3) ∨ (b = false ∧ Jx ((rotsW s.data.toList).take k ++ [rotW s.data.toList k]) W3))) (by
        rintro e W3 (⟨rfl, h1, h2⟩ | ⟨rfl, h1⟩)
        · exact ⟨true, rfl, .inl ⟨rfl, h1, h2⟩⟩
        · exact ⟨false, rfl, .inr ⟨rfl, h1⟩⟩)
      have hmx : Try.prog.follows .mixedOrders = true := by kernel_rfl
      gi_wp2
      gi_region_with (with_reducible refine hR'.mono ?_; rintro e W3 ⟨b, rfl, hP⟩)
      all_goals
        cases b
        · rcases hP with ⟨h, _⟩ | ⟨-, hJx3⟩
          · cases h
          · gi_wp2
            refine bodyPost_ret (results_none rfl _ _ _) rfl ?_
            exact ⟨⟨_, rfl⟩, .inr ⟨_, by rw [← rotsW_snoc _ k (by omega)]; exact List.take_prefix _ _, hJx3⟩⟩
        · rcases hP with ⟨-, hJ3, hk3⟩ | ⟨h, _⟩
          · gi_wp2
            go_roundw
            case rel => exact ⟨k + 1, by omega, by simp, by rw [rotsW_snoc _ k (by omega)]; exact hJ3, hk3 _ hnx'⟩
            case measure => simp [intOf]; omega
          · cases h
    · obtain rfl : k = s.size := by omega
      gi_wp2
      go_end0
      exact ⟨⟨_, rfl⟩, .inl ⟨_, rfl, by rw [List.take_of_length_le (by rw [rotsW_len]; omega)] at hJs; exact hJs⟩⟩

theorem wrounds_stops (n : Nat) (hn : 1 ≤ n) (Bs : Nat) (s : ByteArray) (hs : s.size ≤ 1000000000) (w : World) (hBs : Bs < w.heap.size)
    (hc : w.cell? ⟨Bs, 0, none⟩ = some (.string s)) :
    SeqStopsK Fence.wide n Try.prog 50 #[.pointer (some ⟨Bs, 0, none⟩)] encT (KC Bs) (fun ys => ys = rotsW s.data.toList) (fun pre => pre <+: rotsW s.data.toList) s.size w := fun l J Jx W hW hJ _ hY h0 =>
  wrounds1_in n hn l Bs s hs J Jx (fun pre W k h => hJ pre W (W.drewN k) none h ⟨rfl, rfl, rfl, Nat.le_refl _, fun _ _ _ => rfl⟩ (fun _ e => by cases e)) hY W ((hW.cell (p := ⟨Bs, 0, none⟩) hBs).trans hc) h0

set_option maxRecDepth 100000 in
set_option maxHeartbeats 2000000 in
theorem necklace_ (s : ByteArray) (hs : s.size ≤ 1000000000) (w : World) : Calls Try.prog 23 #[.string s] w (fun E' W' => E' = .returned (.string (txt (nk s.data.toList))) ∧ Below w.heap.size w W') := by
  refine (callsIn_wide (n := 6)).1 ?_
  refine callsIn_of_wp_marks Try.func23 rfl trivial ?_ rfl
  simp only [Try.ntmps23, List.size_toArray, List.length_cons, List.length_nil, Nat.reduceAdd, Nat.reduceSub, Array.replicate_succ, Array.replicate_zero, List.push_toArray, List.append_toArray, List.nil_append, List.cons_append]
  have hM := mem_nil w; have hB := Below.refl w.heap.size w; have hC := True.intro
  gi_wp2_with (refine ⟨trivial, ?_⟩; gi_at_call 38; refine (callsIn_wide.2 (wrounds_ _ _)).mono ?_; rintro e w' ⟨rfl, rfl⟩)
  refine wpIn_rangeFunc_ownF rfl (by omega) (gf := 50) (lb := #[.pointer (some ⟨w.heap.size + 1, 0, none⟩)]) rfl trivial (enters_of Try.func50 (by kernel_rfl) rfl)
    (wrounds_stops 5 (by omega) (w.heap.size + 1) s (by omega) _ (by simp) ?cell) kc_t (kc_b (by simp)) (Below.refl _ _) (fun _ => rfl)
    (fun pre W => MB w (fun pre => [(w.heap.size + 1, #[.string s], 42), (w.heap.size, #[.string (txt (pre.foldl mn s.data.toList))], 42)]) pre W)
    (fun _ _ _ => False)
    (mb_own (by simp; omega) _) (fun _ _ _ _ _ hs _ _ => hs) ?start
    (fun x => { tmps := #[.string s, undef, .string ⟨#[]⟩, .pointer (some ⟨w.heap.size, 0, none⟩), .string (txt x), .string s, .string s, .func (.func 50) #[] #[.pointer (some ⟨w.heap.size + 1, 0, none⟩)], .string (txt x), undef, undef, undef, undef], defers := [] }) ?assign ?body ?done ?stop
  case cell => simp
  case start =>
    refine ⟨?_, by (repeat' (first | (with_reducible exact hB) | (with_reducible exact Below.refl _ _) | (with_reducible refine Below.alloc ?_ ?_ _) | (with_reducible refine Below.setCell ?_ ?_ _) | (with_reducible refine Below.drew ?_) | (with_reducible refine below_drewN ?_ _) | (with_reducible exact Nat.le_refl _) | (with_reducible exact hB.size) | (simp [go_sem]; done) | (have := hB.size; simp [go_sem]; omega)))⟩
    apply mem_drop 0
    · (repeat' (first | (with_reducible exact hM) | (with_reducible apply mem_alloc) | (with_reducible apply mem_set) | (with_reducible apply mem_drew) | (with_reducible apply mem_drewN)))
    · simp [txt_of]
  case assign =>
    intro l x W K hK
    simp only [encT]
    gi_wp2
    exact hK
  case body =>
    rintro l pre x W ⟨hM', hB'⟩ _
    (try clear hC); clear hM hB; have hM := hM'; have hB := hB'; clear hM' hB'; have hC := mem_facts hM; simp at hC
    have hK := KeepsOthers.refl W
    have hM0 := Lib.hid hM
    have hmin := fun ts t W => run_minT ts t (pre.foldl mn s.data.toList) x W
    gi_wp2
    refine ⟨(by repeat' (first | (with_reducible exact hK) | (with_reducible exact KeepsOthers.refl _) | (with_reducible apply keeps_alloc) | (with_reducible apply keeps_set) | (with_reducible apply keeps_drew) | (with_reducible apply keeps_drewN))), ?_, ?_, by (repeat' (first | (with_reducible exact hB) | (with_reducible exact Below.refl _ _) | (with_reducible refine Below.alloc ?_ ?_ _) | (with_reducible refine Below.setCell ?_ ?_ _) | (with_reducible refine Below.drew ?_) | (with_reducible refine below_drewN ?_ _) | (with_reducible exact Nat.le_refl _) | (with_reducible exact hB.size) | (simp [go_sem]; done) | (have := hB.size; simp [go_sem]; omega)))⟩
    · refine kc_mem hM0.out (L' := [(w.heap.size + 1, #[.string s], 42), (w.heap.size, #[.string (txt (mn (pre.foldl mn s.data.toList) x))], 42)]) ?_ List.mem_cons_self List.mem_cons_self
      apply mem_drop 0
      · (repeat' (first | (with_reducible exact hM) | (with_reducible apply mem_alloc) | (with_reducible apply mem_set) | (with_reducible apply mem_drew) | (with_reducible apply mem_drewN)))
      · simp
    · apply mem_drop 0
      · (repeat' (first | (with_reducible exact hM) | (with_reducible apply mem_alloc) | (with_reducible apply mem_set) | (with_reducible apply mem_drew) | (with_reducible apply mem_drewN)))
      · simp
  case done =>
    rintro D ys W hD rfl ⟨hM', hB'⟩ hd
    (try clear hC); clear hM hB; have hM := hM'; have hB := hB'; clear hM' hB'; have hC := mem_facts hM; simp at hC
    gi_wp2
    refine fin_marks (w := w) hd hD (by simp; omega) (KeepsOthers.refl W) hM hB ?_
    intro W' hM' hB'
    exact ⟨_, results_tmp rfl _ _ _, rfl, hB'⟩
  case stop =>
    rintro D c pre W hD hpre h hd
    exact h.elim
end Go.Proofs.Ythpbdcookhpdaaa

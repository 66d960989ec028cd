
/- What the exact laws use besides on lists of whole numbers: two of them compared, one of them marked, and looked at again. -/
import Derived.Test.YtjeplhmfcofgiaaDoorRow
namespace Go.Proofs.YtjeplhmfcofgiaaDoor
open Go.RowKit

/-- the slice v reads as the numbers zs -/
def ReadsI (W : World) (v : Value) (zs : List Int) : Prop := ∃ ao cap, v = .slice ao zs.length cap ∧ ∀ j (_ : j < zs.length), ∃ g, ao = some ⟨g, 0, none⟩ ∧ W.cell? ⟨g, j, none⟩ = some (.int .i64 (zs.getD j 0))
theorem IntRow.reads {base : Nat} {W : World} {v : Value} {zs : List Int} (h : IntRow base W v zs) : ReadsI W v zs := by
  have h' := h
  rcases h.2 with ⟨rfl, h0⟩ | ⟨g, cap, cur, rfl, _⟩
  · have : zs = [] := by simpa using h0
    subst this
    exact ⟨none, 0, rfl, fun j hj => absurd hj (by simp)⟩
  · refine ⟨some ⟨g, 0, none⟩, cap, by rw [List.length_map], fun j hj => ⟨g, rfl, ?_⟩⟩
    rw [h'.cellAt j (by simpa using hj)]
    simp [List.getD, hj]
theorem ReadsI.below {W W' : World} {v : Value} {zs : List Int} (h : ReadsI W v zs) (hb : Below W.heap.size W W') : ReadsI W' v zs := by
  obtain ⟨ao, cap, rfl, hc⟩ := h
  refine ⟨ao, cap, rfl, fun j hj => ?_⟩
  obtain ⟨g, e, h1⟩ := hc j hj
  exact ⟨g, e, by rw [hb.cell (World.block_lt_of_cell? W _ h1)]; exact h1⟩
theorem IntRow.below {base : Nat} {W W' : World} {v : Value} {zs : List Int} (h : IntRow base W v zs) (hb : Below W.heap.size W W') : IntRow base W' v zs := by
  refine h.kept (row := none) ⟨hb.os, hb.tape, hb.output, hb.size, fun k hk _ => hb.block k hk⟩ ?_
  cases hv : v.ownBlock
  · exact .inl rfl
  · exact .inr (by simp)
set_option maxHeartbeats 1000000 in
theorem eqIntS_same (v u : Value) (zs : List Int) (hz : zs.length ≤ 1000000000) (w : World) (hv : ReadsI w v zs) (hu : ReadsI w u zs) : Calls Tryd.prog 11 #[v, u] w (fun E' W' => E' = .returned (.bool true) ∧ Below w.heap.size w W') := by
  obtain ⟨ao, cap, rfl, hc⟩ := hv
  obtain ⟨bo, cap', rfl, hd⟩ := hu
  have HC := Lib.hid hc
  have HD := Lib.hid hd
  clear hc hd
  have hM := mem_nil w; have hB := Below.refl w.heap.size w; have hC := True.intro
  go_enter Tryd.func11, Tryd.ntmps11
  go_wp2
  go_loopw [5] (fun i wr => ∃ k : Nat, k ≤ zs.length ∧ i = .int .i64 k ∧ Below w.heap.size w wr) (fun i _ => zs.length - (intOf i).toNat)
  case atStart => exact ⟨0, Nat.zero_le _, rfl, by (repeat' (first | (with_reducible exact hB) | (with_reducible exact Below.refl _ _) | (with_reducible refine Below.alloc ?_ ?_ _) | (with_reducible refine Below.setCell ?_ ?_ _) | (with_reducible refine Below.drew ?_) | (with_reducible refine below_drewN ?_ _) | (with_reducible exact Nat.le_refl _) | (with_reducible exact hB.size) | (simp [go_sem]; done) | (have := hB.size; simp [go_sem]; omega)))⟩
  case round =>
    obtain ⟨k, hk, rfl, hB'⟩ := hrel
    clear hB hM hC
    have hB := hB'
    clear hB'
    by_cases hlt : k < zs.length
    · obtain ⟨g, rfl, h1⟩ := HC.out k hlt
      obtain ⟨g', rfl, h2⟩ := HD.out k hlt
      have c1 : wr.cell? ⟨g, k, none⟩ = some (.int .i64 (zs.getD k 0)) := by rw [hB.cell (World.block_lt_of_cell? w _ h1)]; exact h1
      have c2 : wr.cell? ⟨g', k, none⟩ = some (.int .i64 (zs.getD k 0)) := by rw [hB.cell (World.block_lt_of_cell? w _ h2)]; exact h2
      clear h1 h2
      generalize zs.getD k 0 = z at c1 c2
      go_wp2_with fail
      go_quiet (fail)
      go_wp2
      go_roundw
      case rel => exact ⟨k + 1, by omega, by go_num, by (repeat' (first | (with_reducible exact hB) | (with_reducible exact Below.refl _ _) | (with_reducible refine Below.alloc ?_ ?_ _) | (with_reducible refine Below.setCell ?_ ?_ _) | (with_reducible refine Below.drew ?_) | (with_reducible refine below_drewN ?_ _) | (with_reducible exact Nat.le_refl _) | (with_reducible exact hB.size) | (simp [go_sem]; done) | (have := hB.size; simp [go_sem]; omega)))⟩
      case measure => simp [intOf]; omega
    · obtain rfl : k = zs.length := by omega
      go_wp2
      go_ret
      exact ⟨rfl, by (repeat' (first | (with_reducible exact hB) | (with_reducible exact Below.refl _ _) | (with_reducible refine Below.alloc ?_ ?_ _) | (with_reducible refine Below.setCell ?_ ?_ _) | (with_reducible refine Below.drew ?_) | (with_reducible refine below_drewN ?_ _) | (with_reducible exact Nat.le_refl _) | (with_reducible exact hB.size) | (simp [go_sem]; done) | (have := hB.size; simp [go_sem]; omega)))⟩

/-- the marks from 1 on -/
def upI (n : Nat) : List Int := (List.range n).map (fun (j : Nat) => (j : Int) + 1)
theorem upI_len (n : Nat) : (upI n).length = n := by simp [upI]
theorem upI_get {n j : Nat} (h : j < n) : (upI n).getD j 0 = (j : Int) + 1 := by simp [upI, List.getD, h]
theorem upI_succ (n : Nat) : upI (n + 1) = upI n ++ [(n : Int) + 1] := by simp [upI, List.range_succ]
theorem mark_step {zs : List Int} {k : Nat} (h : k < zs.length) : ((upI k ++ zs.drop k).map (Value.int .i64)).set k (Value.int .i64 ((k : Int) + 1)) = (upI (k + 1) ++ zs.drop (k + 1)).map (Value.int .i64) := by
  rw [List.drop_eq_getElem_cons h, upI_succ, List.map_append, List.set_append_right _ _ (by simp [upI_len])]
  simp [upI_len]
  rw [List.drop_eq_getElem_cons (by simpa using h)]
  rfl
def MarkPost (base : Nat) (v : Value) (n : Nat) (w : World) (e : Ending) (W' : World) : Prop := e = .returned (.int .i64 ((n : Int) + 1)) ∧ IntRow base W' v (upI n) ∧ w.grownBy W' v.ownBlock
set_option maxHeartbeats 1000000 in
theorem markIntS_ (base : Nat) (v : Value) (zs : List Int) (hz : zs.length ≤ 1000000000) (w : World) (hv : IntRow base w v zs) : Calls Tryd.prog 15 #[v, .int .i64 1] w (MarkPost base v zs.length w) := by
  obtain ⟨ao, cap, rfl⟩ := row_form hv
  have HV := Lib.hid hv
  clear hv
  simp only [List.length_map] at HV ⊢
  go_enter Tryd.func15, Tryd.ntmps15
  go_wp2
  go_loopw [1, 5] (fun kk i wr => ∃ k : Nat, k ≤ zs.length ∧ i = .int .i64 k ∧ kk = .int .i64 ((k : Int) + 1) ∧ IntRow base wr (.slice ao zs.length cap) (upI k ++ zs.drop k) ∧ w.grownBy wr (Value.slice ao zs.length cap).ownBlock) (fun _ i _ => zs.length - (intOf i).toNat)
  case atStart => exact ⟨0, Nat.zero_le _, rfl, rfl, HV.out, World.grownBy.refl w _⟩
  case round =>
    obtain ⟨k, hk, rfl, rfl, hR, hg⟩ := hrel
    have HG := Lib.hid hg
    clear hg
    by_cases hlt : k < zs.length
    · have hlen : ((upI k ++ zs.drop k).map (Value.int .i64)).length = zs.length := by simp [upI_len]; omega
      have hR1 := hR
      unfold IntRow at hR1
      rw [hlen] at hR1
      obtain ⟨g, e⟩ : ∃ g, ao = some ⟨g, 0, none⟩ := by
        rcases hR1.2 with ⟨h1, h2⟩ | ⟨g, c2, cur, h1, _⟩
        · omega
        · exact ⟨g, by injection h1⟩
      subst e
      have hst := hR1.stored k (.int .i64 ((k : Int) + 1))
      have hc : (wr.cell? ⟨g, k, none⟩).isSome = true := by rw [hR1.cellAt k (by omega)]; simp [upI_len]; omega
      obtain ⟨u, hu⟩ := Option.isSome_iff_exists.1 hc
      have hf : wr.frozen? ⟨g, k, none⟩ = false := hR1.frozenAt _
      have HS := Lib.hid hst
      clear hst hR hR1 hc hlen
      go_wp2
      go_roundw
      case rel =>
        refine ⟨k + 1, by omega, by go_num, by go_num, ?_, ?_⟩
        · have h1 := HS.out.1
          rw [mark_step hlt] at h1
          unfold IntRow
          rw [show ((upI (k + 1) ++ zs.drop (k + 1)).map (Value.int .i64)).length = zs.length from by simp [upI_len]; omega]
          exact h1
        · have h1 := HS.out.2
          exact ⟨h1.os.trans HG.out.os, h1.tape.trans HG.out.tape, h1.output.trans HG.out.output, Nat.le_trans HG.out.size h1.size, fun j hj hne => (h1.block j (Nat.lt_of_lt_of_le hj HG.out.size) hne).trans (HG.out.block j hj hne)⟩
      case measure => simp [intOf]; omega
    · obtain rfl : k = zs.length := by omega
      rw [List.drop_of_length_le (Nat.le_refl _), List.append_nil] at hR
      have HR := Lib.hid hR
      clear hR
      go_wp2
      go_ret
      exact ⟨rfl, HR.out, HG.out⟩
set_option maxHeartbeats 1000000 in
theorem heldIntS_ (v : Value) (n : Nat) (hn : n ≤ 1000000000) (w : World) (hv : ReadsI w v (upI n)) : Calls Tryd.prog 16 #[v, .int .i64 1] w (fun E' W' => E' = .returned (.int .i64 ((n : Int) + 1)) ∧ w = W') := by
  obtain ⟨ao, cap, rfl, hc⟩ := hv
  simp only [upI_len] at hc ⊢
  have HC := Lib.hid hc
  clear hc
  go_enter Tryd.func16, Tryd.ntmps16
  go_wp2
  go_loop [1, 5] (fun kk i => ∃ k : Nat, k ≤ n ∧ i = .int .i64 k ∧ kk = .int .i64 ((k : Int) + 1)) (fun _ i => n - (intOf i).toNat)
  case atStart => exact ⟨0, Nat.zero_le _, rfl, rfl⟩
  case round =>
    obtain ⟨k, hk, rfl, rfl⟩ := hrel
    by_cases hlt : k < n
    · obtain ⟨g, rfl, h1⟩ := HC.out k hlt
      rw [upI_get hlt] at h1
      go_wp2
      go_round
      case rel => exact ⟨k + 1, by omega, by go_num, by go_num⟩
      case measure => simp [intOf]; omega
    · obtain rfl : k = n := by omega
      go_wp2
      go_ret
      exact ⟨rfl, rfl⟩
end Go.Proofs.YtjeplhmfcofgiaaDoor

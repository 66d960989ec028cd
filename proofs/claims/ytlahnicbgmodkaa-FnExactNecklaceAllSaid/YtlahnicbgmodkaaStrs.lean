
/- The harness of the exact laws at lists of texts: one list reads as another; marks are written, and read again. -/
import Derived.Test.YtlahnicbgmodkaaNecL
import Derived.Test.YtlahnicbgmodkaaInts
import Derived.Test.YtlahnicbgmodkaaHeld
namespace Go.Proofs.Ytlahnicbgmodkaa
open Go.RowKit Go.Shelf Go.Lib

theorem rdT_of_rowS {w : World} {base : Nat} {v : Value} {xs : List (List UInt8)} {e : TypeId} (h : w.ownsRow base e 1 v xs.length (xs.map strV)) : RdT w v xs := by
  obtain ⟨_, ⟨rfl, h0⟩ | ⟨g, cap, cur, rfl, hb, hg, hn, hc, hs, ht⟩⟩ := h
  · exact ⟨none, 0, by rw [h0], fun j hj => by omega⟩
  · refine ⟨some ⟨g, 0, none⟩, cap, rfl, fun j hj => ⟨g, rfl, ?_⟩⟩
    have h1 : cur.toList[j]? = (xs.map strV)[j]? := by
      rw [← ht, List.getElem?_take_of_lt (by omega)]
    have h2 : cur[j]? = some (strV (xs.getD j [])) := by
      rw [← Array.getElem?_toList, h1, List.getElem?_map, List.getD_eq_getElem?_getD, List.getElem?_eq_getElem hj]; rfl
    simp [World.cell?, hg, h2]
set_option maxHeartbeats 2000000 in
theorem eqStringS_same (v u : Value) (zs : List (List UInt8)) (hz : zs.length ≤ 1000000000) (w : World) (hv : RdT w v zs) (hu : RdT w u zs) : Calls Try.prog 7 #[v, u] w (fun E' W' => E' = .returned (.bool true) ∧ Below w.heap.size w W') := by
  obtain ⟨ao, cap, rfl, hc⟩ := hv
  obtain ⟨bo, cap', rfl, hd⟩ := hu
  have HC := Lib.hid hc
  have HD := Lib.hid hd
  clear hc hd
  have hM := mem_nil w; have hB := Below.refl w.heap.size w; have hC := True.intro
  go_enter Try.func7, Try.ntmps7
  go_wp2
  go_loopw [5] (fun i wr => ∃ k : Nat, k ≤ zs.length ∧ i = .int .i64 k ∧ Below w.heap.size w wr) (fun i _ => zs.length - (intOf i).toNat)
  case atStart => exact ⟨0, Nat.zero_le _, rfl, by (repeat' (first | (with_reducible exact hB) | (with_reducible exact Below.refl _ _) | (with_reducible refine Below.alloc ?_ ?_ _) | (with_reducible refine Below.setCell ?_ ?_ _) | (with_reducible refine Below.drew ?_) | (with_reducible refine below_drewN ?_ _) | (with_reducible exact Nat.le_refl _) | (with_reducible exact hB.size) | (simp [go_sem]; done) | (have := hB.size; simp [go_sem]; omega)))⟩
  case round =>
    obtain ⟨k, hk, rfl, hB'⟩ := hrel
    clear hB hM hC
    have hB := hB'
    clear hB'
    by_cases hlt : k < zs.length
    · obtain ⟨g, rfl, h1⟩ := HC.out k hlt
      obtain ⟨g', rfl, h2⟩ := HD.out k hlt
      have c1 : wr.cell? ⟨g, k, none⟩ = some (strV (zs.getD k [])) := by rw [hB.cell (World.block_lt_of_cell? w _ h1)]; exact h1
      have c2 : wr.cell? ⟨g', k, none⟩ = some (strV (zs.getD k [])) := by rw [hB.cell (World.block_lt_of_cell? w _ h2)]; exact h2
      clear h1 h2
      unfold strV at c1 c2
      generalize zs.getD k [] = z at c1 c2
      go_wp2_with fail
      go_quiet (fail)
      go_wp2
      go_roundw
      case rel => exact ⟨k + 1, by omega, by go_num, by (repeat' (first | (with_reducible exact hB) | (with_reducible exact Below.refl _ _) | (with_reducible refine Below.alloc ?_ ?_ _) | (with_reducible refine Below.setCell ?_ ?_ _) | (with_reducible refine Below.drew ?_) | (with_reducible refine below_drewN ?_ _) | (with_reducible exact Nat.le_refl _) | (with_reducible exact hB.size) | (simp [go_sem]; done) | (have := hB.size; simp [go_sem]; omega)))⟩
      case measure => simp [intOf]; omega
    · obtain rfl : k = zs.length := by omega
      go_wp2
      go_ret
      exact ⟨rfl, by (repeat' (first | (with_reducible exact hB) | (with_reducible exact Below.refl _ _) | (with_reducible refine Below.alloc ?_ ?_ _) | (with_reducible refine Below.setCell ?_ ?_ _) | (with_reducible refine Below.drew ?_) | (with_reducible refine below_drewN ?_ _) | (with_reducible exact Nat.le_refl _) | (with_reducible exact hB.size) | (simp [go_sem]; done) | (have := hB.size; simp [go_sem]; omega)))⟩
/-- the mark of a number as a text -/
def mkO (k : Nat) (out : ByteArray) : ByteArray := if _h : k = 0 then out else mkO (k / 10) (⟨#[UInt8.ofNat (48 + k % 10)]⟩ ++ out)
termination_by k
decreasing_by omega
theorem mkO_size (k : Nat) : ∀ out : ByteArray, (mkO k out).size ≤ out.size + k := by
  induction k using Nat.strongRecOn with
  | ind k ih =>
    intro out
    rw [mkO]
    split
    · omega
    · rename_i h
      have := ih (k / 10) (by omega) (⟨#[UInt8.ofNat (48 + k % 10)]⟩ ++ out)
      have hs : (⟨#[UInt8.ofNat (48 + k % 10)]⟩ ++ out : ByteArray).size = 1 + out.size := by rw [ByteArray.size_append]; rfl
      omega
def mkT (n : Nat) : ByteArray := ⟨#[109]⟩ ++ mkO n ⟨#[]⟩
set_option maxRecDepth 100000 in
set_option maxHeartbeats 2000000 in
theorem markText_ (n : Nat) (h1 : 1 ≤ n) (hn : n ≤ 1000000) (w : World) : Calls Try.prog 15 #[.int .i64 n] w (fun E' W' => E' = .returned (.string (mkT n)) ∧ Below w.heap.size w W') := by
  have hM := mem_nil w; have hB := Below.refl w.heap.size w; have hC := True.intro
  go_enter Try.func15, Try.ntmps15
  go_wp2
  go_loopw [0, 3] (fun k o wr => ∃ (j : Nat) (out : ByteArray), j ≤ n ∧ k = .int .i64 (j : Int) ∧ o = .string out ∧ mkO j out = mkO n ⟨#[]⟩ ∧ out.size + j ≤ n ∧ Below w.heap.size w wr) (fun k _ _ => (intOf k).toNat)
  case atStart => exact ⟨n, ⟨#[]⟩, Nat.le_refl _, rfl, rfl, rfl, Nat.le_of_eq (Nat.zero_add _), by (repeat' (first | (with_reducible exact hB) | (with_reducible exact Below.refl _ _) | (with_reducible refine Below.alloc ?_ ?_ _) | (with_reducible refine Below.setCell ?_ ?_ _) | (with_reducible refine Below.drew ?_) | (with_reducible refine below_drewN ?_ _) | (with_reducible exact Nat.le_refl _) | (with_reducible exact hB.size) | (simp [go_sem]; done) | (have := hB.size; simp [go_sem]; omega)))⟩
  case round =>
    obtain ⟨j, out, hj, rfl, rfl, hmk, hsz, hB'⟩ := hrel
    clear hB hM hC
    have hB := hB'
    clear hB'
    have HM := Lib.hid hmk
    clear hmk
    by_cases hj0 : j = 0
    · subst hj0
      have hres : mkT n = ⟨#[109]⟩ ++ out := by
        rw [mkT, ← HM.out, mkO]; rfl
      have HR := Lib.hid hres
      clear hres
      go_wp2
      go_ret
      exact ⟨by rw [HR.out]; rfl, by (repeat' (first | (with_reducible exact hB) | (with_reducible exact Below.refl _ _) | (with_reducible refine Below.alloc ?_ ?_ _) | (with_reducible refine Below.setCell ?_ ?_ _) | (with_reducible refine Below.drew ?_) | (with_reducible refine below_drewN ?_ _) | (with_reducible exact Nat.le_refl _) | (with_reducible exact hB.size) | (simp [go_sem]; done) | (have := hB.size; simp [go_sem]; omega)))⟩
    · have hz : (0 < j) = True := by simp; omega
      have hst : mkO (j / 10) (⟨#[UInt8.ofNat (48 + j % 10)]⟩ ++ out) = mkO n ⟨#[]⟩ := by
        rw [← HM.out, mkO.eq_1 j, dif_neg hj0]
      obtain ⟨c, hcc⟩ : ∃ c, c = UInt8.ofNat (48 + j % 10) := ⟨_, rfl⟩
      rw [← hcc] at hst
      have HS := Lib.hid hst
      clear hst
      have hcv : (convert 47 9 (.slice (some ⟨wr.heap.size, 0, none⟩) 1 1)).run Try.prog (wr.alloc (.cells #[.int .u8 (48 + (j : Int) % 10)] 5)) = .ok (.string ⟨#[c]⟩) (wr.alloc (.cells #[.int .u8 (48 + (j : Int) % 10)] 5)) := by
        refine (run_convert_bytes_back _ 47 9 5 ⟨wr.heap.size, 0, none⟩ 1 [c] Try.underlying47 Try.underlying5 Try.underlying9 fun i hi => ?_)
        obtain rfl : i = 0 := by simpa using hi
        have hv : ((48 : Int) + (j : Int) % 10) = (c.toNat : Int) := by
          rw [hcc, UInt8.toNat_ofNat']
          omega
        rw [hv]
        exact cell_one_new _ _ _ 0 _ rfl
      have hsa : (⟨#[c]⟩ ++ out : ByteArray).size = 1 + out.size := by rw [ByteArray.size_append]; rfl
      have HSA := Lib.hid hsa
      clear hsa
      clear hcc
      go_wp2
      go_roundw
      case rel =>
        have hsa := HSA.out
        exact ⟨j / 10, _, by omega, by go_num, rfl, HS.out, by omega, by (repeat' (first | (with_reducible exact hB) | (with_reducible exact Below.refl _ _) | (with_reducible refine Below.alloc ?_ ?_ _) | (with_reducible refine Below.setCell ?_ ?_ _) | (with_reducible refine Below.drew ?_) | (with_reducible refine below_drewN ?_ _) | (with_reducible exact Nat.le_refl _) | (with_reducible exact hB.size) | (simp [go_sem]; done) | (have := hB.size; simp [go_sem]; omega)))⟩
      case measure => simp [intOf]; omega
/-- the marks from 1 on -/
def upT (n : Nat) : List (List UInt8) := (List.range n).map (fun (j : Nat) => (mkT (j + 1)).data.toList)
theorem upT_len (n : Nat) : (upT n).length = n := by simp [upT]
theorem upT_get {n j : Nat} (h : j < n) : txt ((upT n).getD j []) = mkT (j + 1) := by simp [upT, List.getD, h, txt_of]
theorem upT_succ (n : Nat) : upT (n + 1) = upT n ++ [(mkT (n + 1)).data.toList] := by simp [upT, List.range_succ]
theorem markS_step {zs : List (List UInt8)} {k : Nat} (h : k < zs.length) : ((upT k ++ zs.drop k).map strV).set k (.string (mkT (k + 1))) = (upT (k + 1) ++ zs.drop (k + 1)).map strV := by
  have e : zs.drop k = zs[k] :: zs.drop (k + 1) := List.drop_eq_getElem_cons h
  rw [e, upT_succ, List.map_append, List.map_append, List.map_append, List.set_append_right _ _ (by simp [upT_len])]
  simp [upT_len, strV, txt_of]
  rw [List.drop_eq_getElem_cons (by simpa using h)]
  rfl
set_option maxHeartbeats 2000000 in
theorem heldStringS_ (v : Value) (n : Nat) (hn : n ≤ 100000) (w : World) (hv : RdT w v (upT n)) : Calls Try.prog 9 #[v, .int .i64 1] w (fun E' W' => E' = .returned (.int .i64 ((n : Int) + 1)) ∧ Below w.heap.size w W') := by
  obtain ⟨ao, cap, rfl, hc⟩ := hv
  simp only [upT_len] at hc ⊢
  have HC := Lib.hid hc
  clear hc
  have hM := mem_nil w; have hB := Below.refl w.heap.size w; have hC := True.intro
  go_enter Try.func9, Try.ntmps9
  go_wp2
  go_loopw [1, 5] (fun kk i wr => ∃ k : Nat, k ≤ n ∧ i = .int .i64 k ∧ kk = .int .i64 ((k : Int) + 1) ∧ Below w.heap.size w wr) (fun _ i _ => n - (intOf i).toNat)
  case atStart => exact ⟨0, Nat.zero_le _, rfl, rfl, by (repeat' (first | (with_reducible exact hB) | (with_reducible exact Below.refl _ _) | (with_reducible refine Below.alloc ?_ ?_ _) | (with_reducible refine Below.setCell ?_ ?_ _) | (with_reducible refine Below.drew ?_) | (with_reducible refine below_drewN ?_ _) | (with_reducible exact Nat.le_refl _) | (with_reducible exact hB.size) | (simp [go_sem]; done) | (have := hB.size; simp [go_sem]; omega)))⟩
  case round =>
    obtain ⟨k, hk, rfl, rfl, hB'⟩ := hrel
    clear hB hM hC
    have hB := hB'
    clear hB'
    have hM := mem_nil wr
    have hC : True := trivial
    by_cases hlt : k < n
    · obtain ⟨g, rfl, h1⟩ := HC.out k hlt
      have c1 : wr.cell? ⟨g, k, none⟩ = some (.string (mkT (k + 1))) := by
        rw [hB.cell (World.block_lt_of_cell? w _ h1), ← upT_get hlt]; exact h1
      clear h1
      have hT := fun W => markText_ (k + 1) (by omega) (by omega) W
      simp only [Int.natCast_add, Int.natCast_one] at hT
      generalize mkT (k + 1) = z at *
      go_wp2_with fail
      (refine wp_region_T2 (fun W' => W'.cell? ⟨g, k, none⟩ = some (.string z)) 100 (by kernel_rfl) ?_ ?_; (focus (simp [*, go_sem]; done)); intro hS)
      (refine wpT_take (i := 0) (oi := ?_) (v := ?_) hS ?_ ?_ ?_ ?_ ?_ ?_; rotate_left 2; (focus (simp only [List.getElem?_toArray, List.getElem?_cons_zero]; exact rfl)); (focus (kernel_rfl)); (focus (rfl)); (focus (intro w' hW; (try dsimp only at hW); go_simp; (try with_reducible rfl); done)); (focus (exact fun _ _ _ h => h)); (try simp only [Act.put, List.setIfInBounds_toArray, List.set_cons_zero, List.set_cons_succ])); (refine wpT_take (i := 1) (oi := ?_) (v := ?_) hS ?_ ?_ ?_ ?_ ?_ ?_; rotate_left 2; (focus (simp only [List.getElem?_toArray, List.getElem?_cons_zero, List.getElem?_cons_succ]; exact rfl)); (focus (kernel_rfl)); (focus (rfl)); (focus (intro w' hW; (try dsimp only at hW); go_simp; (try with_reducible rfl); done)); (focus (exact fun _ _ _ h => h)); (try simp only [Act.put, List.setIfInBounds_toArray, List.set_cons_zero, List.set_cons_succ])); (refine wpT_take (i := 2) (oi := ?_) (v := ?_) hS ?_ ?_ ?_ ?_ ?_ ?_; rotate_left 2; (focus (simp only [List.getElem?_toArray, List.getElem?_cons_zero, List.getElem?_cons_succ]; exact rfl)); (focus (kernel_rfl)); (focus (rfl)); (focus (intro w' hW; (try dsimp only at hW); go_simp; (try with_reducible rfl); done)); (focus (exact fun _ _ _ h => h)); (try simp only [Act.put, List.setIfInBounds_toArray, List.set_cons_zero, List.set_cons_succ])); (refine wpT_take (i := 3) (oi := ?_) (v := ?_) hS ?_ ?_ ?_ ?_ ?_ ?_; rotate_left 2; (focus (simp only [List.getElem?_toArray, List.getElem?_cons_zero, List.getElem?_cons_succ]; exact rfl)); (focus (kernel_rfl)); (focus (rfl)); (focus (intro w' hW; (try dsimp only at hW); go_simp; (try with_reducible rfl); done)); (focus (exact fun _ _ _ h => h)); (try simp only [Act.put, List.setIfInBounds_toArray, List.set_cons_zero, List.set_cons_succ])); (refine wpT_take (i := 4) (oi := ?_) (v := ?_) hS ?_ ?_ ?_ ?_ ?_ ?_; rotate_left 2; (focus (simp only [List.getElem?_toArray, List.getElem?_cons_zero, List.getElem?_cons_succ]; exact rfl)); (focus (kernel_rfl)); (focus (rfl)); (focus (intro w' hW; (try dsimp only at hW); go_simp; (try with_reducible rfl); done)); (focus (exact fun _ _ _ h => h)); (try simp only [Act.put, List.setIfInBounds_toArray, List.set_cons_zero, List.set_cons_succ]))
      (refine wpT_one (i := 5) (oi := ?_) ?_ ?_ ?_ ?_; rotate_left 1; (focus (kernel_rfl)); (focus (simp only [List.getElem?_toArray, List.getElem?_cons_zero, List.getElem?_cons_succ]; exact rfl)); (focus (rfl)); go_simp)
      go_at_call 15
      refine (hT _).mono ?_
      rintro e w1 ⟨rfl, hb⟩
      have c2 : w1.cell? ⟨g, k, none⟩ = some (.string z) := by rw [hb.cell (World.block_lt_of_cell? wr _ c1)]; exact c1
      have hB2 : Below w.heap.size w w1 := hB.drew.trans (hb.mono hB.size)
      clear c1 hb hB hM
      (first | (with_reducible refine wpT_hold ?_ ?_; (focus (simp [*, go_sem]; done)); clear hS; intro hS; (try dsimp only at hS)) | (refine held_intro ?_ ?_; (focus (simp [*, go_sem]; done)); clear hS; intro hS))
      (refine wpT_take (i := 6) (oi := ?_) (v := ?_) hS ?_ ?_ ?_ ?_ ?_ ?_; rotate_left 2; (focus (simp only [List.getElem?_toArray, List.getElem?_cons_zero, List.getElem?_cons_succ]; exact rfl)); (focus (kernel_rfl)); (focus (rfl)); (focus (intro w' hW; (try dsimp only at hW); go_simp; (try with_reducible rfl); done)); (focus (exact fun _ _ _ h => h)); (try simp only [Act.put, List.setIfInBounds_toArray, List.set_cons_zero, List.set_cons_succ]))
      refine wpT_done (by kernel_rfl) ?_ _
      go_wp2_with fail
      go_roundw
      case rel => exact ⟨k + 1, by omega, by go_num, by go_num, hB2⟩
      case measure => simp [intOf]; omega
    · obtain rfl : k = n := by omega
      go_wp2
      go_ret
      exact ⟨rfl, by (repeat' (first | (with_reducible exact hB) | (with_reducible exact Below.refl _ _) | (with_reducible refine Below.alloc ?_ ?_ _) | (with_reducible refine Below.setCell ?_ ?_ _) | (with_reducible refine Below.drew ?_) | (with_reducible refine below_drewN ?_ _) | (with_reducible exact Nat.le_refl _) | (with_reducible exact hB.size) | (simp [go_sem]; done) | (have := hB.size; simp [go_sem]; omega)))⟩
def MarkPostS (base : Nat) (v : Value) (n : Nat) (w : World) (e : Ending) (W' : World) : Prop := e = .returned (.int .i64 ((n : Int) + 1)) ∧ W'.ownsRow base 9 1 v n ((upT n).map strV) ∧ w.grownBy W' v.ownBlock
theorem gx_below {w w' : World} {r : Option Nat} (h : Go.RowKit.Below w.heap.size w w') : w.grownBy w' r := ⟨h.os, h.tape, h.output, h.size, fun i hi _ => h.block i hi⟩
theorem gx_trans {r : Option Nat} {a b c : World} (h : a.grownBy b r) (k : b.grownBy c r) : a.grownBy c r :=
  ⟨k.os.trans h.os, k.tape.trans h.tape, k.output.trans h.output, Nat.le_trans h.size k.size, fun i hi hne => (k.block i (Nat.lt_of_lt_of_le hi h.size) hne).trans (h.block i hi hne)⟩
set_option maxHeartbeats 2000000 in
theorem markStringS_ (base : Nat) (v : Value) (zs : List (List UInt8)) (hz : zs.length ≤ 100000) (w : World) (hv : w.ownsRow base 9 1 v zs.length (zs.map strV)) : Calls Try.prog 8 #[v, .int .i64 1] w (MarkPostS base v zs.length w) := by
  obtain ⟨ao, cap, rfl⟩ := row_form hv
  have HV := Lib.hid hv
  clear hv
  go_enter Try.func8, Try.ntmps8
  go_wp2
  go_loopw [1, 5] (fun kk i wr => ∃ k : Nat, k ≤ zs.length ∧ i = .int .i64 k ∧ kk = .int .i64 ((k : Int) + 1) ∧ wr.ownsRow base 9 1 (.slice ao zs.length cap) zs.length ((upT k ++ zs.drop k).map strV) ∧ w.grownBy wr (Value.slice ao zs.length cap).ownBlock) (fun _ i _ => zs.length - (intOf i).toNat)
  case atStart => exact ⟨0, Nat.zero_le _, rfl, rfl, HV.out, World.grownBy.refl w _⟩
  case round =>
    obtain ⟨k, hk, rfl, rfl, hR, hg⟩ := hrel
    have HG := Lib.hid hg
    clear hg
    by_cases hlt : k < zs.length
    · obtain ⟨g, e⟩ : ∃ g, ao = some ⟨g, 0, none⟩ := by
        rcases hR.2 with ⟨h1, h2⟩ | ⟨g, c2, cur, h1, _⟩
        · omega
        · exact ⟨g, by injection h1⟩
      subst e
      have hT := fun W => markText_ (k + 1) (by omega) (by omega) W
      simp only [Int.natCast_add, Int.natCast_one] at hT
      have HR := Lib.hid hR
      clear hR
      go_wp2_with fail
      go_at_call 15
      refine (hT _).mono ?_
      rintro e w1 ⟨rfl, hb⟩
      have hR1 := row_keep HR.out hb
      have hst := hR1.stored k (.string (mkT (k + 1)))
      have hc : (w1.cell? ⟨g, k, none⟩).isSome = true := by rw [hR1.cellAt k (by omega)]; simp [upT_len]; omega
      obtain ⟨u, hu⟩ := Option.isSome_iff_exists.1 hc
      have hf : w1.frozen? ⟨g, k, none⟩ = false := hR1.frozenAt _
      have HS := Lib.hid hst
      have HB := Lib.hid hb
      clear hst hR1 hc hb hT
      go_wp2_with fail
      go_roundw
      case rel =>
        refine ⟨k + 1, by omega, by go_num, by go_num, ?_, ?_⟩
        · have h1 := HS.out.1
          rw [markS_step hlt] at h1
          exact h1
        · exact gx_trans HG.out (gx_trans (gx_below HB.out) HS.out.2)
      case measure => simp [intOf]; omega
    · obtain rfl : k = zs.length := by omega
      rw [List.drop_of_length_le (Nat.le_refl _), List.append_nil] at hR
      have HR := Lib.hid hR
      clear hR
      go_wp2
      go_ret
      exact ⟨rfl, HR.out, HG.out⟩
end Go.Proofs.Ytlahnicbgmodkaa


/- The program's necklaces kept in a map: cleared, filled, put in order; walked. -/
import Derived.Test.YthpbdcookhpdaaaSortP
import Derived.Test.YthpbdcookhpdaaaNeckP
import Derived.Test.YthpbdcookhpdaaaAllP
import Derived.Maps.Own
import Derived.Maps.Views
import Derived.Maps.OwnSet
namespace Go.Proofs.Ythpbdcookhpdaaa
open Go.RowKit Go.Shelf Go.Maps Go.ChangeMaps Go.MapKept

theorem clear_map {H : Type} {P : Program} {w : World} {k t e ty : TypeId} {R : Value → Option (DataW H × List MemPlace)} {b n : Nat} {D : DataW H} (h : w.ownsMap P k R b n D) (ht : P.underlying t = some (.map k e)) :
    ∃ w', (Builtin.clear_ #[t] ty #[.map (some b)]).run P w = .ok (.tuple #[]) w' ∧ w'.ownsMap P k R b 0 (.map []) ∧ w.grownBy w' (some b) := by
  obtain ⟨es, clock, hb, F, hs, rfl⟩ := h
  refine ⟨setBlock w b (.map #[] clock), ?_, ⟨#[], clock, heap_setBlock_same hb _, ⟨by simp, stamped_empty clock, by simp⟩, Nat.le_refl _, rfl⟩, ⟨rfl, rfl, rfl, by simp [setBlock], fun i _ hi => heap_setBlock_other hb _ (fun e => hi (by rw [e]))⟩⟩
  have h1 := MapKept.run_getObj_map (P := P) hb
  have h2 := MapKept.run_setObj_map (P := P) (.map #[] clock) hb
  have h3 := run_underlying ht w
  simp [Builtin.clear_, h1, h2, h3, Result.andThen, setBlock]
/-- a text as a map's key reads -/
def litT (x : List UInt8) : Lit := .string x
/-- the necklaces of n letters of the words -/
def keyN (ws : List (List UInt8)) (n : Nat) : List (List UInt8) := (ws.filter fun x => x.length == n).map nk
theorem keyN_snoc (ws : List (List UInt8)) (x : List UInt8) (n : Nat) : keyN (ws ++ [x]) n = keyN ws n ++ (if x.length = n then [nk x] else []) := by
  unfold keyN
  by_cases h : x.length = n
  · simp [h, List.filter_append]
  · have : (x.length == n) = false := by simpa using h
    simp [h, List.filter_append, this]
def setN {H : Type} (ks : List (List UInt8)) : DataW H := setOf (.lit (.bool true)) (ks.map litT)
theorem setN_snoc {H : Type} (ks : List (List UInt8)) (x : List UInt8) : setN (H := H) (ks ++ [x]) = (setN ks).put (litT x) (.lit (.bool true)) := by
  unfold setN
  rw [List.map_append]
  exact setOf_snoc _ _ _
abbrev OwnsN (W : World) (b n : Nat) (ks : List (List UInt8)) : Prop := W.ownsMap Try.prog 42 (plainElem (H := Unit) Try.prog 4) b n (setN ks)
theorem gb_trans {R : Nat} {a b c : World} (h : a.grownBy b (some R)) (k : b.grownBy c (some R)) : a.grownBy c (some R) :=
  ⟨k.os.trans h.os, k.tape.trans h.tape, k.output.trans h.output, Nat.le_trans h.size k.size, fun i hi hne => (k.block i (Nat.lt_of_lt_of_le hi h.size) hne).trans (h.block i hi hne)⟩
theorem gb_below {R : Nat} {w w' : World} (h : Go.RowKit.Below w.heap.size w w') : w.grownBy w' (some R) := ⟨h.os, h.tape, h.output, h.size, fun i hi _ => h.block i hi⟩
theorem gn_below {w w' : World} (h : Go.RowKit.Below w.heap.size w w') : w.grownBy w' none := ⟨h.os, h.tape, h.output, h.size, fun i hi _ => h.block i hi⟩
theorem gb_cell {R g o : Nat} {w w' : World} {v : Value} (h : w.grownBy w' (some R)) (hne : g ≠ R) (hc : w.cell? ⟨g, o, none⟩ = some v) : w'.cell? ⟨g, o, none⟩ = some v := by
  have hg : g < w.heap.size := World.block_lt_of_cell? w _ hc
  rw [← hc]
  exact World.cell?_of_block (a := ⟨g, o, none⟩) (h.block g hg (fun e => hne (Option.some.inj e)))
/-- a slice of texts that is read -/
def RdT (w : World) (v : Value) (xs : List (List UInt8)) : Prop := ∃ ao cap, v = .slice ao xs.length cap ∧ ∀ j, j < xs.length → ∃ g, ao = some ⟨g, 0, none⟩ ∧ w.cell? ⟨g, j, none⟩ = some (strV (xs.getD j []))
/-- at the head of a round: k words have been looked at -/
def AkR (ws : List (List UInt8)) (n b : Nat) (w : World) (k : Value) (wr : World) : Prop := ∃ j : Nat, j ≤ ws.length ∧ k = .int .i64 j ∧ OwnsN wr b j (keyN (ws.take j) n) ∧ w.grownBy wr (some b)
set_option maxRecDepth 100000 in
set_option maxHeartbeats 4000000 in
theorem ask_ (b n nb : Nat) (v : Value) (ws ks : List (List UInt8)) (hws : ∀ x ∈ ws, x.length ≤ 40) (hlen : ws.length ≤ 10000) (w : World) (hown : OwnsN w b nb ks) (hr : RdT w v ws) :
    Calls Try.prog 25 #[.map (some b), v, .int .i64 n] w fun e w' => e = .returned (.tuple #[]) ∧ OwnsN w' b ws.length (keyN ws n) ∧ w.grownBy w' (some b) := by
  obtain ⟨ao, cap, rfl, hr⟩ := hr
  obtain ⟨w0, hrun, hown0, hg0⟩ := clear_map (ty := 0) hown Try.underlying53
  have hne : ∀ g j v, w.cell? ⟨g, j, none⟩ = some v → g ≠ b := by
    rintro g j v hc rfl
    obtain ⟨es, clock, hb, _⟩ := hown
    have : w.cell? ⟨g, j, none⟩ = none := by simp [World.cell?, hb]
    rw [this] at hc; cases hc
  have HR := Lib.hid hr
  have HNE := Lib.hid hne
  clear hr hne
  go_enter Try.func25, Try.ntmps25
  go_wp2
  go_loopw [11] (fun k wr => AkR ws n b w k wr) (fun k _ => ws.length - (intOf k).toNat)
  case atStart => exact ⟨0, Nat.zero_le _, rfl, hown0, hg0⟩
  case round =>
    obtain ⟨j, hj, rfl, hownr, hgw⟩ := hrel
    clear hown hown0 hg0 hrun
    by_cases hlt : j < ws.length
    · obtain ⟨g, rfl, hc⟩ := HR.out j hlt
      have hcj := gb_cell hgw (HNE.out _ _ _ hc) hc
      obtain ⟨x, hx⟩ : ∃ x, x = ws.getD j [] := ⟨_, rfl⟩
      rw [← hx] at hcj
      clear hc
      have hmem : x ∈ ws := by rw [hx, show ws.getD j [] = ws[j] from by simp [List.getD, hlt]]; exact List.getElem_mem _
      have hx40 := hws x hmem
      have HT := Lib.hid (show ws.take (j + 1) = ws.take j ++ [x] from by
        rw [List.take_succ_eq_append_getElem hlt, hx, show ws.getD j [] = ws[j] from by simp [List.getD, hlt]])
      have HK := Lib.hid (keyN_snoc (ws.take j) x n)
      clear hx hmem
      unfold strV at hcj
      have hsz : (txt x).size = x.length := txt_size x
      have hnk := fun W => necklace_ (txt x) (by omega) W
      simp only [txt_list] at hnk
      by_cases hxn : x.length = n
      · have hkey : keyOf Try.prog 42 (.string (txt (nk x))) = some (litT (nk x)) := by
          rw [WideMaps.keyOf_string_mk Try.underlying42 (by rw [txt_size, nk_len]; unfold maxLen; omega), txt_list]; rfl
        go_wp2_with fail
        go_at_call 23
        refine (hnk _).mono ?_
        rintro e w1 ⟨rfl, hb⟩
        have hown1 := hownr.kept (gn_below hb) (by simp)
        have hgw1 := gb_trans hgw (gb_below hb)
        clear hownr hgw hb hcj
        go_wp2_with (at_mapUpdate; refine wpList_mapUpdate_own _ rfl _ _ _ 53 rfl 42 4 (string_keyed Try.underlying42) Try.underlying53 _ b j _ rfl hown1 (by unfold maxLen; omega) _ _ _ rfl rfl hkey _ [] (plainElem_bool Try.underlying4 _) ?_; intro w2 hown2 hgrow2)
        refine ⟨⟨j + 1, by omega, by go_num, ?_, gb_trans hgw1 hgrow2⟩, by simp [intOf]; omega⟩
        rw [HT.out, HK.out, if_pos hxn]; unfold OwnsN; rw [setN_snoc]; exact hown2
      · have hxe : ((x.length : Int) == (n : Int)) = false := by simp; omega
        go_wp2_with fail
        go_roundw
        case rel => exact ⟨j + 1, by omega, by go_num, by rw [HT.out, HK.out, if_neg hxn]; simpa using hownr.mono (Nat.le_succ j), hgw⟩
        case measure => simp [intOf]; omega
    · obtain rfl : j = ws.length := by omega
      go_wp2
      go_end0
      exact ⟨rfl, by rw [List.take_of_length_le (Nat.le_refl _)] at hownr; exact hownr, hgw⟩
end Go.Proofs.Ythpbdcookhpdaaa

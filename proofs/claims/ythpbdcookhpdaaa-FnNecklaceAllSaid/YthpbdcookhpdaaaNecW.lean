
/- The program's necklaces with a trace; walked. -/
import Derived.Test.YthpbdcookhpdaaaNecN
import Derived.Test.YthpbdcookhpdaaaOrdP
import Derived.Laws.AppendOwnNone
namespace Go.Proofs.Ythpbdcookhpdaaa
open Go.RowKit Go.Shelf Go.Maps Go.Sort Go.Lib Go.ChangeMaps

theorem rdT_of_row {w : World} {base : Nat} {v : Value} {xs : List (List UInt8)} (h : w.ownsRow base 42 1 v xs.length (xs.map strV)) : RdT w v xs := by
  obtain ⟨_, ⟨rfl, h0⟩ | ⟨g, cap, cur, rfl, hb, hg, hn, hc, hs, ht⟩⟩ := h
  · exact ⟨none, 0, by rw [h0], fun j hj => by omega⟩
  · refine ⟨some ⟨g, 0, none⟩, cap, rfl, fun j hj => ⟨g, rfl, ?_⟩⟩
    have h1 : cur.toList[j]? = (xs.map strV)[j]? := by
      rw [← ht, List.getElem?_take_of_lt (by omega)]
    have h2 : cur[j]? = some (strV (xs.getD j [])) := by
      rw [← Array.getElem?_toList, h1, List.getElem?_map, List.getD_eq_getElem?_getD, List.getElem?_eq_getElem hj]; rfl
    simp [World.cell?, hg, h2]
theorem ownsN_ne {w : World} {b nb : Nat} {ks : List (List UInt8)} (h : OwnsN w b nb ks) : ∀ g j v, w.cell? ⟨g, j, none⟩ = some v → g ≠ b := by
  rintro g j v hc rfl
  obtain ⟨es, clock, hb, _⟩ := h
  have : w.cell? ⟨g, j, none⟩ = none := by simp [World.cell?, hb]
  rw [this] at hc; cases hc
theorem rowBlk_ne {w : World} {base n b : Nat} {e : TypeId} {v : Value} {xs : List Value} (h : w.ownsRow base e 1 v n xs) (hb : b < base) : v.ownBlock ≠ some b := by
  rcases h.2 with ⟨rfl, _⟩ | ⟨g, cap, cur, rfl, hbg, _⟩
  · simp [Value.ownBlock]
  · intro e
    have : g = b := by simpa [Value.ownBlock] using e
    omega
theorem row_cells {w : World} {base n g cap : Nat} {e : TypeId} {xs : List Value} (h : w.ownsRow base e 1 (.slice (some ⟨g, 0, none⟩) n cap) n xs) : ∀ j u, xs[j]? = some u → w.cell? ((⟨g, 0, none⟩ : Addr).add j) = some u := by
  intro j u hu
  rcases h.2 with ⟨h0, _⟩ | ⟨g', cap', cur, h0, _, hg, _, _, _, ht⟩
  · cases h0
  · cases h0
    have hj : j < xs.length := (List.getElem?_eq_some_iff.1 hu).1
    have hl := h.1
    have h1 : cur.toList[j]? = xs[j]? := by
      rw [← ht, List.getElem?_take_of_lt (by omega)]
    have h2 : cur[j]? = some u := by rw [← Array.getElem?_toList, h1, hu]
    have ha : (⟨g, 0, none⟩ : Addr).add j = ⟨g, j, none⟩ := by
      by_cases h0 : j = 0 <;> simp [Addr.add, h0]
    rw [ha]
    simp [World.cell?, hg, h2]
theorem gb_row {a b c : World} {e : TypeId} {v : Value} {n r : Nat} {xs : List Value} (h : a.grownBy b (some r)) (k : b.grownBy c v.ownBlock) (hr : b.ownsRow a.heap.size e 1 v n xs) : a.grownBy c (some r) :=
  ⟨k.os.trans h.os, k.tape.trans h.tape, k.output.trans h.output, Nat.le_trans h.size k.size, fun i hi hne => (k.block i (Nat.lt_of_lt_of_le hi h.size) (fun e => rowBlk_ne hr hi e.symm)).trans (h.block i hi hne)⟩
theorem rdT_grown {w w' : World} {b : Nat} {v : Value} {xs : List (List UInt8)} (h : RdT w v xs) (hg : w.grownBy w' (some b)) (hne : ∀ g j v, w.cell? ⟨g, j, none⟩ = some v → g ≠ b) : RdT w' v xs := by
  obtain ⟨ao, cap, rfl, h⟩ := h
  refine ⟨ao, cap, rfl, fun j hj => ?_⟩
  obtain ⟨g, hao, hc⟩ := h j hj
  exact ⟨g, hao, gb_cell hg (hne _ _ _ hc) hc⟩
theorem wsO_40 (t n : Nat) : ∀ x ∈ wsO t n, x.length ≤ 40 := by
  intro x hx
  unfold wsO wsI at hx
  obtain ⟨i, _, hi⟩ := List.mem_flatMap.1 hx
  obtain ⟨j, _, hj⟩ := List.mem_filterMap.1 hi
  unfold wk1 at hj
  split at hj
  · rename_i h
    cases hj
    exact h.2
  · cases hj
/-- at the head of a round: the necklaces of the lengths below n are listed -/
def NwR (t b : Nat) (w : World) (ws : List (List UInt8)) (g : Nat) (v k : Value) (wr : World) : Prop := ∃ n nb : Nat, ∃ ks : List (List UInt8), 2 ≤ n ∧ n + g = t ∧ k = .int .i64 (n : Int) ∧ OwnsN wr b nb ks ∧ wr.ownsRow w.heap.size 42 1 v (allN ws (n - 2)).length ((allN ws (n - 2)).map strV) ∧ w.grownBy wr (some b)
set_option maxRecDepth 100000 in
set_option maxHeartbeats 4000000 in
theorem necklacesWith_ (t : Nat) (ht : 3 ≤ t ∧ t ≤ 30) (w : World) : Calls Try.prog 14 #[.int .i64 t] w fun e w' => ∃ v, e = .returned v ∧ w'.ownsRow w.heap.size 42 1 v (allN (wsO t (t - 1)) (t - 2)).length ((allN (wsO t (t - 1)) (t - 2)).map strV) ∧ Below w.heap.size w w' := by
  have hwl := wsO_len ht.2 (t - 1)
  have hw40 : ∀ x ∈ wsO t (t - 1), x.length ≤ 40 := wsO_40 t (t - 1)
  have hmm := @run_makeMap Try.prog
  have hM := mem_nil w; have hB := Below.refl w.heap.size w; have hC := True.intro
  go_enter Try.func14, Try.ntmps14
  go_wp2_with fail
  go_at_call 24
  refine (wordsWith_ t ht _).mono ?_
  rintro e w1 ⟨vw, rfl, hW, hb1⟩
  obtain ⟨ws, hws⟩ : ∃ ws, ws = wsO t (t - 1) := ⟨_, rfl⟩
  rw [← hws] at hwl hw40 hW
  have HWS := Lib.hid hws
  clear hws
  have hOw : OwnsN (w1.alloc (.map #[] 0)) w1.heap.size 0 [] := World.ownsMap_made w1 _ _ _
  have hRd : RdT (w1.alloc (.map #[] 0)) vw ws := rdT_of_row (hW.alloc _)
  have hB2 : Below w.heap.size w (w1.alloc (.map #[] 0)) := hb1.alloc hb1.size _
  have hbl : w.heap.size ≤ w1.heap.size := hb1.size
  have hbs : w1.heap.size < (w1.alloc (.map #[] 0)).heap.size := hOw.lt
  have hne := ownsN_ne hOw
  have HRd := Lib.hid hRd
  have HB2 := Lib.hid hB2
  have HNE := Lib.hid hne
  clear hRd hW hb1 hB2 hne hM hB hC
  go_wp2_with fail
  go_loopg [5, 6] (t - 2) (fun gk v k wr => NwR t w1.heap.size (w1.alloc (.map #[] 0)) ws gk v k wr)
  case atStart => exact ⟨2, 0, [], Nat.le_refl _, by omega, rfl, hOw, by simpa [allN] using World.ownsRow_nil _ _ _ _, World.grownBy.refl _ _⟩
  case round =>
    obtain ⟨n, nb, ks, hn2, hng, rfl, hO, hR, hG⟩ := hrel
    clear hOw hmm
    have hall := allN_len ws (n - 2)
    have HA := Lib.hid (show allN ws (n - 1) = allN ws (n - 2) ++ necN (keyN ws n) from by
      have := allN_succ ws (n - 2)
      rw [show n - 2 + 1 = n - 1 from by omega, show n - 2 + 2 = n from by omega] at this
      exact this)
    have hks := Nat.le_trans (size_setN (keyN ws n)) (keyN_len ws n)
    have hnl := Nat.le_trans (necN_len (keyN ws n)) (keyN_len ws n)
    by_cases hlt : n < t
    · go_wp2_with fail
      go_at_call 25
      refine (ask_ _ n nb vw ws ks hw40 (by have : (t - 1) * 225 ≤ 29 * 225 := Nat.mul_le_mul_right _ (by omega); omega) wr hO (rdT_grown HRd.out hG HNE.out)).mono ?_
      rintro e w3 ⟨rfl, hO3, hG3⟩
      have hR3 := hR.kept hG3 (.inr (rowBlk_ne hR hbs))
      have hG4 := gb_trans hG hG3
      clear hO hR hG hG3
      have hbh := hO3.lt
      have hgs : (w1.alloc (.map #[] 0)).heap.size ≤ w3.heap.size := hG4.size
      go_wp2_with fail
      go_at_call 26
      refine (inOrder_ _ _ (keyN ws n) (by have : (t - 1) * 225 ≤ 29 * 225 := Nat.mul_le_mul_right _ (by omega); omega) w3 hO3).mono ?_
      rintro e w4 ⟨v4, ss, rfl, hp, hR4, hb4⟩
      rw [show ss.length = (necN (keyN ws n)).length from by rw [necN, srtT, (List.mergeSort_perm _ _).length_eq, hp.length_eq], srtT_perm hp] at hR4
      change w4.ownsRow w3.heap.size 42 1 v4 (necN (keyN ws n)).length ((necN (keyN ws n)).map strV) at hR4
      clear hp
      have hO4 := hO3.kept (gn_below hb4) (by simp)
      have hR5 := row_keep hR3 hb4
      have hG5 := gb_trans hG4 (gb_below hb4)
      have hs4 : w3.heap.size ≤ w4.heap.size := hb4.size
      clear hO3 hR3 hG4 hb4
      have hle : (allN ws (n - 2)).length + (necN (keyN ws n)).length ≤ 200000 := by
        have h1 : (t - 1) * 225 ≤ 29 * 225 := Nat.mul_le_mul_right _ (by omega)
        have h2 : (n - 2) * ws.length ≤ 28 * (29 * 225) := Nat.mul_le_mul (by omega) (by omega)
        omega
      have HL := Lib.hid (show (allN ws (n - 1)).length = (allN ws (n - 2)).length + (necN (keyN ws n)).length from by rw [HA.out, List.length_append])
      generalize allN ws (n - 2) = A0 at *
      generalize necN (keyN ws n) = A1 at *
      obtain ⟨i0, hi, hz0, hz1, hz2⟩ := info_parts infoWd
      rcases hR4.2 with ⟨rfl, hz⟩ | ⟨g4, cap4, cur4, rfl, _⟩
      · obtain rfl : A1 = [] := List.eq_nil_of_length_eq_zero hz
        go_wp2_with (at_builtin; refine wpList_append_own_none rfl _ _ 40 rfl (w1.alloc (.map #[] 0)).heap.size 42 i0 1 Try.underlying40 hi _ _ _ rfl hR5 rfl ?_)
        go_roundg (gk - 1)
        case measure => omega
        case rel =>
          refine ⟨n + 1, _, _, by omega, by omega, by go_num, hO4, ?_, hG5⟩
          rw [show n + 1 - 2 = n - 1 from by omega, HA.out]
          simpa using hR5
      · go_wp2_with (at_builtin; refine wpList_append_own _ rfl _ _ 40 rfl (w1.alloc (.map #[] 0)).heap.size 42 i0 (.string ⟨#[]⟩) 1 16 Try.underlying40 hi hz0 hz1 hz2 rfl (by decide) _ _ _ rfl hR5 ⟨g4, 0, none⟩ A1.length cap4 (A1.map strV) rfl (by simp) (row_cells hR4) (by intro u hu; obtain ⟨x, _, rfl⟩ := List.mem_map.1 hu; rfl) (by simp [maxLen]; omega) (by omega) (by omega) ?_; intro v5 w5 hR6 hg6 hnn; clear hnn)
        have hO5 := hO4.kept hg6 (rowBlk_ne hR5 hbs).symm
        have hG6 : (w1.alloc (.map #[] 0)).grownBy w5 (some w1.heap.size) := gb_row hG5 hg6 hR5
        go_roundg (gk - 1)
        case measure => omega
        case rel =>
          refine ⟨n + 1, _, _, by omega, by omega, by go_num, hO5, ?_, hG6⟩
          rw [show n + 1 - 2 = n - 1 from by omega, HA.out]
          simpa using hR6
    · obtain rfl : n = t := by omega
      go_wp2_with fail
      go_ret
      refine ⟨_, rfl, ?_, ?_⟩
      · rw [← HWS.out]
        exact ownsRow_base_a hR (Nat.le_trans hbl (Nat.le_of_lt hbs))
      · exact HB2.out.grown hG (Nat.le_trans hbl (Nat.le_of_lt hbs)) (fun j hj => by cases hj; exact hbl)
end Go.Proofs.Ythpbdcookhpdaaa

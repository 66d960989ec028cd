
/- Runs are all letters: the law walked over every slice of bytes. -/
import Derived.Test.YtmcpchockjcjhaaLawZ
namespace Go.Proofs.Ytmcpchockjcjhaa
open Go.RowKit

theorem runs_len {l : List UInt8} (h : l.length ≤ 40) : (runs l).length ≤ 41 := by
  unfold runs
  split
  · simp
  · have := rfold_le l
    simp [rl]; omega
theorem wrs_len (l : List UInt8) : (wrs l).1.length ≤ 41 := by
  unfold wrs
  by_cases h : wdL l = true
  · rw [if_pos h]
    simp only [wdL, Bool.and_eq_true, decide_eq_true_eq] at h
    exact runs_len h.2
  · rw [if_neg h]; simp
theorem wrs_yes {l : List UInt8} (h : wdL l = true) : wrs l = (runs l, true) := by simp [wrs, h]
theorem wrs_no {l : List UInt8} (h : wdL l = false) : wrs l = ([], false) := by simp [wrs, h]
theorem totalQ (v : Value) (zs : List Int) (m : Nat) (hm : isum zs = (m : Int)) (hz : zs.length ≤ 1000000000) (hb : ∀ k, 0 ≤ isum (zs.take k) ∧ isum (zs.take k) ≤ 1000000000) (w : World) (n : Nat) (hv : ReadsI w v zs) : Calls Try.prog 19 #[v] (w.drewN n) (fun e w' => e = .returned (.int .i64 (m : Int)) ∧ w' = w.drewN n) := by
  refine (total_ v zs hz hb (w.drewN n) hv).mono ?_
  rintro e w' ⟨h1, h2⟩
  rw [hm] at h1
  exact ⟨h1, h2.symm⟩
set_option maxHeartbeats 2000000 in
theorem lawRuns (A : Option Addr) (len cap : Nat) (zs : List Int) (w : World) (hRow : RowB .u8 w w.heap.size A len cap zs) : Calls Try.prog 5 #[.slice A len cap] w (fun E' W' => E' = .returned (.bool true) ∧ Below w.heap.size w W') := by
  by_cases hl : 1048576 < len
  · have hM := mem_nil w; have hB := Below.refl w.heap.size w; have hC := True.intro
    go_enter Try.func5, Try.ntmps5
    go_wp2
    go_ret
    exact ⟨rfl, by (repeat' (first | (with_reducible exact hB) | (with_reducible exact Below.refl _ _) | (with_reducible refine Below.alloc ?_ ?_ _) | (with_reducible refine Below.setCell ?_ ?_ _) | (with_reducible refine Below.drew ?_) | (with_reducible refine below_drewN ?_ _) | (with_reducible exact Nat.le_refl _) | (with_reducible exact hB.size) | (simp [go_sem]; done) | (have := hB.size; simp [go_sem]; omega)))⟩
  · have hM := mem_nil w; have hB := Below.refl w.heap.size w; have hC := True.intro
    go_enter Try.func5, Try.ntmps5
    go_upto_region 4 with (go_at_call 15; apply use_textrow (w := w) hRow (DrawWordRuns_ _ _ _ _); (focus ((repeat' (first | (with_reducible exact hB) | (with_reducible exact Below.refl _ _) | (with_reducible refine Below.alloc ?_ ?_ _) | (with_reducible refine Below.setCell ?_ ?_ _) | (with_reducible refine Below.drew ?_) | (with_reducible refine below_drewN ?_ _) | (with_reducible exact Nat.le_refl _) | (with_reducible exact hB.size) | (simp [go_sem]; done) | (have := hB.size; simp [go_sem]; omega))); done)); (focus ((repeat' (first | (with_reducible exact hB) | (with_reducible exact Below.refl _ _) | (with_reducible refine Below.alloc ?_ ?_ _) | (with_reducible refine Below.setCell ?_ ?_ _) | (with_reducible refine Below.drew ?_) | (with_reducible refine below_drewN ?_ _) | (with_reducible exact Nat.le_refl _) | (with_reducible exact hB.size) | (simp [go_sem]; done) | (have := hB.size; simp [go_sem]; omega))); done)); rintro s w' hs hb; apply after_call (w := w) hb; (focus ((repeat' (first | (with_reducible exact hM) | (with_reducible apply mem_alloc) | (with_reducible apply mem_set) | (with_reducible apply mem_drew) | (with_reducible apply mem_drewN))); done)); (focus ((repeat' (first | (with_reducible exact hB) | (with_reducible exact Below.refl _ _) | (with_reducible refine Below.alloc ?_ ?_ _) | (with_reducible refine Below.setCell ?_ ?_ _) | (with_reducible refine Below.drew ?_) | (with_reducible refine below_drewN ?_ _) | (with_reducible exact Nat.le_refl _) | (with_reducible exact hB.size) | (simp [go_sem]; done) | (have := hB.size; simp [go_sem]; omega))); done)); (focus ((repeat' (first | (with_reducible exact hB) | (with_reducible exact Below.refl _ _) | (with_reducible refine Below.alloc ?_ ?_ _) | (with_reducible refine Below.setCell ?_ ?_ _) | (with_reducible refine Below.drew ?_) | (with_reducible refine below_drewN ?_ _) | (with_reducible exact Nat.le_refl _) | (with_reducible exact hB.size) | (simp [go_sem]; done) | (have := hB.size; simp [go_sem]; omega))); done)); clear hM hB hb; intro hM hB; (try clear hC); have hC := mem_facts hM; simp at hC)
    have hs9 : s.size ≤ 9223372036854775807 := by omega
    have hS : ∀ W : World, Calls Try.prog 17 #[.string s] W (RunsOk W (wrs s.data.toList).1 (wrs s.data.toList).2) := fun W => sWordRuns_ s hs9 W
    have hI : ∀ W : World, Calls Try.prog 16 #[.string s] W (RunsOk W (wrs s.data.toList).1 (wrs s.data.toList).2) := fun W => WordRuns_ s hs9 W
    have hz := wrs_len s.data.toList
    cases hok : wdL s.data.toList
    · rw [wrs_no hok] at hS hI
      have HS := Lib.hid hS
      have HI := Lib.hid hI
      clear hS hI hz hok
      go_wp2_with fail
      refine (HI.out _).mono ?_
      rintro e w1 ⟨v1, rfl, hv1, hb1⟩
      have HV1 := Lib.hid hv1
      have HB1 := Lib.hid hb1
      clear hv1 hb1
      go_wp2_with fail
      refine (HS.out _).mono ?_
      rintro e w2 ⟨v0, rfl, hv0, hb2⟩
      have HV0 := Lib.hid hv0
      have HB2 := Lib.hid hb2
      clear hv0 hb2
      go_wp2_with fail
      refine (sameInts_same v1 v0 [] (by simp) _ (HV1.out.below HB2.out).reads HV0.out.reads).mono ?_
      rintro e w3 ⟨rfl, hb3⟩
      have HB3 := Lib.hid hb3
      clear hb3
      go_wp2_with fail
      refine (sameInts_same v1 v0 [] (by simp) _ ((HV1.out.below HB2.out).below HB3.out).reads (HV0.out.below HB3.out).reads).mono ?_
      rintro e w4 ⟨rfl, hb4⟩
      have HB4 := Lib.hid hb4
      clear hb4
      go_wp2_with fail
      go_ret
      refine ⟨rfl, ?_⟩
      have s0 := hB.size
      have s1 := HB1.out.size
      have s2 := HB2.out.size
      have s3 := HB3.out.size
      exact (((hB.trans (HB1.out.mono s0)).trans (HB2.out.mono (by omega))).trans (HB3.out.mono (by omega))).trans (HB4.out.mono (by omega))
    · have e1 := wrs_yes hok
      rw [e1] at hS hI hz
      obtain ⟨sm, ss⟩ := runs_sum s.data.toList
      have tl := runs_tail s.data.toList
      have HS := Lib.hid hS
      have HI := Lib.hid hI
      have hl100 : s.data.toList.length ≤ 100 := by simpa using hs
      generalize hzs : runs s.data.toList = rs at *
      have SS := Lib.hid ss
      have TL := Lib.hid tl
      have SM := Lib.hid sm
      have E := Lib.hid hzs
      have LT := Lib.hid (wdL_iff.1 hok).1
      clear hS hI hok ss tl sm hzs e1
      go_wp2_with fail
      refine (HI.out _).mono ?_
      rintro e w1 ⟨v1, rfl, hv1, hb1⟩
      have HV1 := Lib.hid hv1
      have HB1 := Lib.hid hb1
      clear hv1 hb1
      go_wp2_with fail
      refine (HS.out _).mono ?_
      rintro e w2 ⟨v0, rfl, hv0, hb2⟩
      have HV0 := Lib.hid hv0
      have HB2 := Lib.hid hb2
      clear hv0 hb2
      go_wp2_with fail
      refine (sameInts_same v1 v0 rs (by omega) _ (HV1.out.below HB2.out).reads HV0.out.reads).mono ?_
      rintro e w3 ⟨rfl, hb3⟩
      have HB3 := Lib.hid hb3
      clear hb3
      go_wp2_with fail

      obtain ⟨ao, cap1, e1, hc⟩ := ((HV1.out.below HB2.out).below HB3.out).reads
      have HC := Lib.hid hc
      have HV : ReadsI w3 v1 rs := ⟨ao, cap1, e1, hc⟩
      have HV' := Lib.hid HV
      have b1 : Below w.heap.size w w3 := by
        have s0 := hB.size
        have s1 := HB1.out.size
        have s2 := HB2.out.size
        exact ((hB.trans (HB1.out.mono s0)).trans (HB2.out.mono (by omega))).trans (HB3.out.mono (by omega))
      have HB := Lib.hid b1
      clear HB1 HB2 HB3 HV0 HV1 hc HV b1 hB
      subst e1
      go_loop [8] (fun i => ∃ k : Nat, 1 ≤ k ∧ (k ≤ rs.length ∨ k = 1) ∧ i = .int .i64 k) (fun i => rs.length + 1 - (intOf i).toNat)
      case atStart => exact ⟨1, Nat.le_refl _, .inr rfl, rfl⟩
      case round =>
        obtain ⟨k, hk1, hk, rfl⟩ := hrel
        by_cases hlt : k < rs.length
        · obtain ⟨g, rfl, h1⟩ := HC.out k hlt
          have h2 := TL.out k hk1 hlt
          generalize rs.getD k 0 = z at h1 h2
          go_wp2
          go_round
          case rel => exact ⟨k + 1, by omega, by omega, by go_num⟩
          case measure => simp [intOf]; omega
        · go_wp2_with fail
          clear hlt hk hk1
          generalize (k : Int) = kk
          have hb : ∀ j, 0 ≤ isum (rs.take j) ∧ isum (rs.take j) ≤ 1000000000 := fun j => by have := SS.out j; omega
          have HQ := Lib.hid (fun n => totalQ (.slice ao rs.length cap1) rs s.size (by have := SM.out; simpa using this) (by omega) hb w3 n HV'.out)
          clear hb
          cases hd : s.data.toList with
          | nil =>
            have h0 : rs = [] := by rw [← E.out, hd]; exact (runs_nil _).2 rfl
            have he : s.toList.isEmpty = true := by rw [ByteArray.toList_eq, hd]; rfl
            have hr : ((rs.length : Int) == 0) = true := by rw [h0]; rfl
            clear hd h0 HC HV' TL SS SM E HS HI
            go_quiet ((go_at_call 19; exact Calls.quiet_of_same (HQ.out _)))
            go_wp2
            go_ret
            have hB := HB.out
            exact ⟨rfl, by (repeat' (first | (with_reducible exact hB) | (with_reducible exact Below.refl _ _) | (with_reducible refine Below.alloc ?_ ?_ _) | (with_reducible refine Below.setCell ?_ ?_ _) | (with_reducible refine Below.drew ?_) | (with_reducible refine below_drewN ?_ _) | (with_reducible exact Nat.le_refl _) | (with_reducible exact hB.size) | (simp [go_sem]; done) | (have := hB.size; simp [go_sem]; omega)))⟩
          | cons c t =>
            have hp : 0 < rs.length := by
              rcases Nat.eq_zero_or_pos rs.length with h | h
              · have h1 := List.length_eq_zero_iff.1 h
                rw [← E.out, runs_nil, hd] at h1
                simp at h1
              · exact h
            obtain ⟨g, rfl, hc0⟩ := HC.out 0 hp
            have hh := runs_head (c := c) (t := t)
            rw [← hd, E.out] at hh
            generalize rs.getD 0 0 = z at hc0 hh
            have he : s.toList.isEmpty = false := by rw [ByteArray.toList_eq, hd]; rfl
            have hr : ((rs.length : Int) == 0) = false := by simpa using (show rs ≠ [] from fun h => by rw [h] at hp; simp at hp)
            have hpos : 0 < s.size := by
              have := congrArg List.length hd
              simp at this
              omega
            have h00 := drop_get s 0 hpos
            rw [List.drop_zero, hd] at h00
            have hs0 : s[0] = c := (List.cons.inj h00).1.symm
            have hc : c = 76 ∨ c = 82 := by
              have h := LT.out
              rw [hd] at h
              simp [letB] at h
              exact h.1
            clear HC HV' TL SS SM E HS HI LT h00 hd
            rcases hc with rfl | rfl
            · obtain rfl : z = 0 := hh.2 (by decide)
              clear hh
              go_quiet ((go_at_call 19; exact Calls.quiet_of_same (HQ.out _)))
              go_wp2
              go_ret
              have hB := HB.out
              exact ⟨rfl, by (repeat' (first | (with_reducible exact hB) | (with_reducible exact Below.refl _ _) | (with_reducible refine Below.alloc ?_ ?_ _) | (with_reducible refine Below.setCell ?_ ?_ _) | (with_reducible refine Below.drew ?_) | (with_reducible refine below_drewN ?_ _) | (with_reducible exact Nat.le_refl _) | (with_reducible exact hB.size) | (simp [go_sem]; done) | (have := hB.size; simp [go_sem]; omega)))⟩
            · have hz0 : (z == 0) = false := by simpa using fun h => hh.1 h rfl
              clear hh
              go_quiet ((go_at_call 19; exact Calls.quiet_of_same (HQ.out _)))
              go_wp2
              go_ret
              have hB := HB.out
              exact ⟨rfl, by (repeat' (first | (with_reducible exact hB) | (with_reducible exact Below.refl _ _) | (with_reducible refine Below.alloc ?_ ?_ _) | (with_reducible refine Below.setCell ?_ ?_ _) | (with_reducible refine Below.drew ?_) | (with_reducible refine below_drewN ?_ _) | (with_reducible exact Nat.le_refl _) | (with_reducible exact hB.size) | (simp [go_sem]; done) | (have := hB.size; simp [go_sem]; omega)))⟩
theorem goRuns (A : Option Addr) (len cap : Nat) (zs : List Int) (w : World) (h : IsRow .u8 w A len cap zs) : Calls Try.prog 5 #[.slice A len cap] w (fun E' W' => E' = .returned (.bool true) ∧ Below w.heap.size w W') := lawRuns A len cap zs w (rowB h)
end Go.Proofs.Ytmcpchockjcjhaa

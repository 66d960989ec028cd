
/- The model's runs of a word: plain, and walked. -/
import Derived.Test.YtmcpchockjcjhaaRuns
import Derived.Test.YtmcpchockjcjhaaSpecC2
import Derived.Deep.LoopGhost
namespace Go.Proofs.Ytmcpchockjcjhaa
open Go.RowKit

theorem oth_ne {c : UInt8} (h : letB c = true) : oth c ≠ c := by rcases letB_iff.1 h with rfl | rfl <;> decide
theorem oth_of {c d : UInt8} (h : letB c = true) (h' : letB d = true) (hne : c ≠ d) : c = oth d := by
  rcases letB_iff.1 h with rfl | rfl <;> rcases letB_iff.1 h' with rfl | rfl <;> first | exact absurd rfl hne | decide
/-- what the model's outer loop has at its head: place k, the runs so far, the letter that is asked for -/
def HeadOk (s : ByteArray) (k : Nat) (zs : List Int) (x : UInt8) : Prop :=
  (k = 0 ∧ zs = [] ∧ x = 82) ∨ (0 < s.size ∧ ∃ ini cur last, rfold (s.data.toList.take k) = ⟨ini, cur, last⟩ ∧ zs = ini ++ [cur] ∧ x = oth last ∧ letB last = true ∧ ∀ h : k < s.size, s[k] = x)
/-- the same in the inner loop: place m, c letters counted -/
def InOk (s : ByteArray) (k m : Nat) (c : Int) (zs : List Int) (x : UInt8) : Prop :=
  (m = k ∧ c = 0 ∧ HeadOk s k zs x) ∨ (k < m ∧ rfold (s.data.toList.take m) = ⟨zs, c, x⟩)
theorem in_step {s : ByteArray} {k m : Nat} {c : Int} {zs : List Int} {x : UInt8} (h : InOk s k m c zs x) (hm : m < s.size) (hx : s[m] = x) : InOk s k (m + 1) (c + 1) zs x := by
  refine .inr ?_
  have hs := take_snoc s m hm
  rcases h with ⟨rfl, rfl, ⟨rfl, rfl, rfl⟩ | ⟨_, ini, cur, last, h1, rfl, rfl, h4, _⟩⟩ | ⟨h1, h2⟩
  · refine ⟨Nat.lt_succ_self _, ?_⟩
    rw [hs, rfold_snoc, hx]; rfl
  · refine ⟨Nat.lt_succ_self _, ?_⟩
    rw [hs, rfold_snoc, hx, h1, rstep, if_neg (oth_ne h4)]; rfl
  · refine ⟨by omega, ?_⟩
    rw [hs, rfold_snoc, hx, h2, rstep, if_pos rfl]
theorem in_end {s : ByteArray} {k m : Nat} {c : Int} {zs : List Int} {x : UInt8} (h : InOk s k m c zs x) (hk : k < s.size) (hall : s.data.toList.all letB = true) (hlx : letB x = true) (he : ∀ h : m < s.size, s[m] ≠ x) :
    HeadOk s m (zs ++ [c]) (oth x) := by
  refine .inr ⟨by omega, ?_⟩
  rcases h with ⟨rfl, rfl, ⟨rfl, rfl, rfl⟩ | ⟨_, ini, cur, last, h1, rfl, rfl, h4, h5⟩⟩ | ⟨h1, h2⟩
  · exact ⟨[], 0, 82, rfl, rfl, rfl, by decide, fun h => oth_of (all_get hall h) (by decide) (he h)⟩
  · exact absurd (h5 hk) (he hk)
  · exact ⟨zs, c, x, h2, rfl, rfl, hlx, fun h => oth_of (all_get hall h) hlx (he h)⟩
theorem head_end {s : ByteArray} {zs : List Int} {x : UInt8} (h : HeadOk s s.size zs x) : zs = runs s.data.toList := by
  have ht : s.data.toList.take s.size = s.data.toList := List.take_of_length_le (by simp)
  unfold runs
  rcases h with ⟨h1, rfl, _⟩ | ⟨h0, ini, cur, last, h1, rfl, _⟩
  · have : s.data.toList = [] := List.eq_nil_of_length_eq_zero (by simpa using h1)
    rw [if_pos this]
  · have : ¬ s.data.toList = [] := fun e => by
      have := congrArg List.length e
      have h2 : s.data.toList.length = s.size := by simp
      rw [h2, List.length_nil] at this
      omega
    rw [if_neg this, ← ht, h1]; rfl
theorem head_let {s : ByteArray} {k : Nat} {zs : List Int} {x : UInt8} (h : HeadOk s k zs x) : letB x = true := by
  rcases h with ⟨_, _, rfl⟩ | ⟨_, _, _, last, _, _, rfl, _⟩
  · decide
  · exact oth_let last
/-- a round of the outer loop ends: the measure -/
theorem in_less {s : ByteArray} {k m : Nat} {c : Int} {zs : List Int} {x : UInt8} (h : InOk s k m c zs x) (hk : k < s.size) (he : ∀ h : m < s.size, s[m] ≠ x) : k ≤ m ∧ (k < m ∨ zs = []) := by
  rcases h with ⟨rfl, rfl, ⟨rfl, rfl, rfl⟩ | ⟨_, ini, cur, last, h1, rfl, rfl, h4, h5⟩⟩ | ⟨h1, h2⟩
  · exact ⟨Nat.le_refl _, .inr rfl⟩
  · exact absurd (h5 hk) (he hk)
  · exact ⟨Nat.le_of_lt h1, .inl h1⟩
def emptyV : Value → Nat
  | .slice _ n _ => if n = 0 then 1 else 0
  | _ => 0
theorem sub158 {x : UInt8} (h : letB x = true) : (158 : Int) - (x.toNat : Int) = ((oth x).toNat : Int) := by
  rcases letB_iff.1 h with rfl | rfl <;> rfl
/-- at the head of the outer loop -/
def RnRel (s : ByteArray) (w : World) (v x i : Value) (wr : World) : Prop := ∃ (k : Nat) (zs : List Int) (c : UInt8), k ≤ s.size ∧ i = .int .i64 k ∧ x = .int .u8 (c.toNat : Int) ∧ zs.length ≤ k + 1 ∧ HeadOk s k zs c ∧ IntRow w.heap.size wr v zs ∧ Below w.heap.size w wr
set_option maxHeartbeats 4000000 in
theorem sWordRuns_ (s : ByteArray) (hs : s.size ≤ 9223372036854775807) (w : World) : Calls Try.prog 17 #[.string s] w (RunsOk w (wrs s.data.toList).1 (wrs s.data.toList).2) := by
  cases h : wdL s.data.toList
  · have HE := Lib.hid (show wrs s.data.toList = ([], false) from by simp [wrs, h])
    have hM := mem_nil w; have hB := Below.refl w.heap.size w; have hC := True.intro
    go_enter Try.func17, Try.ntmps17
    go_wp2_with (first | (go_at_call 22; refine (sWordIn_ _ hs _).mono ?_; rintro e w' ⟨rfl, rfl⟩))
    go_ret2
    exact ⟨_, by rw [HE.out]; rfl, by rw [HE.out]; exact World.ownsRow_lit w #[] 0 (Nat.le_refl _) (by decide) rfl, by (repeat' (first | (with_reducible exact hB) | (with_reducible exact Below.refl _ _) | (with_reducible refine Below.alloc ?_ ?_ _) | (with_reducible refine Below.setCell ?_ ?_ _) | (with_reducible refine Below.drew ?_) | (with_reducible refine below_drewN ?_ _) | (with_reducible exact Nat.le_refl _) | (with_reducible exact hB.size) | (simp [go_sem]; done) | (have := hB.size; simp [go_sem]; omega)))⟩
  · have h40 := wdL_size h
    have HE := Lib.hid (show wrs s.data.toList = (runs s.data.toList, true) from by simp [wrs, h])
    have HA := Lib.hid (show s.data.toList.all letB = true from by simp only [wdL, Bool.and_eq_true] at h; exact h.1)
    obtain ⟨i0, hi, hz0, hz1, hz2⟩ := info_parts infoI64
    have hM := mem_nil w; have hB := Below.refl w.heap.size w; have hC := True.intro
    go_enter Try.func17, Try.ntmps17
    go_wp2_with (first | (go_at_call 22; refine (sWordIn_ _ hs _).mono ?_; rintro e w' ⟨rfl, rfl⟩))
    go_loopw [4, 5, 6, 7] (fun v x i _ wr => RnRel s w v x i wr) (fun v _ i _ _ => (s.size - (intOf i).toNat) + emptyV v)
    case atStart =>
      exact ⟨0, [], 82, Nat.zero_le _, rfl, rfl, by simp, .inl ⟨rfl, rfl, rfl⟩, World.ownsRow_lit w #[] 0 (Nat.le_refl _) (by decide) rfl, by (repeat' (first | (with_reducible exact hB) | (with_reducible exact Below.refl _ _) | (with_reducible refine Below.alloc ?_ ?_ _) | (with_reducible refine Below.setCell ?_ ?_ _) | (with_reducible refine Below.drew ?_) | (with_reducible refine below_drewN ?_ _) | (with_reducible exact Nat.le_refl _) | (with_reducible exact hB.size) | (simp [go_sem]; done) | (have := hB.size; simp [go_sem]; omega)))⟩
    case round =>
      obtain ⟨k, zs, x, hk, rfl, rfl, hzl, hh, hR, hB'⟩ := hrel
      clear hB hM hC h
      have hB := hB'
      clear hB'
      have HH := Lib.hid hh
      clear hh
      by_cases hlt : k < s.size
      · obtain ⟨ao, cap, rfl⟩ := row_form hR
        have hR0 := hR
        replace hR : wr.ownsRow w.heap.size 3 1 (.slice ao zs.length cap) zs.length (zs.map (Value.int .i64)) := by simpa [IntRow] using hR0
        simp only [List.length_map]
        clear hR0
        have hxl := head_let HH.out
        have h158 := sub158 hxl
        have hx1 : (x.toNat : Int) ≤ 255 := by have := x.toNat_lt; omega
        have hx2 : ((oth x).toNat : Int) ≤ 255 := by have := (oth x).toNat_lt; omega
        go_wp2_with fail
        go_loop [6, 7] (fun i n => ∃ (m : Nat) (c : Nat), i = .int .i64 m ∧ n = .int .i64 c ∧ m ≤ s.size ∧ c ≤ m ∧ InOk s k m c zs x) (fun i _ => s.size - (intOf i).toNat)
        case atStart => exact ⟨k, 0, rfl, rfl, hk, Nat.zero_le _, .inl ⟨rfl, rfl, HH.out⟩⟩
        case round =>
          obtain ⟨m, c, rfl, rfl, hm, hcm, hin⟩ := hrel
          have HI := Lib.hid hin
          clear hin
          by_cases hyes : ∃ h : m < s.size, s[m] = x
          · obtain ⟨hml, hmx⟩ := hyes
            have e1 : ((s[m].toNat : Int) == (x.toNat : Int)) = true := by rw [hmx]; simp
            have HX := Lib.hid hmx
            clear hmx
            go_wp2_with fail
            go_round
            case rel => exact ⟨m + 1, c + 1, by go_num, by go_num, by omega, by omega, in_step HI.out hml HX.out⟩
            case measure => simp [intOf]; omega
          · have hno : ∀ h : m < s.size, s[m] ≠ x := fun h e => hyes ⟨h, e⟩
            have HL := Lib.hid (in_less HI.out hlt hno)
            have HN := Lib.hid (in_end HI.out hlt HA.out hxl hno)
            clear hyes
            by_cases hml : m < s.size
            · have hne := hno hml
              have e0 : s[m].toNat ≠ x.toNat := fun h => hne (UInt8.toNat_inj.1 h)
              have e1 : ((s[m].toNat : Int) == (x.toNat : Int)) = false := by simp; omega
              clear hne hno e0
              go_wp2_with (first | (at_builtin; refine wpList_append_own _ rfl _ _ 31 rfl w.heap.size 3 i0 (.int .i64 0) 1 8 Try.underlying31 hi hz0 hz1 hz2 rfl (by decide) _ _ _ rfl (hR.alloc _) ⟨_, 0, none⟩ 1 1 [.int .i64 c] rfl rfl (cell_one_new _ _ _) (by simp [Value.oneCell']) (by simp [maxLen]; omega) (by first | omega | (simp; omega)) (by have := hB.size; simp; omega) ?_; intro v' w1 hown' hgrow _; obtain ⟨g', cap', rfl⟩ := ownsRow_succ hown'; apply after_app (w := w) (A := wr) (L := []) hgrow (hR.alloc _) (mem_nil _) (by simp) (hB.alloc hB.size _) (by have := hB.size; simp; omega) (keeps_alloc (KeepsOthers.refl wr) _); clear hB hgrow hR; intro _ hB _; have hR := hown'; clear hown'))
              go_roundw
              case rel =>
                refine ⟨m, zs ++ [(c : Int)], oth x, by omega, rfl, rfl, ?_, HN.out, ?_, hB⟩
                · obtain ⟨q1, q2 | q2⟩ := HL.out
                  · simp; omega
                  · simp [q2]
                · simpa [IntRow] using hR
              case measure =>
                have := HL.out
                simp only [intOf, emptyV, Int.toNat_natCast]
                rw [if_neg (by omega)]
                rcases this.2 with h | h
                · split <;> omega
                · rw [h, if_pos List.length_nil]; omega
            · clear hno
              obtain rfl : m = s.size := by omega
              go_wp2_with (first | (at_builtin; refine wpList_append_own _ rfl _ _ 31 rfl w.heap.size 3 i0 (.int .i64 0) 1 8 Try.underlying31 hi hz0 hz1 hz2 rfl (by decide) _ _ _ rfl (hR.alloc _) ⟨_, 0, none⟩ 1 1 [.int .i64 c] rfl rfl (cell_one_new _ _ _) (by simp [Value.oneCell']) (by simp [maxLen]; omega) (by first | omega | (simp; omega)) (by have := hB.size; simp; omega) ?_; intro v' w1 hown' hgrow _; obtain ⟨g', cap', rfl⟩ := ownsRow_succ hown'; apply after_app (w := w) (A := wr) (L := []) hgrow (hR.alloc _) (mem_nil _) (by simp) (hB.alloc hB.size _) (by have := hB.size; simp; omega) (keeps_alloc (KeepsOthers.refl wr) _); clear hB hgrow hR; intro _ hB _; have hR := hown'; clear hown'))
              go_roundw
              case rel =>
                refine ⟨s.size, zs ++ [(c : Int)], oth x, by omega, rfl, rfl, ?_, HN.out, ?_, hB⟩
                · obtain ⟨q1, q2 | q2⟩ := HL.out
                  · simp; omega
                  · simp [q2]
                · simpa [IntRow] using hR
              case measure =>
                have := HL.out
                simp only [intOf, emptyV, Int.toNat_natCast]
                rw [if_neg (by omega)]
                rcases this.2 with h | h
                · split <;> omega
                · rw [h, if_pos List.length_nil]; omega
      · obtain rfl : k = s.size := by omega
        go_wp2
        go_ret2
        refine ⟨_, by rw [HE.out]; rfl, ?_, by (repeat' (first | (with_reducible exact hB) | (with_reducible exact Below.refl _ _) | (with_reducible refine Below.alloc ?_ ?_ _) | (with_reducible refine Below.setCell ?_ ?_ _) | (with_reducible refine Below.drew ?_) | (with_reducible refine below_drewN ?_ _) | (with_reducible exact Nat.le_refl _) | (with_reducible exact hB.size) | (simp [go_sem]; done) | (have := hB.size; simp [go_sem]; omega)))⟩
        rw [HE.out, ← head_end HH.out]
        exact hR
end Go.Proofs.Ytmcpchockjcjhaa

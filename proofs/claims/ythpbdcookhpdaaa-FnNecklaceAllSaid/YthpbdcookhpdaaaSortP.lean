
/- The program's necklaces put in order: the keys of a map, collected and sorted, walked by the library's contracts. -/
import Derived.Test.YthpbdcookhpdaaaLay
import Derived.Test.YthpbdcookhpdaaaConj
import Derived.Test.YthpbdcookhpdaaaIter
namespace Go.Proofs.Ythpbdcookhpdaaa
open Go.RowKit Go.Shelf Go.Maps Go.Sort Go.Lib

/-- what 'cmp.Compare' tells of two texts -/
def cmpT (x y : List UInt8) : Int := if bl x y then -1 else if bl y x then 1 else 0
theorem bl_asym {x y : List UInt8} (h : bl x y = true) : bl y x = false := by
  cases h2 : bl y x
  · rfl
  · have := bl_trans h h2; rw [bl_irr] at this; cases this
theorem ltT (x y : List UInt8) : ltOf cmpT x y = bl x y := by
  unfold ltOf cmpT
  cases h1 : bl x y
  · cases h2 : bl y x <;> simp
  · simp
theorem swoT : SWO (ltOf cmpT) where
  irrefl x := by rw [ltT]; exact bl_irr x
  trans x y z h1 h2 := by rw [ltT] at *; exact bl_trans h1 h2
  ntrans x y z h1 h2 := by
    rw [ltT] at *
    cases h3 : bl x z
    · rfl
    · rcases bl_tot x y with h | h | h
      · rw [h] at h1; cases h1
      · subst h; rw [h3] at h2; cases h2
      · have := bl_trans h h3; rw [this] at h2; cases h2
theorem totT : ∀ x y, ltOf cmpT x y = false → ltOf cmpT y x = false → x = y := by
  intro x y h1 h2
  rw [ltT] at h1 h2
  rcases bl_tot x y with h | h | h
  · rw [h] at h1; cases h1
  · exact h
  · rw [h] at h2; cases h2
theorem isNaN_ (l : List UInt8) (w : World) : Calls Try.prog 43 #[.string (txt l)] w (fun E' W' => E' = .returned (.bool false) ∧ w = W') := by
  go_enter Try.func43, Try.ntmps43
  go_wp2
  go_ret
  exact ⟨by simp, rfl⟩
theorem compare_ (x y : List UInt8) (w : World) : Calls Try.prog 27 #[.string (txt x), .string (txt y)] w (fun E' W' => E' = .returned (.int .i64 (cmpT x y)) ∧ w = W') := by
  have hx : (txt x).toList = x := (ByteArray.toList_eq _).trans (txt_list x)
  have hy : (txt y).toList = y := (ByteArray.toList_eq _).trans (txt_list y)
  have hl : ∀ a b : List UInt8, Op.bytesLess a b = bl a b := fun _ _ => rfl
  cases h1 : bl x y
  · by_cases h2 : x = y
    · have he : (x == y) = true := by simpa using h2
      have hr : cmpT x y = 0 := by subst h2; simp [cmpT, h1]
      clear h2
      go_enter Try.func27, Try.ntmps27
      go_wp2_with (go_at_call 43; refine (isNaN_ _ _).mono ?_; rintro e w' ⟨rfl, rfl⟩)
      go_ret
      exact ⟨by rw [hr]; rfl, rfl⟩
    · have he : (x == y) = false := by simpa using h2
      have hr : cmpT x y = 1 := by
        have : bl y x = true := by
          rcases bl_tot x y with h | h | h
          · rw [h] at h1; cases h1
          · exact absurd h h2
          · exact h
        simp [cmpT, h1, this]
      clear h2
      go_enter Try.func27, Try.ntmps27
      go_wp2_with (go_at_call 43; refine (isNaN_ _ _).mono ?_; rintro e w' ⟨rfl, rfl⟩)
      go_ret
      exact ⟨by rw [hr]; rfl, rfl⟩
  · have hr : cmpT x y = -1 := by simp [cmpT, h1]
    go_enter Try.func27, Try.ntmps27
    go_wp2_with (go_at_call 43; refine (isNaN_ _ _).mono ?_; rintro e w' ⟨rfl, rfl⟩)
    go_ret
    exact ⟨by rw [hr]; rfl, rfl⟩
theorem cmpReadsT (blk off size : Nat) (w : World) : CmpReads Try.prog 27 #[] encStr cmpT blk off size w :=
  fun _ _ _ _ x y => (compare_ x y _).mono fun _ _ ⟨he, hw⟩ => ⟨he, 0, hw.symm⟩
/-- a list of texts put in order -/
def srtT (ss : List (List UInt8)) : List (List UInt8) := ss.mergeSort fun x y => !(ltOf cmpT) y x
set_option maxRecDepth 100000 in
set_option maxHeartbeats 2000000 in
/-- slices.SortedFunc over the keys of a map -/
theorem sortedFunc_ (g : Nat) (lb : Array Value) (eg : ∀ args w, (callFunc g args).run Try.prog w = .ok (.enter g args) w) (S : List (List UInt8) → Prop) (N : Nat) (hN : N ≤ 1000000) (w : World) (hseq : SeqGives Fence.wide 2 Try.prog g lb encStr S N w) :
    CallsIn Fence.wide 5 Try.prog 41 #[.func (.func g) #[] lb, .func (.func 27) #[] #[]] w fun e w' => ∃ (v : Value) (ss : List (List UInt8)), e = .returned v ∧ S ss ∧
      w'.ownsRow w.heap.size 42 1 v ss.length ((srtT ss).map encStr) ∧ Go.RowKit.Below w.heap.size w w' := by
  have cC : CallsIn Fence.wide 4 Try.prog 52 #[.func (.func g) #[] lb] w fun e w' => ∃ (v : Value) (ss : List (List UInt8)), e = .returned v ∧ (S ss ∧ ss.length ≤ N) ∧ w'.ownsRow w.heap.size 42 1 v ss.length (ss.map encStr) ∧ (v = .slice none 0 0 ↔ ss = []) ∧ Go.RowKit.Below w.heap.size w w' :=
    AnyZ.collect_in collA Fence.wide 4 trivial trivial rfl (by omega) g lb trivial eg _ N (by unfold maxLen; omega) (by omega) w hseq.bounded
  have ec := enters_of Try.func27 (by kernel_rfl) rfl
  have hfC : Fence.wide.fn 52 := trivial
  have hfS : Fence.wide.fn 53 := trivial
  refine callsIn_of_wp Try.func41 rfl trivial ?_ rfl
  simp only [Try.ntmps41, List.size_toArray, List.length_cons, List.length_nil, Nat.reduceAdd, Nat.reduceSub, Array.replicate_succ, Array.replicate_zero, List.push_toArray, List.append_toArray, List.nil_append, List.cons_append]
  gi_wp2_with (gi_at_call 52; refine cC.mono ?_; rintro e W ⟨v, ss, rfl, ⟨hS, hlen⟩, hrow, hnil, hb⟩)
  rcases hrow.2 with ⟨rfl, hz⟩ | ⟨gb, cap, cur, rfl, hbase, hgb, r1, r2, r3, r4⟩
  · have hss : ss = [] := List.eq_nil_of_length_eq_zero hz
    subst hss
    have cN : Calls Try.prog 53 #[.slice none 0 0, .func (.func 27) #[] #[]] W fun e w' => e = .returned (.tuple #[]) ∧ w' = W :=
      AnyF.slices_SortFunc_none { sortA with } none 0 _ W
    gi_wp2_with (gi_at_call 53; refine (callsIn_wide.2 cN).mono ?_; rintro e w' ⟨rfl, rfl⟩)
    go_ret
    exact ⟨.slice none 0 0, [], rfl, hS, by simpa [srtT] using hrow, hb⟩
  · have hH : Holds encStr W gb 0 ss.toArray := holds_of_block hgb (by simpa using r4)
    have hgl : gb < W.heap.size := (Array.getElem?_eq_some_iff.1 hgb).1
    have cS : Calls Try.prog 53 #[.slice (some ⟨gb, 0, none⟩) ss.length cap, .func (.func 27) #[] #[]] W fun e w' => e = .returned (.tuple #[]) ∧ ∃ n os, w' = sortWorld encStr W gb 0 n (srtT ss).toArray os :=
      Any.slices_SortFunc_total sortA encStr (fun _ => rfl) cmpT swoT 27 #[] gb 0 cap ss.toArray W ec (cmpReadsT gb 0 _ W).lays hH hgl (by simp; omega) totT
    gi_wp2_with (gi_at_call 53; refine (callsIn_wide.2 cS).mono ?_; rintro e w' ⟨rfl, nn, os, rfl⟩)
    go_ret
    exact ⟨_, ss, rfl, hS, ownsRow_sorted (by simp [srtT]) hbase hgb r1 r2 r3, hb.grown (grownBy_sorted _) hb.size (fun j hj => by cases hj; exact hbase)⟩
end Go.Proofs.Ythpbdcookhpdaaa

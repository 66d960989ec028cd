
/- The program's functions on words, walked: what is a word. -/
import Derived.Test.YtpalgnfimelioaaGreatDoorIter
namespace Go.Proofs.YtpalgnfimelioaaGreatDoor
open Go.RowKit Go.Shelf
attribute [local go_sem] Oper.semAt_some

theorem letIn_ (c : UInt8) (w : World) : Calls Tryz.prog 81 #[.int .u8 (c.toNat : Int)] w (fun E' W' => E' = .returned (.bool (letB c)) ∧ w = W') := by
  by_cases h : c = 76
  · subst h
    go_enter Tryz.func81, Tryz.ntmps81
    go_wp2
    go_ret
    exact ⟨rfl, rfl⟩
  · have h1 : ((c.toNat : Int) == 76) = false := by
      have : c.toNat ≠ 76 := fun e => h (UInt8.toNat_inj.1 e)
      simp; omega
    by_cases h2 : c = 82
    · subst h2
      go_enter Tryz.func81, Tryz.ntmps81
      go_wp2
      go_ret
      exact ⟨rfl, rfl⟩
    · have h3 : ((c.toNat : Int) == 82) = false := by
        have : c.toNat ≠ 82 := fun e => h2 (UInt8.toNat_inj.1 e)
        simp; omega
      go_enter Tryz.func81, Tryz.ntmps81
      go_wp2
      go_ret
      exact ⟨by simp [letB, h, h2], rfl⟩

set_option maxRecDepth 100000 in
set_option maxHeartbeats 2000000 in
theorem wordIn_ (s : ByteArray) (hs : s.size ≤ 9223372036854775807) (w : World) : Calls Tryz.prog 39 #[.string s] w (fun E' W' => E' = .returned (.bool (wdL s.data.toList)) ∧ Below w.heap.size w W') := by
  refine (callsIn_wide (n := 6)).1 ?_
  refine callsIn_of_wp_marks Tryz.func39 rfl trivial ?_ rfl
  simp only [Tryz.ntmps39, List.size_toArray, List.length_cons, List.length_nil, Nat.reduceAdd, Nat.reduceSub, Array.replicate_succ, Array.replicate_zero, List.push_toArray, List.append_toArray, List.nil_append, List.cons_append]
  by_cases h40 : 40 < s.size
  · gi_wp2
    refine ⟨.bool false, by simp [results, Tryz.f39, go_sem], ?_, by (repeat' (first | (with_reducible exact hB) | (with_reducible exact Below.refl _ _) | (with_reducible refine Below.alloc ?_ ?_ _) | (with_reducible refine Below.setCell ?_ ?_ _) | (with_reducible refine Below.drew ?_) | (with_reducible refine below_drewN ?_ _) | (with_reducible exact Nat.le_refl _) | (with_reducible exact hB.size) | (simp [go_sem]; done) | (have := hB.size; simp [go_sem]; omega)))⟩
    have : ¬ s.size ≤ 40 := by omega
    simp [wdL, this]
  · have hd : decide ((40 : Int) < (s.size : Int)) = false := by simp; omega
    gi_wp2_with (refine ⟨trivial, ?_⟩; gi_at_call 40; refine (callsIn_wide.2 (letters_ _ _)).mono ?_; rintro e w' ⟨rfl, rfl⟩)
    refine wpIn_rangeFunc_ownF rfl (by omega) (gf := 82) (lb := #[.pointer (some ⟨w.heap.size + 1, 0, none⟩)]) rfl trivial (enters_of Tryz.func82 (by kernel_rfl) rfl)
      (letters_stops Fence.wide 5 trivial rfl (by omega) (w.heap.size + 1) s (by omega) _ (by simp) ?cell) kc_t (kc_b (by simp)) (Below.refl _ _) (fun _ => rfl)
      (fun pre W => pre.all letB = true ∧ MB w (fun _ => [(w.heap.size + 1, #[.string s], 40), (w.heap.size, #[.bool false], 4)]) pre W)
      (fun c pre W => (c = .ret ∧ pre.all letB = false) ∧ MB w (fun _ => [(w.heap.size + 1, #[.string s], 40), (w.heap.size, #[.bool false], 4)]) pre W)
      (OwnFrom.and (ownFrom_pure _ _) (mb_own (by simp; omega) _)) (fun c => OwnFrom.and (ownFrom_pure _ _) (mb_own (by simp; omega) _)) ?start
      (fun x => { tmps := #[.string s, undef, .pointer (some ⟨w.heap.size, 0, none⟩), .int .u8 (x.toNat : Int), .string s, .int .i64 s.size, .bool false, .string s, .func (.func 82) #[] #[.pointer (some ⟨w.heap.size + 1, 0, none⟩)], .int .u8 (x.toNat : Int), undef, undef, undef], defers := [] }) ?assign ?body ?done ?stop
    case cell => simp
    case start =>
      have hM := mem_nil w; have hB := Below.refl w.heap.size w; have hC := True.intro
      exact ⟨rfl, by apply mem_drop 0; · (repeat' (first | (with_reducible exact hM) | (with_reducible apply mem_alloc) | (with_reducible apply mem_set) | (with_reducible apply mem_drew) | (with_reducible apply mem_drewN)))
                     · simp, by (repeat' (first | (with_reducible exact hB) | (with_reducible exact Below.refl _ _) | (with_reducible refine Below.alloc ?_ ?_ _) | (with_reducible refine Below.setCell ?_ ?_ _) | (with_reducible refine Below.drew ?_) | (with_reducible refine below_drewN ?_ _) | (with_reducible exact Nat.le_refl _) | (with_reducible exact hB.size) | (simp [go_sem]; done) | (have := hB.size; simp [go_sem]; omega)))⟩
    case assign =>
      intro l x W K hK
      simp only [encL]
      gi_wp2
      exact hK
    case body =>
      rintro l pre x W ⟨hp, hM, hB⟩ _
      have hC := mem_facts hM
      simp at hC
      have hK := KeepsOthers.refl W
      have hM0 := hM
      cases hx : letB x
      all_goals
        gi_wp2_with (refine ⟨trivial, ?_⟩; gi_at_call 81; refine (CallsIn.inRound l (callsIn_wide.2 (letIn_ _ _))).mono ?_; rintro e w' ⟨rfl, rfl⟩)
      · refine ⟨(by repeat' (first | (with_reducible exact hK) | (with_reducible exact KeepsOthers.refl _) | (with_reducible apply keeps_alloc) | (with_reducible apply keeps_set) | (with_reducible apply keeps_drew) | (with_reducible apply keeps_drewN))), ⟨rfl, by simp [hp, hx]⟩, ?_, by (repeat' (first | (with_reducible exact hB) | (with_reducible exact Below.refl _ _) | (with_reducible refine Below.alloc ?_ ?_ _) | (with_reducible refine Below.setCell ?_ ?_ _) | (with_reducible refine Below.drew ?_) | (with_reducible refine below_drewN ?_ _) | (with_reducible exact Nat.le_refl _) | (with_reducible exact hB.size) | (simp [go_sem]; done) | (have := hB.size; simp [go_sem]; omega)))⟩
        apply mem_drop 0
        · (repeat' (first | (with_reducible exact hM) | (with_reducible apply mem_alloc) | (with_reducible apply mem_set) | (with_reducible apply mem_drew) | (with_reducible apply mem_drewN)))
        · simp
      · refine ⟨(by repeat' (first | (with_reducible exact hK) | (with_reducible exact KeepsOthers.refl _) | (with_reducible apply keeps_alloc) | (with_reducible apply keeps_set) | (with_reducible apply keeps_drew) | (with_reducible apply keeps_drewN))), ?_, by simp [hp, hx], ?_, by (repeat' (first | (with_reducible exact hB) | (with_reducible exact Below.refl _ _) | (with_reducible refine Below.alloc ?_ ?_ _) | (with_reducible refine Below.setCell ?_ ?_ _) | (with_reducible refine Below.drew ?_) | (with_reducible refine below_drewN ?_ _) | (with_reducible exact Nat.le_refl _) | (with_reducible exact hB.size) | (simp [go_sem]; done) | (have := hB.size; simp [go_sem]; omega)))⟩
        · exact kc_mem hM0 (by (repeat' (first | (with_reducible exact hM) | (with_reducible apply mem_alloc) | (with_reducible apply mem_set) | (with_reducible apply mem_drew) | (with_reducible apply mem_drewN)))) List.mem_cons_self List.mem_cons_self
        · apply mem_drop 0
          · (repeat' (first | (with_reducible exact hM) | (with_reducible apply mem_alloc) | (with_reducible apply mem_set) | (with_reducible apply mem_drew) | (with_reducible apply mem_drewN)))
          · simp
    case done =>
      rintro D ys W hD rfl ⟨hp, hM, hB⟩ hd
      have hC := mem_facts hM
      simp at hC
      have hK := KeepsOthers.refl W
      gi_wp2
      refine fin_marks (w := w) hd hD (by simp; omega) (by repeat' (first | (with_reducible exact hK) | (with_reducible exact KeepsOthers.refl _) | (with_reducible apply keeps_alloc) | (with_reducible apply keeps_set) | (with_reducible apply keeps_drew) | (with_reducible apply keeps_drewN))) (L := [(w.heap.size + 1, #[.string s], 40), (w.heap.size, #[.bool true], 4)]) ?_ (by (repeat' (first | (with_reducible exact hB) | (with_reducible exact Below.refl _ _) | (with_reducible refine Below.alloc ?_ ?_ _) | (with_reducible refine Below.setCell ?_ ?_ _) | (with_reducible refine Below.drew ?_) | (with_reducible refine below_drewN ?_ _) | (with_reducible exact Nat.le_refl _) | (with_reducible exact hB.size) | (simp [go_sem]; done) | (have := hB.size; simp [go_sem]; omega)))) ?_
      · apply mem_drop 0
        · (repeat' (first | (with_reducible exact hM) | (with_reducible apply mem_alloc) | (with_reducible apply mem_set) | (with_reducible apply mem_drew) | (with_reducible apply mem_drewN)))
        · simp
      · intro W' hM' hB'
        have hC' := mem_facts hM'
        simp at hC'
        refine ⟨.bool true, by simp [results, Tryz.f39, go_sem, hC'], ?_, hB'⟩
        have : s.size ≤ 40 := by omega
        simp [wdL, this, hp]
    case stop =>
      rintro D c pre W hD hpre ⟨⟨rfl, hp⟩, hM, hB⟩ hd
      gi_wp2
      refine fin_marks (w := w) hd hD (by simp; omega) (KeepsOthers.refl W) hM hB ?_
      intro W' hM' hB'
      have hC' := mem_facts hM'
      simp at hC'
      refine ⟨.bool false, by simp [results, Tryz.f39, go_sem, hC'], ?_, hB'⟩
      have : s.data.toList.all letB = false := by
        obtain ⟨r, hr⟩ := hpre
        rw [← hr, List.all_append, hp]; rfl
      simp only [wdL, this, Bool.false_and]
end Go.Proofs.YtpalgnfimelioaaGreatDoor

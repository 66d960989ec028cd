
/- The program's word of a fraction, walked. -/
import Derived.Test.YtpalgnfimelioaaGreatDoorFrac
namespace Go.Proofs.YtpalgnfimelioaaGreatDoor
open Go.RowKit Go.Shelf
attribute [local go_sem] Oper.semAt_some

theorem infoU8 : (Tryz.prog.info? 5).map (fun i => (i.zero, i.size, i.bytes)) = some (some (.int .u8 0), 1, 1) := by kernel_rfl
/-- the word of a fraction, and whether it has at most 40 letters -/
def fwd (p q : Nat) : ByteArray × Bool := if (lets p q).length ≤ 40 then (txt (lets p q), true) else (⟨#[]⟩, false)

set_option maxRecDepth 100000 in
set_option maxHeartbeats 4000000 in
theorem fracWord_ (p q : Nat) (hp : 1 ≤ p) (hq : 1 ≤ q) (hpq : p + q ≤ 1000000000000) (w : World) : Calls Tryz.prog 127 #[.agg #[.int .i64 p, .int .i64 q]] w (fun E' W' => E' = .returned (.tuple #[.string (fwd p q).1, .bool (fwd p q).2]) ∧ Below w.heap.size w W') := by
  refine (callsIn_wide (n := 6)).1 ?_
  refine callsIn_of_wp_marks Tryz.func127 rfl trivial ?_ rfl
  simp only [Tryz.ntmps127, List.size_toArray, List.length_cons, List.length_nil, Nat.reduceAdd, Nat.reduceSub, Array.replicate_succ, Array.replicate_zero, List.push_toArray, List.append_toArray, List.nil_append, List.cons_append]
  obtain ⟨i0, hi, hz0, hz1, hz2⟩ := info_parts infoU8
  have hM := mem_nil w; have hB := Below.refl w.heap.size w; have hC := True.intro
  gi_wp2_with (refine ⟨trivial, ?_⟩; gi_at_call 162; refine (callsIn_wide.2 (fracLetters_ _ _ _)).mono ?_; rintro e w' ⟨rfl, rfl⟩)
  refine wpIn_rangeFunc_ownF rfl (by omega) (gf := 196) (lb := #[.pointer (some ⟨w.heap.size + 1 + 1 + 1 + 1, 0, none⟩)]) rfl trivial (enters_of Tryz.func196 (by kernel_rfl) rfl)
    (frac_stops 5 (by omega) (w.heap.size + 1 + 1 + 1 + 1) p q hp hq hpq _ (by simp) ?cell0 ?cell1) (fun _ _ => trivial) (fun _ _ _ _ _ _ _ _ => trivial) (Below.refl _ _) (fun _ => rfl)
    (fun pre W => pre.length ≤ 40 ∧ MR w 5 (fun _ v => [(w.heap.size + 1 + 1 + 1 + 1, #[.int .i64 p, .int .i64 q], 138), (w.heap.size + 1 + 1 + 1, #[v], 22), (w.heap.size + 1 + 1, #[.bool false], 4), (w.heap.size + 1, #[.string ⟨#[]⟩], 9), (w.heap.size, #[.int .i64 p, .int .i64 q], 138)]) (fun pre => pre.map byteV) pre W)
    (fun c pre W => (c = .ret ∧ 40 < pre.length) ∧ MB w (fun _ => [(w.heap.size + 1 + 1, #[.bool false], 4), (w.heap.size + 1, #[.string ⟨#[]⟩], 9), (w.heap.size, #[.int .i64 p, .int .i64 q], 138)]) pre W)
    (OwnFrom.and (ownFrom_pure _ _) (mr_own (by simp; omega) _ _ _)) (fun c => OwnFrom.and (ownFrom_pure _ _) (mb_own (by simp; omega) _)) ?start
    (fun x => { tmps := #[.agg #[.int .i64 p, .int .i64 q], .pointer (some ⟨w.heap.size, 0, none⟩), .pointer (some ⟨w.heap.size + 1, 0, none⟩), .pointer (some ⟨w.heap.size + 1 + 1, 0, none⟩), .pointer (some ⟨w.heap.size + 1 + 1 + 1, 0, none⟩), .int .u8 (x.toNat : Int), .agg #[.int .i64 p, .int .i64 q], .func (.func 196) #[] #[.pointer (some ⟨w.heap.size + 1 + 1 + 1 + 1, 0, none⟩)], .int .u8 (x.toNat : Int), undef, undef, undef, undef, undef, undef, undef, undef, undef], defers := [] }) ?assign ?body ?done ?stop
  case cell0 => simp [go_sem]
  case cell1 => simp [go_sem]
  case start =>
    refine ⟨by simp, .slice none 0 0, ?_, World.ownsRow_nil _ _ _ _, by (repeat' (first | (with_reducible exact hB) | (with_reducible exact Below.refl _ _) | (with_reducible refine Below.alloc ?_ ?_ _) | (with_reducible refine Below.setCell ?_ ?_ _) | (with_reducible refine Below.drew ?_) | (with_reducible refine below_drewN ?_ _) | (with_reducible exact Nat.le_refl _) | (with_reducible exact hB.size) | (simp [go_sem]; done) | (have := hB.size; simp [go_sem]; omega)))⟩
    apply mem_drop 0
    · (repeat' (first | (with_reducible exact hM) | (with_reducible apply mem_alloc) | (with_reducible apply mem_set) | (with_reducible apply mem_drew) | (with_reducible apply mem_drewN)))
    · simp
  case assign =>
    intro l x W K hK
    simp only [encL]
    gi_wp2
    exact hK
  case body =>
    rintro l pre x W ⟨hlen, v, hM', hR, hB'⟩ _
    (try clear hC); clear hM hB; have hM := hM'; have hB := hB'; clear hM' hB'; have hC := mem_facts hM; simp at hC
    have hK := KeepsOthers.refl W
    obtain ⟨ao, cap, rfl⟩ := row_form hR
    simp only [List.length_map] at hR hM hC ⊢
    by_cases h40 : pre.length = 40
    · have he : ((pre.length : Int) == 40) = true := by simp; omega
      have H40 := Lib.hid h40
      clear h40
      gi_wp2
      refine ⟨(by repeat' (first | (with_reducible exact hK) | (with_reducible exact KeepsOthers.refl _) | (with_reducible apply keeps_alloc) | (with_reducible apply keeps_set) | (with_reducible apply keeps_drew) | (with_reducible apply keeps_drewN))), ⟨rfl, by have := H40.out; simp; omega⟩, ?_, by (repeat' (first | (with_reducible exact hB) | (with_reducible exact Below.refl _ _) | (with_reducible refine Below.alloc ?_ ?_ _) | (with_reducible refine Below.setCell ?_ ?_ _) | (with_reducible refine Below.drew ?_) | (with_reducible refine below_drewN ?_ _) | (with_reducible exact Nat.le_refl _) | (with_reducible exact hB.size) | (simp [go_sem]; done) | (have := hB.size; simp [go_sem]; omega)))⟩
      apply mem_drop 2
      · (repeat' (first | (with_reducible exact hM) | (with_reducible apply mem_alloc) | (with_reducible apply mem_set) | (with_reducible apply mem_drew) | (with_reducible apply mem_drewN)))
      · simp <;> omega
    · have he : ((pre.length : Int) == 40) = false := by simp; omega
      gi_wp2_with (gi_at_builtin; refine wpListIn_append_own _ rfl _ _ 22 rfl w.heap.size 5 i0 (.int .u8 0) 1 1 Tryz.underlying22 hi hz0 hz1 hz2 rfl (by decide) _ _ _ rfl (hR.alloc _) ⟨_, 0, none⟩ 1 1 [.int .u8 (x.toNat : Int)] rfl rfl (cell_one_new _ _ _) (by simp [Value.oneCell']) (by simp [maxLen]; omega) (by first | omega | (simp; omega)) (by have := hB.size; simp; omega) ?_; intro v' w1 hown' hgrow _; obtain ⟨g', cap', rfl⟩ := ownsRow_succ hown'; apply after_app (w := w) (A := W) hgrow (hR.alloc _) (mem_alloc0 hM _) (by simp) (hB.alloc hB.size _) (by have := hB.size; simp; omega) (keeps_alloc hK _); clear hM hB hK hgrow hR; intro hM hB hK; have hR := hown'; clear hown'; (try clear hC); have hC := mem_facts hM; simp at hC)
      refine ⟨(by repeat' (first | (with_reducible exact hK) | (with_reducible exact KeepsOthers.refl _) | (with_reducible apply keeps_alloc) | (with_reducible apply keeps_set) | (with_reducible apply keeps_drew) | (with_reducible apply keeps_drewN))), trivial, ⟨by simp; omega, _, ?_, row_set (by simpa [byteV] using hR) hM (by simp) (by simp) _, by (repeat' (first | (with_reducible exact hB) | (with_reducible exact Below.refl _ _) | (with_reducible refine Below.alloc ?_ ?_ _) | (with_reducible refine Below.setCell ?_ ?_ _) | (with_reducible refine Below.drew ?_) | (with_reducible refine below_drewN ?_ _) | (with_reducible exact Nat.le_refl _) | (with_reducible exact hB.size) | (simp [go_sem]; done) | (have := hB.size; simp [go_sem]; omega)))⟩⟩
      apply mem_drop 0
      · (repeat' (first | (with_reducible exact hM) | (with_reducible apply mem_alloc) | (with_reducible apply mem_set) | (with_reducible apply mem_drew) | (with_reducible apply mem_drewN)))
      · simp <;> omega
  case done =>
    rintro D ys W hD rfl ⟨hlen, v, hM', hR, hB'⟩ hd
    (try clear hC); clear hM hB; have hM := hM'; have hB := hB'; clear hM' hB'; have hC := mem_facts hM; simp at hC
    have hK := KeepsOthers.refl W
    have hconv := run_text (P := Tryz.prog) (src := 22) (dst := 9) (e := 5) Tryz.underlying22 Tryz.underlying5 Tryz.underlying9 (by simpa using hR)
    gi_wp2
    refine fin_marks (w := w) hd hD (by simp; omega) (by repeat' (first | (with_reducible exact hK) | (with_reducible exact KeepsOthers.refl _) | (with_reducible apply keeps_alloc) | (with_reducible apply keeps_set) | (with_reducible apply keeps_drew) | (with_reducible apply keeps_drewN))) (L := [(w.heap.size + 1 + 1, #[.bool true], 4), (w.heap.size + 1, #[.string (txt (lets p q))], 9), (w.heap.size, #[.int .i64 p, .int .i64 q], 138)]) ?_ (by (repeat' (first | (with_reducible exact hB) | (with_reducible exact Below.refl _ _) | (with_reducible refine Below.alloc ?_ ?_ _) | (with_reducible refine Below.setCell ?_ ?_ _) | (with_reducible refine Below.drew ?_) | (with_reducible refine below_drewN ?_ _) | (with_reducible exact Nat.le_refl _) | (with_reducible exact hB.size) | (simp [go_sem]; done) | (have := hB.size; simp [go_sem]; omega)))) ?_
    · apply mem_drop 2
      · (repeat' (first | (with_reducible exact hM) | (with_reducible apply mem_alloc) | (with_reducible apply mem_set) | (with_reducible apply mem_drew) | (with_reducible apply mem_drewN)))
      · simp <;> omega
    · intro W' hM' hB'
      have hC' := mem_facts hM'
      simp at hC'
      exact ⟨.tuple #[.string (txt (lets p q)), .bool true], by simp [results, Tryz.f127, go_sem, hC'], by rw [fwd, if_pos hlen], hB'⟩
  case stop =>
    rintro D c pre W hD hpre ⟨⟨rfl, hlen⟩, hM, hB⟩ hd
    gi_wp2
    refine fin_marks (w := w) hd hD (by simp; omega) (KeepsOthers.refl W) hM hB ?_
    intro W' hM' hB'
    have hC' := mem_facts hM'
    simp at hC'
    refine ⟨.tuple #[.string ⟨#[]⟩, .bool false], by simp [results, Tryz.f127, go_sem, hC'], ?_, hB'⟩
    have : ¬ (lets p q).length ≤ 40 := by
      obtain ⟨r, hr⟩ := hpre
      rw [← hr, List.length_append]; omega
    rw [fwd, if_neg this]
end Go.Proofs.YtpalgnfimelioaaGreatDoor

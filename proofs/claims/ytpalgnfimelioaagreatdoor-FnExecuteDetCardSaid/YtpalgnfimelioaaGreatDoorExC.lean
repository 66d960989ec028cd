
/- Chapter 9's outputs of one number and of one text; strconv.Itoa. Condition of what needs Itoa: the library's table of powers of ten lies as its text lays it. -/
import Derived.Test.YtpalgnfimelioaaGreatDoorExB
import Derived.Test.YtpalgnfimelioaaGreatDoorLay2
import Derived.Lib.SmallJoins
import Derived.Lib.AppendIntMem
import Derived.Lib.ItoaLen
import Derived.Test.YtpalgnfimelioaaGreatDoorRow
import Derived.Deep.LoopGhost
namespace Go.Proofs.YtpalgnfimelioaaGreatDoor
open Go.RowKit Go.Shelf

/-- the table of powers of ten lies as the library's text lays it, whatever is done from B on -/
def TabB (B : Nat) (w : World) : Prop := Lib.TabBelow Tryz.prog B w "internal/strconv.uint64pow10" .u64 Lib.pow10Tab
theorem TabB.on {B : Nat} {w w' : World} (h : TabB B w) (hb : Below B w w') : TabB B w' := fun w2 h2 => h w2 (hb.trans h2)
theorem below_grow (w : World) (k : Nat) (os : Array Obj) : Below w.heap.size w (Sort.grow (w.drewN k) os) :=
  ⟨rfl, rfl, rfl, by simp [Sort.grow], fun i hi => by simp [Sort.grow, Array.getElem?_append, hi]⟩
theorem itoa_ (n : Int) (h0 : -9223372036854775808 ≤ n) (h1 : n ≤ 9223372036854775807) (w : World) (hT : Lib.TabIs Tryz.prog w "internal/strconv.uint64pow10" .u64 Lib.pow10Tab) :
    Calls Tryz.prog 116 #[.int .i64 n] w (fun E' W' => E' = .returned (.string (tx (Lib.itoa n))) ∧ Below w.heap.size w W') := by
  refine (show Calls Tryz.prog 116 #[.int .i64 n] w _ from Any.strconv_Itoa laysItoa n h0 h1 w hT).mono ?_
  rintro e w' ⟨rfl, k, os, rfl⟩
  exact ⟨rfl, below_grow w k os⟩
theorem TabB.later {w w' : World} (h : TabB w.heap.size w) (hb : Below w.heap.size w w') : TabB w'.heap.size w' := fun w2 h2 => h w2 (hb.trans (h2.mono hb.size))
/-- what a text says at least: a dot for none -/
def dotL (l : List UInt8) : List UInt8 := if l = [] then [46] else l
set_option maxHeartbeats 1000000 in
theorem spelled1_ (s : List UInt8) (g c : Nat) (w : World) (hg : w.cell? ⟨g, 0, none⟩ = some (.string (tx s))) : Calls Tryz.prog 89 #[.bool true, .slice (some ⟨g, 0, none⟩) 1 c] w
    (fun E' W' => E' = .returned (.string (tx (dotL s))) ∧ Below w.heap.size w W') := by
  by_cases h : s = []
  · subst h
    rw [show dotL [] = [46] from rfl]
    have he : (tx []).toList.isEmpty = true := by rw [Lib.toList_data]; rfl
    have hM := mem_nil w; have hB := Below.refl w.heap.size w; have hC := True.intro
    go_enter Tryz.func89, Tryz.ntmps89
    go_wp2_with (go_at_call 128; refine (join1_ _ _ _ _ _ hg).mono ?_; rintro e w' ⟨rfl, hb⟩; apply after_call (w := w) hb; (focus ((repeat' (first | (with_reducible exact hM) | (with_reducible apply mem_alloc) | (with_reducible apply mem_set) | (with_reducible apply mem_drew) | (with_reducible apply mem_drewN))); done)); (focus ((repeat' (first | (with_reducible exact hB) | (with_reducible exact Below.refl _ _) | (with_reducible refine Below.alloc ?_ ?_ _) | (with_reducible refine Below.setCell ?_ ?_ _) | (with_reducible refine Below.drew ?_) | (with_reducible refine below_drewN ?_ _) | (with_reducible exact Nat.le_refl _) | (with_reducible exact hB.size) | (simp [go_sem]; done) | (have := hB.size; simp [go_sem]; omega))); done)); (focus ((repeat' (first | (with_reducible exact hB) | (with_reducible exact Below.refl _ _) | (with_reducible refine Below.alloc ?_ ?_ _) | (with_reducible refine Below.setCell ?_ ?_ _) | (with_reducible refine Below.drew ?_) | (with_reducible refine below_drewN ?_ _) | (with_reducible exact Nat.le_refl _) | (with_reducible exact hB.size) | (simp [go_sem]; done) | (have := hB.size; simp [go_sem]; omega))); done)); clear hM hB hb; intro hM hB; (try clear hC); have hC := mem_facts hM; simp at hC)
    go_ret
    exact ⟨rfl, by (repeat' (first | (with_reducible exact hB) | (with_reducible exact Below.refl _ _) | (with_reducible refine Below.alloc ?_ ?_ _) | (with_reducible refine Below.setCell ?_ ?_ _) | (with_reducible refine Below.drew ?_) | (with_reducible refine below_drewN ?_ _) | (with_reducible exact Nat.le_refl _) | (with_reducible exact hB.size) | (simp [go_sem]; done) | (have := hB.size; simp [go_sem]; omega)))⟩
  · rw [show dotL s = s from if_neg h]
    have he : (tx s).toList.isEmpty = false := by rw [Lib.toList_data]; simpa [tx] using h
    have hM := mem_nil w; have hB := Below.refl w.heap.size w; have hC := True.intro
    go_enter Tryz.func89, Tryz.ntmps89
    go_wp2_with (go_at_call 128; refine (join1_ _ _ _ _ _ hg).mono ?_; rintro e w' ⟨rfl, hb⟩; apply after_call (w := w) hb; (focus ((repeat' (first | (with_reducible exact hM) | (with_reducible apply mem_alloc) | (with_reducible apply mem_set) | (with_reducible apply mem_drew) | (with_reducible apply mem_drewN))); done)); (focus ((repeat' (first | (with_reducible exact hB) | (with_reducible exact Below.refl _ _) | (with_reducible refine Below.alloc ?_ ?_ _) | (with_reducible refine Below.setCell ?_ ?_ _) | (with_reducible refine Below.drew ?_) | (with_reducible refine below_drewN ?_ _) | (with_reducible exact Nat.le_refl _) | (with_reducible exact hB.size) | (simp [go_sem]; done) | (have := hB.size; simp [go_sem]; omega))); done)); (focus ((repeat' (first | (with_reducible exact hB) | (with_reducible exact Below.refl _ _) | (with_reducible refine Below.alloc ?_ ?_ _) | (with_reducible refine Below.setCell ?_ ?_ _) | (with_reducible refine Below.drew ?_) | (with_reducible refine below_drewN ?_ _) | (with_reducible exact Nat.le_refl _) | (with_reducible exact hB.size) | (simp [go_sem]; done) | (have := hB.size; simp [go_sem]; omega))); done)); clear hM hB hb; intro hM hB; (try clear hC); have hC := mem_facts hM; simp at hC)
    go_ret
    exact ⟨rfl, by (repeat' (first | (with_reducible exact hB) | (with_reducible exact Below.refl _ _) | (with_reducible refine Below.alloc ?_ ?_ _) | (with_reducible refine Below.setCell ?_ ?_ _) | (with_reducible refine Below.drew ?_) | (with_reducible refine below_drewN ?_ _) | (with_reducible exact Nat.le_refl _) | (with_reducible exact hB.size) | (simp [go_sem]; done) | (have := hB.size; simp [go_sem]; omega)))⟩
theorem infoStrC : (Tryz.prog.info? 9).map (fun i => (i.zero, i.size, i.bytes)) = some (some (.string ⟨#[]⟩), 1, 16) := by kernel_rfl
theorem row1_cell {w : World} {B g c : Nat} {e : TypeId} {x : Value} (h : w.ownsRow B e 1 (.slice (some ⟨g, 0, none⟩) 1 c) 1 [x]) : w.cell? ⟨g, 0, none⟩ = some x := by
  rcases h.2 with ⟨h, _⟩ | ⟨g', cap', cur, hv, _, hg, _, _, hs, hx⟩
  · cases h
  · injection hv with hv _ _
    injection hv with hv
    injection hv with hv _ _
    subst hv
    simp only [World.cell?, hg]
    have : cur.toList.take 1 = [x] := by simpa using hx
    cases hc : cur.toList with
    | nil => rw [hc] at this; cases this
    | cons y l => rw [hc] at this; simp at this; subst this; simp [← Array.getElem?_toList, hc]
theorem itoa_ne (n : Int) : Lib.itoa n ≠ [] := by
  unfold Lib.itoa
  split
  · simp
  · unfold Lib.decDigits
    split <;> simp
set_option maxHeartbeats 2000000 in
set_option maxRecDepth 100000 in
theorem told1_ (n : Int) (h0 : -9223372036854775808 ≤ n) (h1 : n ≤ 9223372036854775807) (g c : Nat) (w : World) (hT : TabB w.heap.size w) (hg : w.cell? ⟨g, 0, none⟩ = some (.int .i64 n)) (hgl : g < w.heap.size) : Calls Tryz.prog 77 #[.bool true, .slice (some ⟨g, 0, none⟩) 1 c] w
    (fun E' W' => E' = .returned (.string (tx (Lib.itoa n))) ∧ Below w.heap.size w W') := by
  go_enter Tryz.func77, Tryz.ntmps77
  go_wp2
  go_loopg [5, 10] 1 (fun gk v i wr => Below w.heap.size w wr ∧ ((gk = 1 ∧ v = .slice none 0 0 ∧ i = .int .i64 0) ∨ (gk = 0 ∧ i = .int .i64 1 ∧ ∃ g' c', v = .slice (some ⟨g', 0, none⟩) 1 c' ∧ wr.cell? ⟨g', 0, none⟩ = some (.string (tx (Lib.itoa n))))))
  case atStart => exact ⟨Below.refl _ _, .inl ⟨rfl, rfl, rfl⟩⟩
  case round =>
    obtain ⟨hB, ⟨rfl, rfl, rfl⟩ | ⟨rfl, rfl, g', c', rfl, hgc⟩⟩ := hrel
    · have hcw : wr.cell? ⟨g, 0, none⟩ = some (.int .i64 n) := (hB.cell (p := ⟨g, 0, none⟩) hgl).trans hg
      have hM := mem_nil wr
      have hC := True.intro
      obtain ⟨i0, hi, hz0, hz1, hz2⟩ := info_parts infoStrC
      go_wp2_with (first
        | (go_at_call 116; refine (itoa_ n h0 h1 _ (hT _ (by (repeat' (first | (with_reducible exact hB) | (with_reducible exact Below.refl _ _) | (with_reducible refine Below.alloc ?_ ?_ _) | (with_reducible refine Below.setCell ?_ ?_ _) | (with_reducible refine Below.drew ?_) | (with_reducible refine below_drewN ?_ _) | (with_reducible exact Nat.le_refl _) | (with_reducible exact hB.size) | (simp [go_sem]; done) | (have := hB.size; simp [go_sem]; omega)))))).mono ?_; rintro e w' ⟨rfl, hb⟩; apply after_call (w := w) hb; (focus ((repeat' (first | (with_reducible exact hM) | (with_reducible apply mem_alloc) | (with_reducible apply mem_set) | (with_reducible apply mem_drew) | (with_reducible apply mem_drewN))); done)); (focus ((repeat' (first | (with_reducible exact hB) | (with_reducible exact Below.refl _ _) | (with_reducible refine Below.alloc ?_ ?_ _) | (with_reducible refine Below.setCell ?_ ?_ _) | (with_reducible refine Below.drew ?_) | (with_reducible refine below_drewN ?_ _) | (with_reducible exact Nat.le_refl _) | (with_reducible exact hB.size) | (simp [go_sem]; done) | (have := hB.size; simp [go_sem]; omega))); done)); (focus ((repeat' (first | (with_reducible exact hB) | (with_reducible exact Below.refl _ _) | (with_reducible refine Below.alloc ?_ ?_ _) | (with_reducible refine Below.setCell ?_ ?_ _) | (with_reducible refine Below.drew ?_) | (with_reducible refine below_drewN ?_ _) | (with_reducible exact Nat.le_refl _) | (with_reducible exact hB.size) | (simp [go_sem]; done) | (have := hB.size; simp [go_sem]; omega))); done)); clear hM hB hb; intro hM hB; (try clear hC); have hC := mem_facts hM; simp at hC)
        | (at_builtin; refine wpList_append_own _ rfl _ _ 74 rfl w.heap.size 9 i0 (.string ⟨#[]⟩) 1 16 Tryz.underlying74 hi hz0 hz1 hz2 rfl (by decide) _ _ _ rfl (World.ownsRow_nil _ _ _ _) ⟨_, 0, none⟩ 1 1 [.string (tx (Lib.itoa n))] rfl rfl (cell_one_new _ _ _) (by simp [Value.oneCell']) (by simp [maxLen]) (by simp) (by have := hB.size; simp; omega) ?_
           intro v' w1 hown' hgrow hnn; clear hnn; obtain ⟨g', cap', rfl⟩ := ownsRow_succ hown'; have hc1 := row1_cell hown'; have hB1 := (hB.alloc hB.size (.cells #[.string (tx (Lib.itoa n))] 9)).grown hgrow (by have := hB.size; simp; omega) (fun k e => by cases e); clear hM hB hgrow hown'))
      go_roundg 0
      case measure => omega
      case rel => exact ⟨hB1, .inr ⟨rfl, by go_num, g', cap', rfl, hc1⟩⟩
    · have hM := mem_nil wr
      have hC := True.intro
      have hs := spelled1_ (Lib.itoa n) g' c' wr hgc
      rw [show dotL (Lib.itoa n) = Lib.itoa n from if_neg (itoa_ne n)] at hs
      go_wp2_with (go_at_call 89; refine (hs).mono ?_; rintro e w' ⟨rfl, hb⟩; apply after_call (w := w) hb; (focus ((repeat' (first | (with_reducible exact hM) | (with_reducible apply mem_alloc) | (with_reducible apply mem_set) | (with_reducible apply mem_drew) | (with_reducible apply mem_drewN))); done)); (focus ((repeat' (first | (with_reducible exact hB) | (with_reducible exact Below.refl _ _) | (with_reducible refine Below.alloc ?_ ?_ _) | (with_reducible refine Below.setCell ?_ ?_ _) | (with_reducible refine Below.drew ?_) | (with_reducible refine below_drewN ?_ _) | (with_reducible exact Nat.le_refl _) | (with_reducible exact hB.size) | (simp [go_sem]; done) | (have := hB.size; simp [go_sem]; omega))); done)); (focus ((repeat' (first | (with_reducible exact hB) | (with_reducible exact Below.refl _ _) | (with_reducible refine Below.alloc ?_ ?_ _) | (with_reducible refine Below.setCell ?_ ?_ _) | (with_reducible refine Below.drew ?_) | (with_reducible refine below_drewN ?_ _) | (with_reducible exact Nat.le_refl _) | (with_reducible exact hB.size) | (simp [go_sem]; done) | (have := hB.size; simp [go_sem]; omega))); done)); clear hM hB hb; intro hM hB; (try clear hC); have hC := mem_facts hM; simp at hC)
      go_ret
      exact ⟨rfl, by (repeat' (first | (with_reducible exact hB) | (with_reducible exact Below.refl _ _) | (with_reducible refine Below.alloc ?_ ?_ _) | (with_reducible refine Below.setCell ?_ ?_ _) | (with_reducible refine Below.drew ?_) | (with_reducible refine below_drewN ?_ _) | (with_reducible exact Nat.le_refl _) | (with_reducible exact hB.size) | (simp [go_sem]; done) | (have := hB.size; simp [go_sem]; omega)))⟩
end Go.Proofs.YtpalgnfimelioaaGreatDoor

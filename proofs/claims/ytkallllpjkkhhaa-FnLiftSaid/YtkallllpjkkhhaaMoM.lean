
/- The program's matrix with given rests, walked. No condition. -/
import Derived.Test.YtkallllpjkkhhaaMoL
namespace Go.Proofs.Ytkallllpjkkhhaa
open Go.RowKit Go.Shelf
attribute [local go_sem] Oper.semAt_some

/-- the last number, the last two, .. : the first at which the determinant is 1 -/
def fD (a b c d : Nat) : Option (Nat × Nat × Nat × Nat) := if (a : Int) * d - b * c = 1 then some (a, b, c, d) else none
def fC (k d a b c : Nat) : Option (Nat × Nat × Nat × Nat) := (lfs k d).findSome? (fD a b c)
def fB (k c d a b : Nat) : Option (Nat × Nat × Nat × Nat) := (lfs k c).findSome? (fC k d a b)
def fA (k b c d a : Nat) : Option (Nat × Nat × Nat × Nat) := (lfs k b).findSome? (fB k c d a)
def lifP (k a b c d : Nat) : Option (Nat × Nat × Nat × Nat) := (lfs k a).findSome? (fA k b c d)
theorem some_snoc {f : Nat → Option (Nat × Nat × Nat × Nat)} {l : List Nat} {y : Nat} {r : Nat × Nat × Nat × Nat} (h : l.findSome? f = none) (hy : f y = some r) (m : List Nat) (hm : l ++ [y] <+: m) : m.findSome? f = some r := by
  obtain ⟨t, rfl⟩ := hm
  rw [List.findSome?_append, List.findSome?_append, h]
  simp [hy]
theorem none_snoc {f : Nat → Option (Nat × Nat × Nat × Nat)} {l : List Nat} {y : Nat} (h : l.findSome? f = none) (hy : f y = none) : (l ++ [y]).findSome? f = none := by
  rw [List.findSome?_append, h]
  simp [hy]
def Ex4 (P : Nat × Nat × Nat × Nat → Prop) : Prop := ∃ r, P r
theorem ex4 {P : Nat × Nat × Nat × Nat → Prop} (r : Nat × Nat × Nat × Nat) (h : P r) : Ex4 P := ⟨r, h⟩
def NoneQ (f : Nat → Option (Nat × Nat × Nat × Nat)) (l : List Nat) : Prop := l.findSome? f = none
def StopQ (f : Nat → Option (Nat × Nat × Nat × Nat)) (l : List Nat) (r : Nat × Nat × Nat × Nat) : Prop := ∃ p y, l = p ++ [y] ∧ p.findSome? f = none ∧ f y = some r
theorem stop_some {f : Nat → Option (Nat × Nat × Nat × Nat)} {l m : List Nat} {r : Nat × Nat × Nat × Nat} (h : StopQ f l r) (hm : l <+: m) : m.findSome? f = some r := by
  obtain ⟨p, y, rfl, h1, h2⟩ := h
  exact some_snoc h1 h2 m hm
theorem kf_mono {B B' : Nat} {W W' : World} (h : KeepsFrom B W W') (hB : B ≤ B') : KeepsFrom B' W W' := ⟨h.size, fun k o hk => h.same k o (Nat.le_trans hB hk)⟩
theorem evB_fD {a b c d : Nat} (ha : a ≤ 30) (hb : b ≤ 30) (hc : c ≤ 30) (hd : d ≤ 30) : (evB ⟨a, b, c, d⟩ = true ∧ fD a b c d = some (a, b, c, d)) ∨ (evB ⟨a, b, c, d⟩ = false ∧ fD a b c d = none) := by
  have hi : inB ⟨a, b, c, d⟩ = true := inB_iff.2 ⟨by simp; omega, by simp; omega, by simp; omega, by simp; omega⟩
  by_cases h : (a : Int) * d - b * c = 1
  · exact .inl ⟨(evB_iff hi).2 h, by simp [fD, h]⟩
  · refine .inr ⟨?_, by simp [fD, h]⟩
    cases hh : evB ⟨a, b, c, d⟩
    · rfl
    · exact absurd ((evB_iff hi).1 hh) h
/-- what RestLift tells -/
def oL (o : Option (Nat × Nat × Nat × Nat)) : (Nat × Nat × Nat × Nat) × Bool := match o with
  | some r => (r, true)
  | none => ((0, 0, 0, 0), false)
set_option maxRecDepth 100000 in
set_option maxHeartbeats 16000000 in
theorem lift_ (k a b c d : Nat) (hk : 2 ≤ k ∧ k ≤ 12) (ha : a ≤ 12) (hb : b ≤ 12) (hc : c ≤ 12) (hd : d ≤ 12) (w : World) : Calls Try.prog 19 #[.int .i64 k, .agg #[.int .i64 a, .int .i64 b, .int .i64 c, .int .i64 d]] w
    (fun E' W' => E' = .returned (.tuple #[.agg #[.int .i64 ((oL (lifP k a b c d)).1.1 : Nat), .int .i64 ((oL (lifP k a b c d)).1.2.1 : Nat), .int .i64 ((oL (lifP k a b c d)).1.2.2.1 : Nat), .int .i64 ((oL (lifP k a b c d)).1.2.2.2 : Nat)], .bool (oL (lifP k a b c d)).2]) ∧ Below w.heap.size w W') := by
  refine (callsIn_wide (n := 12)).1 ?_
  refine callsIn_of_wp_marks Try.func19 rfl trivial ?_ rfl
  simp only [Try.ntmps19, List.size_toArray, List.length_cons, List.length_nil, Nat.reduceAdd, Nat.reduceSub, Array.replicate_succ, Array.replicate_zero, List.push_toArray, List.append_toArray, List.nil_append, List.cons_append]
  have hM := mem_nil w; have hB := Below.refl w.heap.size w; have hC := True.intro
  gi_wp2_with (refine ⟨trivial, ?_⟩; gi_at_call 40; refine (callsIn_wide.2 (lifts_ _ _ _)).mono ?_; rintro e w' ⟨rfl, rfl⟩)
  have hMi : Mem ((((((w.alloc (Obj.cells #[.int .i64 k] 40)).alloc (Obj.cells #[.int .i64 a, .int .i64 b, .int .i64 c, .int .i64 d] 24)).alloc (Obj.cells #[.int .i64 0, .int .i64 0, .int .i64 0, .int .i64 0] 24)).alloc (Obj.cells #[.bool false] 4)).alloc (Obj.cells #[.int .i64 k] 40)).alloc (Obj.cells #[.int .i64 a] 3)) [(w.heap.size + 1 + 1 + 1 + 1 + 1, #[.int .i64 a], 3), (w.heap.size + 1 + 1 + 1 + 1, #[.int .i64 k], 40), (w.heap.size + 1 + 1 + 1, #[.bool false], 4), (w.heap.size + 1 + 1, #[.int .i64 0, .int .i64 0, .int .i64 0, .int .i64 0], 24), (w.heap.size + 1, #[.int .i64 a, .int .i64 b, .int .i64 c, .int .i64 d], 24), (w.heap.size, #[.int .i64 k], 40)] := by
    apply mem_drop 0
    · (repeat' (first | (with_reducible exact hM) | (with_reducible apply mem_alloc) | (with_reducible apply mem_set) | (with_reducible apply mem_drew) | (with_reducible apply mem_drewN)))
    · simp
  have hBi : Below w.heap.size w ((((((w.alloc (Obj.cells #[.int .i64 k] 40)).alloc (Obj.cells #[.int .i64 a, .int .i64 b, .int .i64 c, .int .i64 d] 24)).alloc (Obj.cells #[.int .i64 0, .int .i64 0, .int .i64 0, .int .i64 0] 24)).alloc (Obj.cells #[.bool false] 4)).alloc (Obj.cells #[.int .i64 k] 40)).alloc (Obj.cells #[.int .i64 a] 3)) := by (repeat' (first | (with_reducible exact hB) | (with_reducible exact Below.refl _ _) | (with_reducible refine Below.alloc ?_ ?_ _) | (with_reducible refine Below.setCell ?_ ?_ _) | (with_reducible refine Below.drew ?_) | (with_reducible refine below_drewN ?_ _) | (with_reducible exact Nat.le_refl _) | (with_reducible exact hB.size) | (simp [go_sem]; done) | (have := hB.size; simp [go_sem]; omega)))
  have hsi : ((((((w.alloc (Obj.cells #[.int .i64 k] 40)).alloc (Obj.cells #[.int .i64 a, .int .i64 b, .int .i64 c, .int .i64 d] 24)).alloc (Obj.cells #[.int .i64 0, .int .i64 0, .int .i64 0, .int .i64 0] 24)).alloc (Obj.cells #[.bool false] 4)).alloc (Obj.cells #[.int .i64 k] 40)).alloc (Obj.cells #[.int .i64 a] 3)).heap.size = w.heap.size + 1 + 1 + 1 + 1 + 1 + 1 := by simp
  obtain ⟨W0, hW0⟩ : ∃ W0, ((((((w.alloc (Obj.cells #[.int .i64 k] 40)).alloc (Obj.cells #[.int .i64 a, .int .i64 b, .int .i64 c, .int .i64 d] 24)).alloc (Obj.cells #[.int .i64 0, .int .i64 0, .int .i64 0, .int .i64 0] 24)).alloc (Obj.cells #[.bool false] 4)).alloc (Obj.cells #[.int .i64 k] 40)).alloc (Obj.cells #[.int .i64 a] 3)) = W0 := ⟨_, rfl⟩
  rw [hW0] at hMi hBi hsi ⊢
  clear hW0 hM hB hC
  have hMi1 := mem_tail' hMi
  have hcx : W0.cell? ⟨w.heap.size + 1 + 1 + 1 + 1 + 1, 0, none⟩ = some (.int .i64 (a : Int)) := cell_of_row _ _ 0 _ _ _ (hMi.1 _ List.mem_cons_self)
  have hcn : W0.cell? ⟨w.heap.size + 1 + 1 + 1 + 1, 0, none⟩ = some (.int .i64 (k : Int)) := cell_of_row _ _ 0 _ _ _ (hMi1.1 _ List.mem_cons_self)
  clear hMi
  refine wpIn_rangeFunc_ownH rfl (by omega) (gf := 53) (lb := #[.pointer (some ⟨w.heap.size + 1 + 1 + 1 + 1 + 1, 0, none⟩), .pointer (some ⟨w.heap.size + 1 + 1 + 1 + 1, 0, none⟩)]) rfl trivial (enters_of Try.func53 (by kernel_rfl) rfl)
    (lifts_stops Fence.wide 11 trivial rfl (by omega) (w.heap.size + 1 + 1 + 1 + 1 + 1) (w.heap.size + 1 + 1 + 1 + 1) k a hk ha W0 (by omega) (by omega) hcx hcn) kc_t (kc_b (by omega)) (Below.refl _ _) (fun _ => rfl)
    (fun pre W => NoneQ (fA k b c d) (pre.map ci) ∧ MB w (fun _ => [(w.heap.size + 1 + 1 + 1 + 1, #[.int .i64 k], 40), (w.heap.size + 1 + 1 + 1, #[.bool false], 4), (w.heap.size + 1 + 1, #[.int .i64 0, .int .i64 0, .int .i64 0, .int .i64 0], 24), (w.heap.size + 1, #[.int .i64 a, .int .i64 b, .int .i64 c, .int .i64 d], 24), (w.heap.size, #[.int .i64 k], 40)]) pre W)
    (fun c' pre W => c' = .ret ∧ Ex4 (fun r => StopQ (fA k b c d) (pre.map ci) r ∧ MB w (fun _ => [(w.heap.size + 1 + 1 + 1, #[.bool true], 4), (w.heap.size + 1 + 1, #[.int .i64 r.1, .int .i64 r.2.1, .int .i64 r.2.2.1, .int .i64 r.2.2.2], 24), (w.heap.size + 1, #[.int .i64 a, .int .i64 b, .int .i64 c, .int .i64 d], 24), (w.heap.size, #[.int .i64 k], 40)]) pre W))
    (OwnFrom.and (ownFrom_pure _ _) (mb_own (by omega) _))
    (by
          rintro c' pre X Y row ⟨rfl, r, h1, h4⟩ hg hr
          exact ⟨rfl, ex4 r ⟨h1, mb_own (by omega) (fun (_ : List Nat) => [(w.heap.size + 1 + 1 + 1, #[.bool true], 4), (w.heap.size + 1 + 1, #[.int .i64 r.1, .int .i64 r.2.1, .int .i64 r.2.2.1, .int .i64 r.2.2.2], 24), (w.heap.size + 1, #[.int .i64 a, .int .i64 b, .int .i64 c, .int .i64 d], 24), (w.heap.size, #[.int .i64 k], 40)]) pre X Y row h4 hg hr⟩⟩)
    ⟨rfl, hMi1, hBi⟩
    (fun q a' W => ∃ B', w.heap.size + 1 + 1 + 1 + 1 < B' ∧ Mem W [(B', #[.int .i64 (ci q : Nat)], 3)] ∧ a' = { tmps := #[.int .i64 k, .agg #[.int .i64 a, .int .i64 b, .int .i64 c, .int .i64 d], .pointer (some ⟨w.heap.size, 0, none⟩), .pointer (some ⟨w.heap.size + 1, 0, none⟩), .pointer (some ⟨w.heap.size + 1 + 1, 0, none⟩), .pointer (some ⟨w.heap.size + 1 + 1 + 1, 0, none⟩), .pointer (some ⟨B', 0, none⟩), undef, undef, undef, undef, .int .i64 k, .pointer (some ⟨w.heap.size + 1, 0, none⟩), .int .i64 a, .func (.func 53) #[] #[.pointer (some ⟨w.heap.size + 1 + 1 + 1 + 1 + 1, 0, none⟩), .pointer (some ⟨w.heap.size + 1 + 1 + 1 + 1, 0, none⟩)], .int .i64 (ci q : Nat), undef, undef, undef, undef, undef, undef, undef, undef, undef, undef, undef, undef, undef, undef, undef, undef, undef, undef, undef, undef, undef, undef, undef, undef], defers := [] })
    ?own1 ?assign1 ?body1 ?done1 ?stop1
  case own1 =>
    rintro q a' _ X Y row ⟨B', h1, h2, h3⟩ hg hr
    exact ⟨B', h1, mem_grown h2 hg (fun r e => (hr r e).2), h3⟩
  case assign1 =>
    rintro l pre q W K ⟨hp, hM, hB⟩ hK
    dsimp only at hM
    have hMW := hM
    simp only [encI]
    have hC := mem_facts hM; simp at hC
    gi_wp2
    have hM2 : Mem (W.alloc (.cells #[.int .i64 (ci q : Nat)] 3)) ((W.heap.size, #[.int .i64 (ci q : Nat)], 3) :: _) := mem_alloc hMW _ _
    have hlo := hB.size
    have hl1 := mem_lt (hMW.1 _ List.mem_cons_self)
    refine hK _ _ ((KeepsOthers.alloc _ _).from _) (kc_mem hMW (mem_tail' hM2) List.mem_cons_self List.mem_cons_self) ⟨hp, mem_tail' hM2, by (repeat' (first | (with_reducible exact hB) | (with_reducible exact Below.refl _ _) | (with_reducible refine Below.alloc ?_ ?_ _) | (with_reducible refine Below.setCell ?_ ?_ _) | (with_reducible refine Below.drew ?_) | (with_reducible refine below_drewN ?_ _) | (with_reducible exact Nat.le_refl _) | (with_reducible exact hB.size) | (simp [go_sem]; done) | (have := hB.size; simp [go_sem]; omega)))⟩ ⟨W.heap.size, ?_, mem_head' hM2, rfl⟩
    exact hl1
  case body1 =>
    rintro l pre q0 a' Wa hl ⟨r, hr⟩ ⟨hp, hM1, hB1⟩ ⟨B1, hB1l, hX, rfl⟩ hlt
    dsimp only at hM1
    obtain ⟨y1, hy1⟩ : ∃ y, y = ci q0 := ⟨_, rfl⟩
    have hyl1 : y1 ≤ 30 := by rw [hy1]; exact ci_le q0
    have hmap1 : (pre ++ [q0]).map ci = pre.map ci ++ [y1] := by simp [hy1]
    rw [← hy1] at hX
    rw [← hy1]
    clear hy1
    have hM := mem_cons' hM1 hX (by intro q hq; simp at hq; rcases hq with rfl | rfl | rfl | rfl | rfl <;> simp <;> omega)
    have hMk1 := hM1
    have hB := hB1
    have hBk1 := hB1
    clear hM1 hB1 hX
    have hlr := mem_lt hr
    have hso1 := hB.size
    have hbo1 := mem_lt (hM.1 _ List.mem_cons_self)
    have hC := mem_facts hM
    simp at hC
    gi_wp2_with (refine ⟨trivial, ?_⟩; gi_at_call 40; refine (CallsIn.inRound l (callsIn_wide.2 (lifts_ _ _ _))).mono ?_; rintro e w' ⟨rfl, rfl⟩)
    have hMi : Mem ((Wa.alloc (.cells #[.int .i64 k] 40)).alloc (.cells #[.int .i64 b] 3)) [(Wa.heap.size + 1, #[.int .i64 b], 3), (Wa.heap.size, #[.int .i64 k], 40), (B1, #[.int .i64 y1], 3), (w.heap.size + 1 + 1 + 1 + 1, #[.int .i64 k], 40), (w.heap.size + 1 + 1 + 1, #[.bool false], 4), (w.heap.size + 1 + 1, #[.int .i64 0, .int .i64 0, .int .i64 0, .int .i64 0], 24), (w.heap.size + 1, #[.int .i64 a, .int .i64 b, .int .i64 c, .int .i64 d], 24), (w.heap.size, #[.int .i64 k], 40)] := by
      apply mem_drop 0
      · (repeat' (first | (with_reducible exact hM) | (with_reducible apply mem_alloc) | (with_reducible apply mem_set) | (with_reducible apply mem_drew) | (with_reducible apply mem_drewN)))
      · simp
    have hBi : Below w.heap.size w ((Wa.alloc (.cells #[.int .i64 k] 40)).alloc (.cells #[.int .i64 b] 3)) := by (repeat' (first | (with_reducible exact hB) | (with_reducible exact Below.refl _ _) | (with_reducible refine Below.alloc ?_ ?_ _) | (with_reducible refine Below.setCell ?_ ?_ _) | (with_reducible refine Below.drew ?_) | (with_reducible refine below_drewN ?_ _) | (with_reducible exact Nat.le_refl _) | (with_reducible exact hB.size) | (simp [go_sem]; done) | (have := hB.size; simp [go_sem]; omega)))
    have hKi : KeepsFrom W0.heap.size Wa ((Wa.alloc (.cells #[.int .i64 k] 40)).alloc (.cells #[.int .i64 b] 3)) := ((KeepsOthers.alloc _ _).trans (KeepsOthers.alloc _ _)).from _
    have hri : ((Wa.alloc (.cells #[.int .i64 k] 40)).alloc (.cells #[.int .i64 b] 3)).heap[l]? = some (.loop r) := (Below.heap_alloc _ _ l (by simp; omega)).trans ((Below.heap_alloc Wa _ l hlr).trans hr)
    have hsi2 : ((Wa.alloc (.cells #[.int .i64 k] 40)).alloc (.cells #[.int .i64 b] 3)).heap.size = Wa.heap.size + 1 + 1 := by simp
    obtain ⟨W1, hW0⟩ : ∃ W1, ((Wa.alloc (.cells #[.int .i64 k] 40)).alloc (.cells #[.int .i64 b] 3)) = W1 := ⟨_, rfl⟩
    rw [hW0] at hMi hBi hKi hri hsi2 ⊢
    clear hW0 hM hB hC
    have hMi1 := mem_tail' hMi
    have hcx : W1.cell? ⟨Wa.heap.size + 1, 0, none⟩ = some (.int .i64 (b : Int)) := cell_of_row _ _ 0 _ _ _ (hMi.1 _ List.mem_cons_self)
    have hcn : W1.cell? ⟨Wa.heap.size, 0, none⟩ = some (.int .i64 (k : Int)) := cell_of_row _ _ 0 _ _ _ (hMi1.1 _ List.mem_cons_self)
    clear hMi
    refine wpIn_rangeFunc_ownN (l₀ := l) (r₀ := r) rfl hri (by omega) (gf := 53) (lb := #[.pointer (some ⟨Wa.heap.size + 1, 0, none⟩), .pointer (some ⟨Wa.heap.size, 0, none⟩)]) rfl trivial (enters_of Try.func53 (by kernel_rfl) rfl)
      ((lifts_stops Fence.wide 9 trivial rfl (by omega) (Wa.heap.size + 1) (Wa.heap.size) k b hk hb W1 (by omega) (by omega) hcx hcn).inRound l) kc_t (kc_b (by omega)) (Below.refl _ _) (fun _ => rfl)
      (fun pre W => ((NoneQ (fB k c d y1) (pre.map ci) ∧ MB w (fun _ => [(Wa.heap.size, #[.int .i64 k], 40), (B1, #[.int .i64 y1], 3), (w.heap.size + 1 + 1 + 1 + 1, #[.int .i64 k], 40), (w.heap.size + 1 + 1 + 1, #[.bool false], 4), (w.heap.size + 1 + 1, #[.int .i64 0, .int .i64 0, .int .i64 0, .int .i64 0], 24), (w.heap.size + 1, #[.int .i64 a, .int .i64 b, .int .i64 c, .int .i64 d], 24), (w.heap.size, #[.int .i64 k], 40)]) pre W) ∧ KeepsFrom W0.heap.size Wa W))
      (fun c' pre W => ((c' = .ret ∧ Ex4 (fun r => StopQ (fB k c d y1) (pre.map ci) r ∧ MB w (fun _ => [(w.heap.size + 1 + 1 + 1, #[.bool true], 4), (w.heap.size + 1 + 1, #[.int .i64 r.1, .int .i64 r.2.1, .int .i64 r.2.2.1, .int .i64 r.2.2.2], 24), (w.heap.size + 1, #[.int .i64 a, .int .i64 b, .int .i64 c, .int .i64 d], 24), (w.heap.size, #[.int .i64 k], 40)]) pre W)) ∧ KeepsFrom W0.heap.size Wa W))
      (OwnFrom.and (OwnFrom.and (ownFrom_pure _ _) (mb_own (by omega) _)) (ownFrom_keepsFrom (by omega)))
      (by
            rintro c' pre X Y row ⟨⟨rfl, r, h1, h4⟩, h5⟩ hg hr
            exact ⟨⟨rfl, ex4 r ⟨h1, mb_own (by omega) (fun (_ : List Nat) => [(w.heap.size + 1 + 1 + 1, #[.bool true], 4), (w.heap.size + 1 + 1, #[.int .i64 r.1, .int .i64 r.2.1, .int .i64 r.2.2.1, .int .i64 r.2.2.2], 24), (w.heap.size + 1, #[.int .i64 a, .int .i64 b, .int .i64 c, .int .i64 d], 24), (w.heap.size, #[.int .i64 k], 40)]) pre X Y row h4 hg hr⟩⟩, ownFrom_keepsFrom (w₀ := Wa) (by omega) pre X Y row h5 hg hr⟩)
      ⟨⟨rfl, hMi1, hBi⟩, hKi⟩
      (fun q a' W => ∃ B', Wa.heap.size < B' ∧ Mem W [(B', #[.int .i64 (ci q : Nat)], 3)] ∧ a' = { tmps := #[.int .i64 k, .agg #[.int .i64 a, .int .i64 b, .int .i64 c, .int .i64 d], .pointer (some ⟨w.heap.size, 0, none⟩), .pointer (some ⟨w.heap.size + 1, 0, none⟩), .pointer (some ⟨w.heap.size + 1 + 1, 0, none⟩), .pointer (some ⟨w.heap.size + 1 + 1 + 1, 0, none⟩), .pointer (some ⟨B1, 0, none⟩), .pointer (some ⟨B', 0, none⟩), undef, undef, undef, .int .i64 k, .pointer (some ⟨w.heap.size + 1, 0, none⟩), .int .i64 a, .func (.func 53) #[] #[.pointer (some ⟨w.heap.size + 1 + 1 + 1 + 1 + 1, 0, none⟩), .pointer (some ⟨w.heap.size + 1 + 1 + 1 + 1, 0, none⟩)], .int .i64 y1, .int .i64 k, .pointer (some ⟨w.heap.size + 1, 1, none⟩), .int .i64 b, .func (.func 53) #[] #[.pointer (some ⟨Wa.heap.size + 1, 0, none⟩), .pointer (some ⟨Wa.heap.size, 0, none⟩)], .int .i64 (ci q : Nat), undef, undef, undef, undef, undef, undef, undef, undef, undef, undef, undef, undef, undef, undef, undef, undef, undef, undef, undef], defers := [] })
      ?own2 ?assign2 ?body2 ?done2 ?stop2
    case own2 =>
      rintro q a' _ X Y row ⟨B', h1, h2, h3⟩ hg hr
      exact ⟨B', h1, mem_grown h2 hg (fun r e => (hr r e).2), h3⟩
    case assign2 =>
      rintro l pre q W K ⟨⟨hp, hM, hB⟩, hKF⟩ hK
      dsimp only at hM
      have hMW := hM
      simp only [encI]
      have hC := mem_facts hM; simp at hC
      gi_wp2
      have hM2 : Mem (W.alloc (.cells #[.int .i64 (ci q : Nat)] 3)) ((W.heap.size, #[.int .i64 (ci q : Nat)], 3) :: _) := mem_alloc hMW _ _
      have hlo := hB.size
      have hl1 := mem_lt (hMW.1 _ List.mem_cons_self)
      refine hK _ _ ((KeepsOthers.alloc _ _).from _) (kc_mem hMW (mem_tail' hM2) List.mem_cons_self List.mem_cons_self) ⟨⟨hp, mem_tail' hM2, by (repeat' (first | (with_reducible exact hB) | (with_reducible exact Below.refl _ _) | (with_reducible refine Below.alloc ?_ ?_ _) | (with_reducible refine Below.setCell ?_ ?_ _) | (with_reducible refine Below.drew ?_) | (with_reducible refine below_drewN ?_ _) | (with_reducible exact Nat.le_refl _) | (with_reducible exact hB.size) | (simp [go_sem]; done) | (have := hB.size; simp [go_sem]; omega)))⟩, hKF.trans ((KeepsOthers.alloc _ _).from _)⟩ ⟨W.heap.size, ?_, mem_head' hM2, rfl⟩
      exact hl1
    case body2 =>
      rintro l pre2 q0 a' Wb hl ⟨r, hr⟩ ⟨⟨hp2, hM1, hB1⟩, hKF2⟩ ⟨B2, hB2l, hX, rfl⟩ hlt
      dsimp only at hM1
      obtain ⟨y2, hy2⟩ : ∃ y, y = ci q0 := ⟨_, rfl⟩
      have hyl2 : y2 ≤ 30 := by rw [hy2]; exact ci_le q0
      have hmap2 : (pre2 ++ [q0]).map ci = pre2.map ci ++ [y2] := by simp [hy2]
      rw [← hy2] at hX
      rw [← hy2]
      clear hy2
      have hM := mem_cons' hM1 hX (by intro q hq; simp at hq; rcases hq with rfl | rfl | rfl | rfl | rfl | rfl | rfl <;> simp <;> omega)
      have hMk2 := hM1
      have hB := hB1
      have hBk2 := hB1
      clear hM1 hB1 hX
      have hlr := mem_lt hr
      have hso2 := hB.size
      have hbo2 := mem_lt (hM.1 _ List.mem_cons_self)
      have hC := mem_facts hM
      simp at hC
      gi_wp2_with (refine ⟨trivial, ?_⟩; gi_at_call 40; refine (CallsIn.inRound l (callsIn_wide.2 (lifts_ _ _ _))).mono ?_; rintro e w' ⟨rfl, rfl⟩)
      have hMi : Mem ((Wb.alloc (.cells #[.int .i64 k] 40)).alloc (.cells #[.int .i64 c] 3)) [(Wb.heap.size + 1, #[.int .i64 c], 3), (Wb.heap.size, #[.int .i64 k], 40), (B2, #[.int .i64 y2], 3), (Wa.heap.size, #[.int .i64 k], 40), (B1, #[.int .i64 y1], 3), (w.heap.size + 1 + 1 + 1 + 1, #[.int .i64 k], 40), (w.heap.size + 1 + 1 + 1, #[.bool false], 4), (w.heap.size + 1 + 1, #[.int .i64 0, .int .i64 0, .int .i64 0, .int .i64 0], 24), (w.heap.size + 1, #[.int .i64 a, .int .i64 b, .int .i64 c, .int .i64 d], 24), (w.heap.size, #[.int .i64 k], 40)] := by
        apply mem_drop 0
        · (repeat' (first | (with_reducible exact hM) | (with_reducible apply mem_alloc) | (with_reducible apply mem_set) | (with_reducible apply mem_drew) | (with_reducible apply mem_drewN)))
        · simp
      have hBi : Below w.heap.size w ((Wb.alloc (.cells #[.int .i64 k] 40)).alloc (.cells #[.int .i64 c] 3)) := by (repeat' (first | (with_reducible exact hB) | (with_reducible exact Below.refl _ _) | (with_reducible refine Below.alloc ?_ ?_ _) | (with_reducible refine Below.setCell ?_ ?_ _) | (with_reducible refine Below.drew ?_) | (with_reducible refine below_drewN ?_ _) | (with_reducible exact Nat.le_refl _) | (with_reducible exact hB.size) | (simp [go_sem]; done) | (have := hB.size; simp [go_sem]; omega)))
      have hKi : KeepsFrom W0.heap.size Wb ((Wb.alloc (.cells #[.int .i64 k] 40)).alloc (.cells #[.int .i64 c] 3)) := ((KeepsOthers.alloc _ _).trans (KeepsOthers.alloc _ _)).from _
      have hri : ((Wb.alloc (.cells #[.int .i64 k] 40)).alloc (.cells #[.int .i64 c] 3)).heap[l]? = some (.loop r) := (Below.heap_alloc _ _ l (by simp; omega)).trans ((Below.heap_alloc Wb _ l hlr).trans hr)
      have hsi3 : ((Wb.alloc (.cells #[.int .i64 k] 40)).alloc (.cells #[.int .i64 c] 3)).heap.size = Wb.heap.size + 1 + 1 := by simp
      obtain ⟨W2, hW0⟩ : ∃ W1, ((Wb.alloc (.cells #[.int .i64 k] 40)).alloc (.cells #[.int .i64 c] 3)) = W1 := ⟨_, rfl⟩
      rw [hW0] at hMi hBi hKi hri hsi3 ⊢
      clear hW0 hM hB hC
      have hMi1 := mem_tail' hMi
      have hcx : W2.cell? ⟨Wb.heap.size + 1, 0, none⟩ = some (.int .i64 (c : Int)) := cell_of_row _ _ 0 _ _ _ (hMi.1 _ List.mem_cons_self)
      have hcn : W2.cell? ⟨Wb.heap.size, 0, none⟩ = some (.int .i64 (k : Int)) := cell_of_row _ _ 0 _ _ _ (hMi1.1 _ List.mem_cons_self)
      clear hMi
      refine wpIn_rangeFunc_ownN (l₀ := l) (r₀ := r) rfl hri (by omega) (gf := 53) (lb := #[.pointer (some ⟨Wb.heap.size + 1, 0, none⟩), .pointer (some ⟨Wb.heap.size, 0, none⟩)]) rfl trivial (enters_of Try.func53 (by kernel_rfl) rfl)
        ((lifts_stops Fence.wide 7 trivial rfl (by omega) (Wb.heap.size + 1) (Wb.heap.size) k c hk hc W2 (by omega) (by omega) hcx hcn).inRound l) kc_t (kc_b (by omega)) (Below.refl _ _) (fun _ => rfl)
        (fun pre W => ((NoneQ (fC k d y1 y2) (pre.map ci) ∧ MB w (fun _ => [(Wb.heap.size, #[.int .i64 k], 40), (B2, #[.int .i64 y2], 3), (Wa.heap.size, #[.int .i64 k], 40), (B1, #[.int .i64 y1], 3), (w.heap.size + 1 + 1 + 1 + 1, #[.int .i64 k], 40), (w.heap.size + 1 + 1 + 1, #[.bool false], 4), (w.heap.size + 1 + 1, #[.int .i64 0, .int .i64 0, .int .i64 0, .int .i64 0], 24), (w.heap.size + 1, #[.int .i64 a, .int .i64 b, .int .i64 c, .int .i64 d], 24), (w.heap.size, #[.int .i64 k], 40)]) pre W) ∧ KeepsFrom W0.heap.size Wb W))
        (fun c' pre W => ((c' = .ret ∧ Ex4 (fun r => StopQ (fC k d y1 y2) (pre.map ci) r ∧ MB w (fun _ => [(w.heap.size + 1 + 1 + 1, #[.bool true], 4), (w.heap.size + 1 + 1, #[.int .i64 r.1, .int .i64 r.2.1, .int .i64 r.2.2.1, .int .i64 r.2.2.2], 24), (w.heap.size + 1, #[.int .i64 a, .int .i64 b, .int .i64 c, .int .i64 d], 24), (w.heap.size, #[.int .i64 k], 40)]) pre W)) ∧ KeepsFrom W0.heap.size Wb W))
        (OwnFrom.and (OwnFrom.and (ownFrom_pure _ _) (mb_own (by omega) _)) (ownFrom_keepsFrom (by omega)))
        (by
              rintro c' pre X Y row ⟨⟨rfl, r, h1, h4⟩, h5⟩ hg hr
              exact ⟨⟨rfl, ex4 r ⟨h1, mb_own (by omega) (fun (_ : List Nat) => [(w.heap.size + 1 + 1 + 1, #[.bool true], 4), (w.heap.size + 1 + 1, #[.int .i64 r.1, .int .i64 r.2.1, .int .i64 r.2.2.1, .int .i64 r.2.2.2], 24), (w.heap.size + 1, #[.int .i64 a, .int .i64 b, .int .i64 c, .int .i64 d], 24), (w.heap.size, #[.int .i64 k], 40)]) pre X Y row h4 hg hr⟩⟩, ownFrom_keepsFrom (w₀ := Wb) (by omega) pre X Y row h5 hg hr⟩)
        ⟨⟨rfl, hMi1, hBi⟩, hKi⟩
        (fun q a' W => ∃ B', Wb.heap.size < B' ∧ Mem W [(B', #[.int .i64 (ci q : Nat)], 3)] ∧ a' = { tmps := #[.int .i64 k, .agg #[.int .i64 a, .int .i64 b, .int .i64 c, .int .i64 d], .pointer (some ⟨w.heap.size, 0, none⟩), .pointer (some ⟨w.heap.size + 1, 0, none⟩), .pointer (some ⟨w.heap.size + 1 + 1, 0, none⟩), .pointer (some ⟨w.heap.size + 1 + 1 + 1, 0, none⟩), .pointer (some ⟨B1, 0, none⟩), .pointer (some ⟨B2, 0, none⟩), .pointer (some ⟨B', 0, none⟩), undef, undef, .int .i64 k, .pointer (some ⟨w.heap.size + 1, 0, none⟩), .int .i64 a, .func (.func 53) #[] #[.pointer (some ⟨w.heap.size + 1 + 1 + 1 + 1 + 1, 0, none⟩), .pointer (some ⟨w.heap.size + 1 + 1 + 1 + 1, 0, none⟩)], .int .i64 y1, .int .i64 k, .pointer (some ⟨w.heap.size + 1, 1, none⟩), .int .i64 b, .func (.func 53) #[] #[.pointer (some ⟨Wa.heap.size + 1, 0, none⟩), .pointer (some ⟨Wa.heap.size, 0, none⟩)], .int .i64 y2, .int .i64 k, .pointer (some ⟨w.heap.size + 1, 2, none⟩), .int .i64 c, .func (.func 53) #[] #[.pointer (some ⟨Wb.heap.size + 1, 0, none⟩), .pointer (some ⟨Wb.heap.size, 0, none⟩)], .int .i64 (ci q : Nat), undef, undef, undef, undef, undef, undef, undef, undef, undef, undef, undef, undef, undef, undef], defers := [] })
        ?own3 ?assign3 ?body3 ?done3 ?stop3
      case own3 =>
        rintro q a' _ X Y row ⟨B', h1, h2, h3⟩ hg hr
        exact ⟨B', h1, mem_grown h2 hg (fun r e => (hr r e).2), h3⟩
      case assign3 =>
        rintro l pre q W K ⟨⟨hp, hM, hB⟩, hKF⟩ hK
        dsimp only at hM
        have hMW := hM
        simp only [encI]
        have hC := mem_facts hM; simp at hC
        gi_wp2
        have hM2 : Mem (W.alloc (.cells #[.int .i64 (ci q : Nat)] 3)) ((W.heap.size, #[.int .i64 (ci q : Nat)], 3) :: _) := mem_alloc hMW _ _
        have hlo := hB.size
        have hl1 := mem_lt (hMW.1 _ List.mem_cons_self)
        refine hK _ _ ((KeepsOthers.alloc _ _).from _) (kc_mem hMW (mem_tail' hM2) List.mem_cons_self List.mem_cons_self) ⟨⟨hp, mem_tail' hM2, by (repeat' (first | (with_reducible exact hB) | (with_reducible exact Below.refl _ _) | (with_reducible refine Below.alloc ?_ ?_ _) | (with_reducible refine Below.setCell ?_ ?_ _) | (with_reducible refine Below.drew ?_) | (with_reducible refine below_drewN ?_ _) | (with_reducible exact Nat.le_refl _) | (with_reducible exact hB.size) | (simp [go_sem]; done) | (have := hB.size; simp [go_sem]; omega)))⟩, hKF.trans ((KeepsOthers.alloc _ _).from _)⟩ ⟨W.heap.size, ?_, mem_head' hM2, rfl⟩
        exact hl1
      case body3 =>
        rintro l pre3 q0 a' Wc hl ⟨r, hr⟩ ⟨⟨hp3, hM1, hB1⟩, hKF3⟩ ⟨B3, hB3l, hX, rfl⟩ hlt
        dsimp only at hM1
        obtain ⟨y3, hy3⟩ : ∃ y, y = ci q0 := ⟨_, rfl⟩
        have hyl3 : y3 ≤ 30 := by rw [hy3]; exact ci_le q0
        have hmap3 : (pre3 ++ [q0]).map ci = pre3.map ci ++ [y3] := by simp [hy3]
        rw [← hy3] at hX
        rw [← hy3]
        clear hy3
        have hM := mem_cons' hM1 hX (by intro q hq; simp at hq; rcases hq with rfl | rfl | rfl | rfl | rfl | rfl | rfl | rfl | rfl <;> simp <;> omega)
        have hMk3 := hM1
        have hB := hB1
        have hBk3 := hB1
        clear hM1 hB1 hX
        have hlr := mem_lt hr
        have hso3 := hB.size
        have hbo3 := mem_lt (hM.1 _ List.mem_cons_self)
        have hC := mem_facts hM
        simp at hC
        gi_wp2_with (refine ⟨trivial, ?_⟩; gi_at_call 40; refine (CallsIn.inRound l (callsIn_wide.2 (lifts_ _ _ _))).mono ?_; rintro e w' ⟨rfl, rfl⟩)
        have hMi : Mem ((Wc.alloc (.cells #[.int .i64 k] 40)).alloc (.cells #[.int .i64 d] 3)) [(Wc.heap.size + 1, #[.int .i64 d], 3), (Wc.heap.size, #[.int .i64 k], 40), (B3, #[.int .i64 y3], 3), (Wb.heap.size, #[.int .i64 k], 40), (B2, #[.int .i64 y2], 3), (Wa.heap.size, #[.int .i64 k], 40), (B1, #[.int .i64 y1], 3), (w.heap.size + 1 + 1 + 1 + 1, #[.int .i64 k], 40), (w.heap.size + 1 + 1 + 1, #[.bool false], 4), (w.heap.size + 1 + 1, #[.int .i64 0, .int .i64 0, .int .i64 0, .int .i64 0], 24), (w.heap.size + 1, #[.int .i64 a, .int .i64 b, .int .i64 c, .int .i64 d], 24), (w.heap.size, #[.int .i64 k], 40)] := by
          apply mem_drop 0
          · (repeat' (first | (with_reducible exact hM) | (with_reducible apply mem_alloc) | (with_reducible apply mem_set) | (with_reducible apply mem_drew) | (with_reducible apply mem_drewN)))
          · simp
        have hBi : Below w.heap.size w ((Wc.alloc (.cells #[.int .i64 k] 40)).alloc (.cells #[.int .i64 d] 3)) := by (repeat' (first | (with_reducible exact hB) | (with_reducible exact Below.refl _ _) | (with_reducible refine Below.alloc ?_ ?_ _) | (with_reducible refine Below.setCell ?_ ?_ _) | (with_reducible refine Below.drew ?_) | (with_reducible refine below_drewN ?_ _) | (with_reducible exact Nat.le_refl _) | (with_reducible exact hB.size) | (simp [go_sem]; done) | (have := hB.size; simp [go_sem]; omega)))
        have hKi : KeepsFrom W0.heap.size Wc ((Wc.alloc (.cells #[.int .i64 k] 40)).alloc (.cells #[.int .i64 d] 3)) := ((KeepsOthers.alloc _ _).trans (KeepsOthers.alloc _ _)).from _
        have hri : ((Wc.alloc (.cells #[.int .i64 k] 40)).alloc (.cells #[.int .i64 d] 3)).heap[l]? = some (.loop r) := (Below.heap_alloc _ _ l (by simp; omega)).trans ((Below.heap_alloc Wc _ l hlr).trans hr)
        have hsi4 : ((Wc.alloc (.cells #[.int .i64 k] 40)).alloc (.cells #[.int .i64 d] 3)).heap.size = Wc.heap.size + 1 + 1 := by simp
        obtain ⟨W3, hW0⟩ : ∃ W1, ((Wc.alloc (.cells #[.int .i64 k] 40)).alloc (.cells #[.int .i64 d] 3)) = W1 := ⟨_, rfl⟩
        rw [hW0] at hMi hBi hKi hri hsi4 ⊢
        clear hW0 hM hB hC
        have hMi1 := mem_tail' hMi
        have hcx : W3.cell? ⟨Wc.heap.size + 1, 0, none⟩ = some (.int .i64 (d : Int)) := cell_of_row _ _ 0 _ _ _ (hMi.1 _ List.mem_cons_self)
        have hcn : W3.cell? ⟨Wc.heap.size, 0, none⟩ = some (.int .i64 (k : Int)) := cell_of_row _ _ 0 _ _ _ (hMi1.1 _ List.mem_cons_self)
        clear hMi
        refine wpIn_rangeFunc_ownN (l₀ := l) (r₀ := r) rfl hri (by omega) (gf := 53) (lb := #[.pointer (some ⟨Wc.heap.size + 1, 0, none⟩), .pointer (some ⟨Wc.heap.size, 0, none⟩)]) rfl trivial (enters_of Try.func53 (by kernel_rfl) rfl)
          ((lifts_stops Fence.wide 5 trivial rfl (by omega) (Wc.heap.size + 1) (Wc.heap.size) k d hk hd W3 (by omega) (by omega) hcx hcn).inRound l) kc_t (kc_b (by omega)) (Below.refl _ _) (fun _ => rfl)
          (fun pre W => ((NoneQ (fD y1 y2 y3) (pre.map ci) ∧ MB w (fun _ => [(Wc.heap.size, #[.int .i64 k], 40), (B3, #[.int .i64 y3], 3), (Wb.heap.size, #[.int .i64 k], 40), (B2, #[.int .i64 y2], 3), (Wa.heap.size, #[.int .i64 k], 40), (B1, #[.int .i64 y1], 3), (w.heap.size + 1 + 1 + 1 + 1, #[.int .i64 k], 40), (w.heap.size + 1 + 1 + 1, #[.bool false], 4), (w.heap.size + 1 + 1, #[.int .i64 0, .int .i64 0, .int .i64 0, .int .i64 0], 24), (w.heap.size + 1, #[.int .i64 a, .int .i64 b, .int .i64 c, .int .i64 d], 24), (w.heap.size, #[.int .i64 k], 40)]) pre W) ∧ KeepsFrom W0.heap.size Wc W))
          (fun c' pre W => ((c' = .ret ∧ Ex4 (fun r => StopQ (fD y1 y2 y3) (pre.map ci) r ∧ MB w (fun _ => [(w.heap.size + 1 + 1 + 1, #[.bool true], 4), (w.heap.size + 1 + 1, #[.int .i64 r.1, .int .i64 r.2.1, .int .i64 r.2.2.1, .int .i64 r.2.2.2], 24), (w.heap.size + 1, #[.int .i64 a, .int .i64 b, .int .i64 c, .int .i64 d], 24), (w.heap.size, #[.int .i64 k], 40)]) pre W)) ∧ KeepsFrom W0.heap.size Wc W))
          (OwnFrom.and (OwnFrom.and (ownFrom_pure _ _) (mb_own (by omega) _)) (ownFrom_keepsFrom (by omega)))
          (by
                rintro c' pre X Y row ⟨⟨rfl, r, h1, h4⟩, h5⟩ hg hr
                exact ⟨⟨rfl, ex4 r ⟨h1, mb_own (by omega) (fun (_ : List Nat) => [(w.heap.size + 1 + 1 + 1, #[.bool true], 4), (w.heap.size + 1 + 1, #[.int .i64 r.1, .int .i64 r.2.1, .int .i64 r.2.2.1, .int .i64 r.2.2.2], 24), (w.heap.size + 1, #[.int .i64 a, .int .i64 b, .int .i64 c, .int .i64 d], 24), (w.heap.size, #[.int .i64 k], 40)]) pre X Y row h4 hg hr⟩⟩, ownFrom_keepsFrom (w₀ := Wc) (by omega) pre X Y row h5 hg hr⟩)
          ⟨⟨rfl, hMi1, hBi⟩, hKi⟩
          (fun q a' _ => a' = { tmps := #[.int .i64 k, .agg #[.int .i64 a, .int .i64 b, .int .i64 c, .int .i64 d], .pointer (some ⟨w.heap.size, 0, none⟩), .pointer (some ⟨w.heap.size + 1, 0, none⟩), .pointer (some ⟨w.heap.size + 1 + 1, 0, none⟩), .pointer (some ⟨w.heap.size + 1 + 1 + 1, 0, none⟩), .pointer (some ⟨B1, 0, none⟩), .pointer (some ⟨B2, 0, none⟩), .pointer (some ⟨B3, 0, none⟩), .int .i64 (ci q : Nat), undef, .int .i64 k, .pointer (some ⟨w.heap.size + 1, 0, none⟩), .int .i64 a, .func (.func 53) #[] #[.pointer (some ⟨w.heap.size + 1 + 1 + 1 + 1 + 1, 0, none⟩), .pointer (some ⟨w.heap.size + 1 + 1 + 1 + 1, 0, none⟩)], .int .i64 y1, .int .i64 k, .pointer (some ⟨w.heap.size + 1, 1, none⟩), .int .i64 b, .func (.func 53) #[] #[.pointer (some ⟨Wa.heap.size + 1, 0, none⟩), .pointer (some ⟨Wa.heap.size, 0, none⟩)], .int .i64 y2, .int .i64 k, .pointer (some ⟨w.heap.size + 1, 2, none⟩), .int .i64 c, .func (.func 53) #[] #[.pointer (some ⟨Wb.heap.size + 1, 0, none⟩), .pointer (some ⟨Wb.heap.size, 0, none⟩)], .int .i64 y3, .int .i64 k, .pointer (some ⟨w.heap.size + 1, 3, none⟩), .int .i64 d, .func (.func 53) #[] #[.pointer (some ⟨Wc.heap.size + 1, 0, none⟩), .pointer (some ⟨Wc.heap.size, 0, none⟩)], .int .i64 (ci q : Nat), undef, undef, undef, undef, undef, undef, undef, undef, undef], defers := [] })
          ?own4 ?assign4 ?body4 ?done4 ?stop4
        case own4 => exact fun _ _ _ _ _ _ hs _ _ => hs
        case assign4 =>
          rintro l pre q W K hi hK
          simp only [encI]
          gi_wp2
          exact hK _ _ (KeepsFrom.refl _ _) (fun _ h => h) hi rfl
        case body4 =>
          rintro l pre4 q0 a' W hl _ ⟨⟨hp4, hM1, hB1⟩, hKF4⟩ rfl hlt
          dsimp only at hM1
          obtain ⟨y4, hy4⟩ : ∃ y, y = ci q0 := ⟨_, rfl⟩
          have hyl4 : y4 ≤ 30 := by rw [hy4]; exact ci_le q0
          have hmap4 : (pre4 ++ [q0]).map ci = pre4.map ci ++ [y4] := by simp [hy4]
          rw [← hy4]
          clear hy4
          have hM := hM1
          have hB := hB1
          have hM0' := hM1
          clear hM1 hB1
          have hC := mem_facts hM
          simp at hC
          have hK := KeepsOthers.refl W
          have cE := fun W => even_ y1 y2 y3 y4 W
          rcases evB_fD hyl1 hyl2 hyl3 hyl4 with ⟨h1, h2⟩ | ⟨h1, h2⟩
          · rw [h1] at cE
            gi_wp2_with (refine ⟨trivial, ?_⟩; gi_at_call 25; refine (CallsIn.inRound l (callsIn_wide.2 (cE _))).mono ?_; rintro e w' ⟨rfl, hb⟩; replace hK := keeps_call (A := W) (hK := (by repeat' (first | (with_reducible exact hK) | (with_reducible exact KeepsOthers.refl _) | (with_reducible apply keeps_alloc) | (with_reducible apply keeps_set) | (with_reducible apply keeps_drew) | (with_reducible apply keeps_drewN)))) hb; apply after_call (w := w) hb; (focus ((repeat' (first | (with_reducible exact hM) | (with_reducible apply mem_alloc) | (with_reducible apply mem_set) | (with_reducible apply mem_drew) | (with_reducible apply mem_drewN))); done)); (focus ((repeat' (first | (with_reducible exact hB) | (with_reducible exact Below.refl _ _) | (with_reducible refine Below.alloc ?_ ?_ _) | (with_reducible refine Below.setCell ?_ ?_ _) | (with_reducible refine Below.drew ?_) | (with_reducible refine below_drewN ?_ _) | (with_reducible exact Nat.le_refl _) | (with_reducible exact hB.size) | (simp [go_sem]; done) | (have := hB.size; simp [go_sem]; omega))); done)); (focus ((repeat' (first | (with_reducible exact hB) | (with_reducible exact Below.refl _ _) | (with_reducible refine Below.alloc ?_ ?_ _) | (with_reducible refine Below.setCell ?_ ?_ _) | (with_reducible refine Below.drew ?_) | (with_reducible refine below_drewN ?_ _) | (with_reducible exact Nat.le_refl _) | (with_reducible exact hB.size) | (simp [go_sem]; done) | (have := hB.size; simp [go_sem]; omega))); done)); clear hM hB hb; intro hM hB; (try clear hC); have hC := mem_facts hM; simp at hC)
            refine ⟨kf ((by repeat' (first | (with_reducible exact hK) | (with_reducible exact KeepsOthers.refl _) | (with_reducible apply keeps_alloc) | (with_reducible apply keeps_set) | (with_reducible apply keeps_drew) | (with_reducible apply keeps_drewN)))), ⟨rfl, ex4 (y1, y2, y3, y4) ⟨⟨pre4.map ci, y4, hmap4, hp4, h2⟩, ?_, by (repeat' (first | (with_reducible exact hB) | (with_reducible exact Below.refl _ _) | (with_reducible refine Below.alloc ?_ ?_ _) | (with_reducible refine Below.setCell ?_ ?_ _) | (with_reducible refine Below.drew ?_) | (with_reducible refine below_drewN ?_ _) | (with_reducible exact Nat.le_refl _) | (with_reducible exact hB.size) | (simp [go_sem]; done) | (have := hB.size; simp [go_sem]; omega)))⟩⟩, hKF4.trans (kf ((by repeat' (first | (with_reducible exact hK) | (with_reducible exact KeepsOthers.refl _) | (with_reducible apply keeps_alloc) | (with_reducible apply keeps_set) | (with_reducible apply keeps_drew) | (with_reducible apply keeps_drewN)))))⟩
            apply mem_drop 8
            · (repeat' (first | (with_reducible exact hM) | (with_reducible apply mem_alloc) | (with_reducible apply mem_set) | (with_reducible apply mem_drew) | (with_reducible apply mem_drewN)))
            · simp [hC]
          · rw [h1] at cE
            gi_wp2_with (refine ⟨trivial, ?_⟩; gi_at_call 25; refine (CallsIn.inRound l (callsIn_wide.2 (cE _))).mono ?_; rintro e w' ⟨rfl, hb⟩; replace hK := keeps_call (A := W) (hK := (by repeat' (first | (with_reducible exact hK) | (with_reducible exact KeepsOthers.refl _) | (with_reducible apply keeps_alloc) | (with_reducible apply keeps_set) | (with_reducible apply keeps_drew) | (with_reducible apply keeps_drewN)))) hb; apply after_call (w := w) hb; (focus ((repeat' (first | (with_reducible exact hM) | (with_reducible apply mem_alloc) | (with_reducible apply mem_set) | (with_reducible apply mem_drew) | (with_reducible apply mem_drewN))); done)); (focus ((repeat' (first | (with_reducible exact hB) | (with_reducible exact Below.refl _ _) | (with_reducible refine Below.alloc ?_ ?_ _) | (with_reducible refine Below.setCell ?_ ?_ _) | (with_reducible refine Below.drew ?_) | (with_reducible refine below_drewN ?_ _) | (with_reducible exact Nat.le_refl _) | (with_reducible exact hB.size) | (simp [go_sem]; done) | (have := hB.size; simp [go_sem]; omega))); done)); (focus ((repeat' (first | (with_reducible exact hB) | (with_reducible exact Below.refl _ _) | (with_reducible refine Below.alloc ?_ ?_ _) | (with_reducible refine Below.setCell ?_ ?_ _) | (with_reducible refine Below.drew ?_) | (with_reducible refine below_drewN ?_ _) | (with_reducible exact Nat.le_refl _) | (with_reducible exact hB.size) | (simp [go_sem]; done) | (have := hB.size; simp [go_sem]; omega))); done)); clear hM hB hb; intro hM hB; (try clear hC); have hC := mem_facts hM; simp at hC)
            exact ⟨kf ((by repeat' (first | (with_reducible exact hK) | (with_reducible exact KeepsOthers.refl _) | (with_reducible apply keeps_alloc) | (with_reducible apply keeps_set) | (with_reducible apply keeps_drew) | (with_reducible apply keeps_drewN)))), kc_mem hM0' hM List.mem_cons_self (List.mem_cons_of_mem _ List.mem_cons_self), ⟨by rw [hmap4]; exact none_snoc hp4 h2, mem_tail' hM, by (repeat' (first | (with_reducible exact hB) | (with_reducible exact Below.refl _ _) | (with_reducible refine Below.alloc ?_ ?_ _) | (with_reducible refine Below.setCell ?_ ?_ _) | (with_reducible refine Below.drew ?_) | (with_reducible refine below_drewN ?_ _) | (with_reducible exact Nat.le_refl _) | (with_reducible exact hB.size) | (simp [go_sem]; done) | (have := hB.size; simp [go_sem]; omega)))⟩, hKF4.trans (kf ((by repeat' (first | (with_reducible exact hK) | (with_reducible exact KeepsOthers.refl _) | (with_reducible apply keeps_alloc) | (with_reducible apply keeps_set) | (with_reducible apply keeps_drew) | (with_reducible apply keeps_drewN)))))⟩
        case done4 =>
          rintro ys W rfl ⟨⟨hp', hM, hB⟩, hKF⟩
          dsimp only at hM
          rw [ci_lfs] at hp'
          have hF : fC k d y1 y2 y3 = none := hp'
          clear hp'
          have hKF' := hKF
          have hKG := kf_mono (B' := W2.heap.size) hKF (by omega)
          gi_wp2
          exact ⟨by first | exact hKG | (rw [hsi3] at hKG; exact hKG), kc_mem hMk3 hM List.mem_cons_self (List.mem_cons_of_mem _ (List.mem_cons_of_mem _ List.mem_cons_self)), ⟨⟨by rw [hmap3]; exact none_snoc hp3 hF, mem_drop 2 hM rfl, hB⟩, by have hKT := hKF3.trans hKF'; first | exact hKT | (rw [hsi] at hKT; exact hKT)⟩⟩
        case stop4 =>
          rintro c' pre' W hpre ⟨⟨rfl, r, hq, hM, hB⟩, hKF⟩
          have hF : fC k d y1 y2 y3 = some r := stop_some hq (by rw [← ci_lfs k d]; exact hpre.map ci)
          have hKF' := hKF
          have hKG := kf_mono (B' := W2.heap.size) hKF (by omega)
          gi_wp2
          exact ⟨by first | exact hKG | (rw [hsi3] at hKG; exact hKG), ⟨⟨rfl, ex4 r ⟨⟨pre3.map ci, y3, hmap3, hp3, hF⟩, hM, hB⟩⟩, by have hKT := hKF3.trans hKF'; first | exact hKT | (rw [hsi] at hKT; exact hKT)⟩⟩
      case done3 =>
        rintro ys W rfl ⟨⟨hp', hM, hB⟩, hKF⟩
        dsimp only at hM
        rw [ci_lfs] at hp'
        have hF : fB k c d y1 y2 = none := hp'
        clear hp'
        have hKF' := hKF
        have hKG := kf_mono (B' := W1.heap.size) hKF (by omega)
        gi_wp2
        exact ⟨by first | exact hKG | (rw [hsi2] at hKG; exact hKG), kc_mem hMk2 hM List.mem_cons_self (List.mem_cons_of_mem _ (List.mem_cons_of_mem _ List.mem_cons_self)), ⟨⟨by rw [hmap2]; exact none_snoc hp2 hF, mem_drop 2 hM rfl, hB⟩, by have hKT := hKF2.trans hKF'; first | exact hKT | (rw [hsi] at hKT; exact hKT)⟩⟩
      case stop3 =>
        rintro c' pre' W hpre ⟨⟨rfl, r, hq, hM, hB⟩, hKF⟩
        have hF : fB k c d y1 y2 = some r := stop_some hq (by rw [← ci_lfs k c]; exact hpre.map ci)
        have hKF' := hKF
        have hKG := kf_mono (B' := W1.heap.size) hKF (by omega)
        gi_wp2
        exact ⟨by first | exact hKG | (rw [hsi2] at hKG; exact hKG), ⟨⟨rfl, ex4 r ⟨⟨pre2.map ci, y2, hmap2, hp2, hF⟩, hM, hB⟩⟩, by have hKT := hKF2.trans hKF'; first | exact hKT | (rw [hsi] at hKT; exact hKT)⟩⟩
    case done2 =>
      rintro ys W rfl ⟨⟨hp', hM, hB⟩, hKF⟩
      dsimp only at hM
      rw [ci_lfs] at hp'
      have hF : fA k b c d y1 = none := hp'
      clear hp'
      have hKF' := hKF
      have hKG := kf_mono (B' := W0.heap.size) hKF (by omega)
      gi_wp2
      exact ⟨by first | exact hKG | (rw [hsi] at hKG; exact hKG), kc_mem hMk1 hM List.mem_cons_self (List.mem_cons_of_mem _ (List.mem_cons_of_mem _ List.mem_cons_self)), ⟨by rw [hmap1]; exact none_snoc hp hF, mem_drop 2 hM rfl, hB⟩⟩
    case stop2 =>
      rintro c' pre' W hpre ⟨⟨rfl, r, hq, hM, hB⟩, hKF⟩
      have hF : fA k b c d y1 = some r := stop_some hq (by rw [← ci_lfs k b]; exact hpre.map ci)
      have hKF' := hKF
      have hKG := kf_mono (B' := W0.heap.size) hKF (by omega)
      gi_wp2
      exact ⟨by first | exact hKG | (rw [hsi] at hKG; exact hKG), ⟨rfl, ex4 r ⟨⟨pre.map ci, y1, hmap1, hp, hF⟩, hM, hB⟩⟩⟩
  case done1 =>
    rintro D ys W hD rfl ⟨hp, hM, hB⟩ hd
    dsimp only at hM
    rw [ci_lfs] at hp
    unfold NoneQ at hp
    have HP := Lib.hid (show lifP k a b c d = none from hp)
    clear hp
    have hC := mem_facts hM
    simp at hC
    have hK := KeepsOthers.refl W
    gi_wp2
    refine fin_marks (w := w) hd hD (by omega) (by repeat' (first | (with_reducible exact hK) | (with_reducible exact KeepsOthers.refl _) | (with_reducible apply keeps_alloc) | (with_reducible apply keeps_set) | (with_reducible apply keeps_drew) | (with_reducible apply keeps_drewN))) (L := [(w.heap.size + 1 + 1 + 1, #[.bool false], 4), (w.heap.size + 1 + 1, #[.int .i64 0, .int .i64 0, .int .i64 0, .int .i64 0], 24), (w.heap.size + 1, #[.int .i64 a, .int .i64 b, .int .i64 c, .int .i64 d], 24), (w.heap.size, #[.int .i64 k], 40)]) ?_ (by (repeat' (first | (with_reducible exact hB) | (with_reducible exact Below.refl _ _) | (with_reducible refine Below.alloc ?_ ?_ _) | (with_reducible refine Below.setCell ?_ ?_ _) | (with_reducible refine Below.drew ?_) | (with_reducible refine below_drewN ?_ _) | (with_reducible exact Nat.le_refl _) | (with_reducible exact hB.size) | (simp [go_sem]; done) | (have := hB.size; simp [go_sem]; omega)))) ?_
    · apply mem_drop 1
      · (repeat' (first | (with_reducible exact hM) | (with_reducible apply mem_alloc) | (with_reducible apply mem_set) | (with_reducible apply mem_drew) | (with_reducible apply mem_drewN)))
      · simp [hC]
    · intro W' hM' hB'
      have hC' := mem_facts hM'
      simp at hC'
      refine ⟨.tuple #[.agg #[.int .i64 0, .int .i64 0, .int .i64 0, .int .i64 0], .bool false], by simp [results, Try.f19, go_sem, hC'], ?_, hB'⟩
      rw [HP.out]
      rfl
  case stop1 =>
    rintro D c' pre' W hD hpre ⟨rfl, r, hq, hM, hB⟩ hd
    have HP := Lib.hid (show lifP k a b c d = some r from stop_some hq (by rw [← ci_lfs k a]; exact hpre.map ci))
    gi_wp2
    refine fin_marks (w := w) hd hD (by omega) (KeepsOthers.refl W) hM hB ?_
    intro W' hM' hB'
    have hC' := mem_facts hM'
    simp at hC'
    refine ⟨.tuple #[.agg #[.int .i64 r.1, .int .i64 r.2.1, .int .i64 r.2.2.1, .int .i64 r.2.2.2], .bool true], by simp [results, Try.f19, go_sem, hC'], ?_, hB'⟩
    rw [HP.out]
    rfl
end Go.Proofs.Ytkallllpjkkhhaa

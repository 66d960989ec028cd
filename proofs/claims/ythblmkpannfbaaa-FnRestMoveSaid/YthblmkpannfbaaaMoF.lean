
/- The first pair that is one point with a pair: plain; the program's, walked. No condition. -/
import Derived.Test.YthblmkpannfbaaaMoI
namespace Go.Proofs.Ythblmkpannfbaaa
open Go.RowKit Go.Shelf
attribute [local go_sem] Oper.semAt_some

def oneP (k x y : Nat) (q : Nat × Nat) : Bool := saB k x y q.1 q.2 && ptB k q.1 q.2
def fstP (k x y : Nat) : Nat × Nat := ((prs k).find? (oneP k x y)).getD (x, y)
theorem kf {B : Nat} {W W' : World} (h : KeepsOthers W W') : KeepsFrom B W W' := h.from B
theorem mem_cons' {w : World} {L : List (Nat × Array Value × TypeId)} {b : Nat} {cs : Array Value} {t : TypeId} (h : Mem w L) (k : Mem w [(b, cs, t)]) (hb : ∀ q ∈ L, q.1 < b) : Mem w ((b, cs, t) :: L) :=
  ⟨fun p hp => by
    rcases List.mem_cons.1 hp with rfl | hp
    · exact k.1 _ List.mem_cons_self
    · exact h.1 p hp, List.pairwise_cons.2 ⟨fun q hq => hb q hq, h.2⟩⟩
theorem mem_tail' {w : World} {L : List (Nat × Array Value × TypeId)} {p : Nat × Array Value × TypeId} (h : Mem w (p :: L)) : Mem w L := ⟨fun q hq => h.1 q (List.mem_cons_of_mem _ hq), (List.pairwise_cons.1 h.2).2⟩
theorem mem_head' {w : World} {L : List (Nat × Array Value × TypeId)} {p : Nat × Array Value × TypeId} (h : Mem w (p :: L)) : Mem w [p] := ⟨fun q hq => by
  obtain rfl := List.mem_singleton.1 hq
  exact h.1 _ List.mem_cons_self, List.pairwise_singleton _ _⟩

set_option maxRecDepth 100000 in
set_option maxHeartbeats 4000000 in
theorem first_ (k x y : Nat) (hk : 2 ≤ k ∧ k ≤ 12) (hx : x ≤ 12) (hy : y ≤ 12) (w : World) : Calls Try.prog 42 #[.int .i64 k, .agg #[.int .i64 x, .int .i64 y]] w (fun E' W' => E' = .returned (.agg #[.int .i64 (fstP k x y).1, .int .i64 (fstP k x y).2]) ∧ Below w.heap.size w W') := by
  refine (callsIn_wide (n := 6)).1 ?_
  refine callsIn_of_wp_marks Try.func42 rfl trivial ?_ rfl
  simp only [Try.ntmps42, List.size_toArray, List.length_cons, List.length_nil, Nat.reduceAdd, Nat.reduceSub, Array.replicate_succ, Array.replicate_zero, List.push_toArray, List.append_toArray, List.nil_append, List.cons_append]
  have hM := mem_nil w; have hB := Below.refl w.heap.size w; have hC := True.intro
  gi_wp2_with (refine ⟨trivial, ?_⟩; gi_at_call 55; refine (callsIn_wide.2 (pairs_ _ _)).mono ?_; rintro e w' ⟨rfl, rfl⟩)
  have hM0 : Mem w [] := mem_nil w
  obtain ⟨L, hL⟩ : ∃ L : List (Nat × Array Value × TypeId), L = [(w.heap.size + 1 + 1 + 1, #[.int .i64 k], 46), (w.heap.size + 1 + 1, #[.int .i64 0, .int .i64 0], 56), (w.heap.size + 1, #[.int .i64 x, .int .i64 y], 56), (w.heap.size, #[.int .i64 k], 46)] := ⟨_, rfl⟩
  refine wpIn_rangeFunc_ownH rfl (by omega) (gf := 65) (lb := #[.pointer (some ⟨w.heap.size + 1 + 1 + 1, 0, none⟩)]) rfl trivial (enters_of Try.func65 (by kernel_rfl) rfl)
    (pairs_stops Fence.wide 5 trivial rfl (by omega) (w.heap.size + 1 + 1 + 1) k hk.2 _ (by simp) ?cell) kc_t (kc_b (by simp)) (Below.refl _ _) (fun _ => rfl)
    (fun pre W => (pre.map cl).all (fun q => !oneP k x y q) = true ∧ MB w (fun _ => L) pre W)
    (fun c pre W => (c = .ret ∧ ∃ p' q, pre.map cl = p' ++ [q] ∧ p'.all (fun q => !oneP k x y q) = true ∧ oneP k x y q = true ∧ MB w (fun _ => [(w.heap.size + 1 + 1, #[.int .i64 q.1, .int .i64 q.2], 56), (w.heap.size + 1, #[.int .i64 x, .int .i64 y], 56), (w.heap.size, #[.int .i64 k], 46)]) pre W))
    ?own1 ?own2 ?start
    (fun q a' W => ∃ Bx, w.heap.size + 1 + 1 + 1 < Bx ∧ Mem W [(Bx, #[.int .i64 (cl q).1, .int .i64 (cl q).2], 56)] ∧ a' = { tmps := #[.int .i64 k, .agg #[.int .i64 x, .int .i64 y], .pointer (some ⟨w.heap.size, 0, none⟩), .pointer (some ⟨w.heap.size + 1, 0, none⟩), .pointer (some ⟨w.heap.size + 1 + 1, 0, none⟩), .pointer (some ⟨Bx, 0, none⟩), .int .i64 k, .func (.func 65) #[] #[.pointer (some ⟨w.heap.size + 1 + 1 + 1, 0, none⟩)], .agg #[.int .i64 (cl q).1, .int .i64 (cl q).2], undef, undef, undef, undef, undef, undef, undef, undef, undef, undef, undef], defers := [] })
    ?own3 ?assign ?body ?done ?stop
  case cell => simp [go_sem]
  case own1 => exact OwnFrom.and (ownFrom_pure _ _) (mb_own (by simp; omega) _)
  case own2 =>
    rintro c pre X Y row ⟨rfl, p', q, h1, h2, h3, h4⟩ hg hr
    exact ⟨rfl, p', q, h1, h2, h3, mb_own (by simp; omega) (fun (_ : List (Nat × Nat)) => [(w.heap.size + 1 + 1, #[Value.int .i64 q.1, .int .i64 q.2], 56), (w.heap.size + 1, #[.int .i64 x, .int .i64 y], 56), (w.heap.size, #[.int .i64 k], 46)]) pre X Y row h4 hg hr⟩
  case own3 =>
    rintro q a' _ X Y row ⟨Bx, h1, h2, h3⟩ hg hr
    exact ⟨Bx, h1, mem_grown h2 hg (fun r e => (hr r e).2), h3⟩
  case start =>
    subst hL
    refine ⟨rfl, ?_, by (repeat' (first | (with_reducible exact hB) | (with_reducible exact Below.refl _ _) | (with_reducible refine Below.alloc ?_ ?_ _) | (with_reducible refine Below.setCell ?_ ?_ _) | (with_reducible refine Below.drew ?_) | (with_reducible refine below_drewN ?_ _) | (with_reducible exact Nat.le_refl _) | (with_reducible exact hB.size) | (simp [go_sem]; done) | (have := hB.size; simp [go_sem]; omega)))⟩
    apply mem_drop 0
    · (repeat' (first | (with_reducible exact hM) | (with_reducible apply mem_alloc) | (with_reducible apply mem_set) | (with_reducible apply mem_drew) | (with_reducible apply mem_drewN)))
    · simp
  case assign =>
    rintro l pre q W K ⟨hp, hM, hB⟩ hK
    have hMW := hM
    have hBW := hB
    subst hL
    simp only [encP]
    have hC := mem_facts hM; simp at hC
    gi_wp2
    have hM2 : Mem (W.alloc (.cells #[.int .i64 (cl q).1, .int .i64 (cl q).2] 56)) ((W.heap.size, #[.int .i64 (cl q).1, .int .i64 (cl q).2], 56) :: _) := mem_alloc hMW _ _
    refine hK _ _ ((KeepsOthers.alloc _ _).from _) (kc_mem hMW (mem_tail' hM2) List.mem_cons_self List.mem_cons_self) ⟨hp, mem_tail' hM2, by (repeat' (first | (with_reducible exact hB) | (with_reducible exact Below.refl _ _) | (with_reducible refine Below.alloc ?_ ?_ _) | (with_reducible refine Below.setCell ?_ ?_ _) | (with_reducible refine Below.drew ?_) | (with_reducible refine below_drewN ?_ _) | (with_reducible exact Nat.le_refl _) | (with_reducible exact hB.size) | (simp [go_sem]; done) | (have := hB.size; simp [go_sem]; omega)))⟩ ⟨W.heap.size, mem_lt (hMW.1 _ List.mem_cons_self), mem_head' hM2, rfl⟩
  case body =>
    rintro l pre q0 a' W hl ⟨r, hr⟩ ⟨hp, hM1, hB1⟩ ⟨Bx, hBx, hX, rfl⟩ hlt
    subst hL
    obtain ⟨q, hq⟩ : ∃ q, q = cl q0 := ⟨_, rfl⟩
    have hql : q.1 < 12 ∧ q.2 < 12 := by rw [hq]; exact cl_lt q0
    have hmap : (pre ++ [q0]).map cl = pre.map cl ++ [q] := by simp [hq]
    rw [← hq] at hX
    rw [← hq]
    have hM := mem_cons' hM1 hX (by intro q hq; simp at hq; rcases hq with rfl | rfl | rfl | rfl <;> simp <;> omega)
    have hM0 := hM1
    have hB := hB1
    clear hM1 hB1 hX hq
    have hC := mem_facts hM
    simp at hC
    have hK := KeepsOthers.refl W
    have cS := fun W => mSame_ k x y q.1 q.2 hk hx hy (by omega) (by omega) W
    have cP := fun W => mPoint_ k q.1 q.2 hk W
    cases h1 : saB k x y q.1 q.2
    · rw [h1] at cS
      have ho : oneP k x y q = false := by simp [oneP, h1]
      gi_wp2_with (refine ⟨trivial, ?_⟩; gi_at_call 56; refine (CallsIn.inRound l (callsIn_wide.2 (cS _))).mono ?_; rintro e w' ⟨rfl, hb⟩; replace hK := keeps_call (A := W) (hK := (by repeat' (first | (with_reducible exact hK) | (with_reducible exact KeepsOthers.refl _) | (with_reducible apply keeps_alloc) | (with_reducible apply keeps_set) | (with_reducible apply keeps_drew) | (with_reducible apply keeps_drewN)))) hb; apply after_call (w := w) hb; (focus ((repeat' (first | (with_reducible exact hM) | (with_reducible apply mem_alloc) | (with_reducible apply mem_set) | (with_reducible apply mem_drew) | (with_reducible apply mem_drewN))); done)); (focus ((repeat' (first | (with_reducible exact hB) | (with_reducible exact Below.refl _ _) | (with_reducible refine Below.alloc ?_ ?_ _) | (with_reducible refine Below.setCell ?_ ?_ _) | (with_reducible refine Below.drew ?_) | (with_reducible refine below_drewN ?_ _) | (with_reducible exact Nat.le_refl _) | (with_reducible exact hB.size) | (simp [go_sem]; done) | (have := hB.size; simp [go_sem]; omega))); done)); (focus ((repeat' (first | (with_reducible exact hB) | (with_reducible exact Below.refl _ _) | (with_reducible refine Below.alloc ?_ ?_ _) | (with_reducible refine Below.setCell ?_ ?_ _) | (with_reducible refine Below.drew ?_) | (with_reducible refine below_drewN ?_ _) | (with_reducible exact Nat.le_refl _) | (with_reducible exact hB.size) | (simp [go_sem]; done) | (have := hB.size; simp [go_sem]; omega))); done)); clear hM hB hb; intro hM hB; (try clear hC); have hC := mem_facts hM; simp at hC)
      refine ⟨trivial, ?_⟩
      gi_wp2
      exact ⟨kf ((by repeat' (first | (with_reducible exact hK) | (with_reducible exact KeepsOthers.refl _) | (with_reducible apply keeps_alloc) | (with_reducible apply keeps_set) | (with_reducible apply keeps_drew) | (with_reducible apply keeps_drewN)))), kc_mem hM0 hM List.mem_cons_self (List.mem_cons_of_mem _ List.mem_cons_self), by rw [hmap, List.all_append, hp]; simp [ho], mem_tail' hM, by (repeat' (first | (with_reducible exact hB) | (with_reducible exact Below.refl _ _) | (with_reducible refine Below.alloc ?_ ?_ _) | (with_reducible refine Below.setCell ?_ ?_ _) | (with_reducible refine Below.drew ?_) | (with_reducible refine below_drewN ?_ _) | (with_reducible exact Nat.le_refl _) | (with_reducible exact hB.size) | (simp [go_sem]; done) | (have := hB.size; simp [go_sem]; omega)))⟩
    · rw [h1] at cS
      cases h2 : ptB k q.1 q.2
      · rw [h2] at cP
        have ho : oneP k x y q = false := by simp [oneP, h1, h2]
        gi_wp2_with (first | (refine ⟨trivial, ?_⟩; gi_at_call 56; refine (CallsIn.inRound l (callsIn_wide.2 (cS _))).mono ?_; rintro e w' ⟨rfl, hb⟩; replace hK := keeps_call (A := W) (hK := (by repeat' (first | (with_reducible exact hK) | (with_reducible exact KeepsOthers.refl _) | (with_reducible apply keeps_alloc) | (with_reducible apply keeps_set) | (with_reducible apply keeps_drew) | (with_reducible apply keeps_drewN)))) hb; apply after_call (w := w) hb; (focus ((repeat' (first | (with_reducible exact hM) | (with_reducible apply mem_alloc) | (with_reducible apply mem_set) | (with_reducible apply mem_drew) | (with_reducible apply mem_drewN))); done)); (focus ((repeat' (first | (with_reducible exact hB) | (with_reducible exact Below.refl _ _) | (with_reducible refine Below.alloc ?_ ?_ _) | (with_reducible refine Below.setCell ?_ ?_ _) | (with_reducible refine Below.drew ?_) | (with_reducible refine below_drewN ?_ _) | (with_reducible exact Nat.le_refl _) | (with_reducible exact hB.size) | (simp [go_sem]; done) | (have := hB.size; simp [go_sem]; omega))); done)); (focus ((repeat' (first | (with_reducible exact hB) | (with_reducible exact Below.refl _ _) | (with_reducible refine Below.alloc ?_ ?_ _) | (with_reducible refine Below.setCell ?_ ?_ _) | (with_reducible refine Below.drew ?_) | (with_reducible refine below_drewN ?_ _) | (with_reducible exact Nat.le_refl _) | (with_reducible exact hB.size) | (simp [go_sem]; done) | (have := hB.size; simp [go_sem]; omega))); done)); clear hM hB hb; intro hM hB; (try clear hC); have hC := mem_facts hM; simp at hC) | (refine ⟨trivial, ?_⟩; gi_at_call 41; refine (CallsIn.inRound l (callsIn_wide.2 (cP _))).mono ?_; rintro e w' ⟨rfl, hb⟩; replace hK := keeps_call (A := W) (hK := (by repeat' (first | (with_reducible exact hK) | (with_reducible exact KeepsOthers.refl _) | (with_reducible apply keeps_alloc) | (with_reducible apply keeps_set) | (with_reducible apply keeps_drew) | (with_reducible apply keeps_drewN)))) hb; apply after_call (w := w) hb; (focus ((repeat' (first | (with_reducible exact hM) | (with_reducible apply mem_alloc) | (with_reducible apply mem_set) | (with_reducible apply mem_drew) | (with_reducible apply mem_drewN))); done)); (focus ((repeat' (first | (with_reducible exact hB) | (with_reducible exact Below.refl _ _) | (with_reducible refine Below.alloc ?_ ?_ _) | (with_reducible refine Below.setCell ?_ ?_ _) | (with_reducible refine Below.drew ?_) | (with_reducible refine below_drewN ?_ _) | (with_reducible exact Nat.le_refl _) | (with_reducible exact hB.size) | (simp [go_sem]; done) | (have := hB.size; simp [go_sem]; omega))); done)); (focus ((repeat' (first | (with_reducible exact hB) | (with_reducible exact Below.refl _ _) | (with_reducible refine Below.alloc ?_ ?_ _) | (with_reducible refine Below.setCell ?_ ?_ _) | (with_reducible refine Below.drew ?_) | (with_reducible refine below_drewN ?_ _) | (with_reducible exact Nat.le_refl _) | (with_reducible exact hB.size) | (simp [go_sem]; done) | (have := hB.size; simp [go_sem]; omega))); done)); clear hM hB hb; intro hM hB; (try clear hC); have hC := mem_facts hM; simp at hC))
        exact ⟨kf ((by repeat' (first | (with_reducible exact hK) | (with_reducible exact KeepsOthers.refl _) | (with_reducible apply keeps_alloc) | (with_reducible apply keeps_set) | (with_reducible apply keeps_drew) | (with_reducible apply keeps_drewN)))), kc_mem hM0 hM List.mem_cons_self (List.mem_cons_of_mem _ List.mem_cons_self), by rw [hmap, List.all_append, hp]; simp [ho], mem_tail' hM, by (repeat' (first | (with_reducible exact hB) | (with_reducible exact Below.refl _ _) | (with_reducible refine Below.alloc ?_ ?_ _) | (with_reducible refine Below.setCell ?_ ?_ _) | (with_reducible refine Below.drew ?_) | (with_reducible refine below_drewN ?_ _) | (with_reducible exact Nat.le_refl _) | (with_reducible exact hB.size) | (simp [go_sem]; done) | (have := hB.size; simp [go_sem]; omega)))⟩
      · rw [h2] at cP
        have ho : oneP k x y q = true := by simp [oneP, h1, h2]
        gi_wp2_with (first | (refine ⟨trivial, ?_⟩; gi_at_call 56; refine (CallsIn.inRound l (callsIn_wide.2 (cS _))).mono ?_; rintro e w' ⟨rfl, hb⟩; replace hK := keeps_call (A := W) (hK := (by repeat' (first | (with_reducible exact hK) | (with_reducible exact KeepsOthers.refl _) | (with_reducible apply keeps_alloc) | (with_reducible apply keeps_set) | (with_reducible apply keeps_drew) | (with_reducible apply keeps_drewN)))) hb; apply after_call (w := w) hb; (focus ((repeat' (first | (with_reducible exact hM) | (with_reducible apply mem_alloc) | (with_reducible apply mem_set) | (with_reducible apply mem_drew) | (with_reducible apply mem_drewN))); done)); (focus ((repeat' (first | (with_reducible exact hB) | (with_reducible exact Below.refl _ _) | (with_reducible refine Below.alloc ?_ ?_ _) | (with_reducible refine Below.setCell ?_ ?_ _) | (with_reducible refine Below.drew ?_) | (with_reducible refine below_drewN ?_ _) | (with_reducible exact Nat.le_refl _) | (with_reducible exact hB.size) | (simp [go_sem]; done) | (have := hB.size; simp [go_sem]; omega))); done)); (focus ((repeat' (first | (with_reducible exact hB) | (with_reducible exact Below.refl _ _) | (with_reducible refine Below.alloc ?_ ?_ _) | (with_reducible refine Below.setCell ?_ ?_ _) | (with_reducible refine Below.drew ?_) | (with_reducible refine below_drewN ?_ _) | (with_reducible exact Nat.le_refl _) | (with_reducible exact hB.size) | (simp [go_sem]; done) | (have := hB.size; simp [go_sem]; omega))); done)); clear hM hB hb; intro hM hB; (try clear hC); have hC := mem_facts hM; simp at hC) | (refine ⟨trivial, ?_⟩; gi_at_call 41; refine (CallsIn.inRound l (callsIn_wide.2 (cP _))).mono ?_; rintro e w' ⟨rfl, hb⟩; replace hK := keeps_call (A := W) (hK := (by repeat' (first | (with_reducible exact hK) | (with_reducible exact KeepsOthers.refl _) | (with_reducible apply keeps_alloc) | (with_reducible apply keeps_set) | (with_reducible apply keeps_drew) | (with_reducible apply keeps_drewN)))) hb; apply after_call (w := w) hb; (focus ((repeat' (first | (with_reducible exact hM) | (with_reducible apply mem_alloc) | (with_reducible apply mem_set) | (with_reducible apply mem_drew) | (with_reducible apply mem_drewN))); done)); (focus ((repeat' (first | (with_reducible exact hB) | (with_reducible exact Below.refl _ _) | (with_reducible refine Below.alloc ?_ ?_ _) | (with_reducible refine Below.setCell ?_ ?_ _) | (with_reducible refine Below.drew ?_) | (with_reducible refine below_drewN ?_ _) | (with_reducible exact Nat.le_refl _) | (with_reducible exact hB.size) | (simp [go_sem]; done) | (have := hB.size; simp [go_sem]; omega))); done)); (focus ((repeat' (first | (with_reducible exact hB) | (with_reducible exact Below.refl _ _) | (with_reducible refine Below.alloc ?_ ?_ _) | (with_reducible refine Below.setCell ?_ ?_ _) | (with_reducible refine Below.drew ?_) | (with_reducible refine below_drewN ?_ _) | (with_reducible exact Nat.le_refl _) | (with_reducible exact hB.size) | (simp [go_sem]; done) | (have := hB.size; simp [go_sem]; omega))); done)); clear hM hB hb; intro hM hB; (try clear hC); have hC := mem_facts hM; simp at hC))
        refine ⟨kf ((by repeat' (first | (with_reducible exact hK) | (with_reducible exact KeepsOthers.refl _) | (with_reducible apply keeps_alloc) | (with_reducible apply keeps_set) | (with_reducible apply keeps_drew) | (with_reducible apply keeps_drewN)))), rfl, pre.map cl, q, hmap, hp, ho, ?_, by (repeat' (first | (with_reducible exact hB) | (with_reducible exact Below.refl _ _) | (with_reducible refine Below.alloc ?_ ?_ _) | (with_reducible refine Below.setCell ?_ ?_ _) | (with_reducible refine Below.drew ?_) | (with_reducible refine below_drewN ?_ _) | (with_reducible exact Nat.le_refl _) | (with_reducible exact hB.size) | (simp [go_sem]; done) | (have := hB.size; simp [go_sem]; omega)))⟩
        apply mem_drop 2
        · (repeat' (first | (with_reducible exact hM) | (with_reducible apply mem_alloc) | (with_reducible apply mem_set) | (with_reducible apply mem_drew) | (with_reducible apply mem_drewN)))
        · simp [show ¬ (w.heap.size = w.heap.size + 1 + 1) by omega]
  case done =>
    rintro D ys W hD rfl ⟨hp, hM, hB⟩ hd
    subst hL
    have hC := mem_facts hM
    simp at hC
    have hK := KeepsOthers.refl W
    gi_wp2
    refine fin_marks (w := w) hd hD (by simp; omega) (by repeat' (first | (with_reducible exact hK) | (with_reducible exact KeepsOthers.refl _) | (with_reducible apply keeps_alloc) | (with_reducible apply keeps_set) | (with_reducible apply keeps_drew) | (with_reducible apply keeps_drewN))) (L := [(w.heap.size + 1 + 1, #[.int .i64 x, .int .i64 y], 56), (w.heap.size + 1, #[.int .i64 x, .int .i64 y], 56), (w.heap.size, #[.int .i64 k], 46)]) ?_ (by (repeat' (first | (with_reducible exact hB) | (with_reducible exact Below.refl _ _) | (with_reducible refine Below.alloc ?_ ?_ _) | (with_reducible refine Below.setCell ?_ ?_ _) | (with_reducible refine Below.drew ?_) | (with_reducible refine below_drewN ?_ _) | (with_reducible exact Nat.le_refl _) | (with_reducible exact hB.size) | (simp [go_sem]; done) | (have := hB.size; simp [go_sem]; omega)))) ?_
    · apply mem_drop 1
      · (repeat' (first | (with_reducible exact hM) | (with_reducible apply mem_alloc) | (with_reducible apply mem_set) | (with_reducible apply mem_drew) | (with_reducible apply mem_drewN)))
      · simp [show ¬ (w.heap.size = w.heap.size + 1 + 1) by omega]
    · intro W' hM' hB'
      have hC' := mem_facts hM'
      simp at hC'
      refine ⟨.agg #[.int .i64 x, .int .i64 y], by simp [results, Try.f42, go_sem, hC'], ?_, hB'⟩
      have : (prs k).find? (oneP k x y) = none := by
        rw [cl_prs hk.2] at hp
        rw [List.find?_eq_none]
        intro q hq
        have := List.all_eq_true.1 hp q hq
        simpa using this
      simp only [fstP, this, Option.getD_none]
  case stop =>
    rintro D c pre W hD hpre ⟨rfl, p', q, h1, h2, h3, hM, hB⟩ hd
    gi_wp2
    refine fin_marks (w := w) hd hD (by simp; omega) (KeepsOthers.refl W) hM hB ?_
    intro W' hM' hB'
    have hC' := mem_facts hM'
    simp at hC'
    refine ⟨.agg #[.int .i64 q.1, .int .i64 q.2], by simp [results, Try.f42, go_sem, hC'], ?_, hB'⟩
    have : (prs k).find? (oneP k x y) = some q := by
      obtain ⟨r, hr⟩ := hpre
      rw [← cl_prs hk.2, ← hr, List.map_append, h1, List.find?_append, List.find?_append]
      have e : p'.find? (oneP k x y) = none := by
        rw [List.find?_eq_none]
        intro z hz
        have := List.all_eq_true.1 h2 z hz
        simpa using this
      simp [e, h3]
    simp only [fstP, this, Option.getD_some]
end Go.Proofs.Ythblmkpannfbaaa

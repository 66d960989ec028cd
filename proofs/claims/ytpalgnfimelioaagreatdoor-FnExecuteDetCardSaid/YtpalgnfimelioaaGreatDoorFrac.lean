
/- The letters of a fraction, one after the other. -/
import Derived.Test.YtpalgnfimelioaaGreatDoorRow
namespace Go.Proofs.YtpalgnfimelioaaGreatDoor
open Go.RowKit Go.Shelf
attribute [local go_sem] Oper.semAt_some

theorem fracLetters_ (p q : Int) (w : World) : Calls Tryz.prog 162 #[.agg #[.int .i64 p, .int .i64 q]] w fun e w' => e = .returned (.func (.func 196) #[] #[.pointer (some ⟨w.heap.size, 0, none⟩)]) ∧ w' = w.alloc (.cells #[.int .i64 p, .int .i64 q] 138) := by
  go_enter Tryz.func162, Tryz.ntmps162
  go_wp2
  go_ret
  exact ⟨rfl, rfl⟩

set_option maxRecDepth 100000 in
set_option maxHeartbeats 2000000 in
theorem frac1_in (n : Nat) (hn : 1 ≤ n) (l Bs : Nat) (p q : Nat) (hp : 1 ≤ p) (hq : 1 ≤ q) (hpq : p + q ≤ 1000000000000) (J Jx : List UInt8 → World → Prop) (hJd : ∀ pre W k, J pre W → J pre (W.drewN k))
    (hY : ∀ pre x W, J pre W → pre.length < p + q → YieldAt Fence.wide (n - 1) Tryz.prog l (encL x) W fun e W' =>
      (e = .returned (.bool true) ∧ J (pre ++ [x]) W' ∧ True) ∨ (e = .returned (.bool false) ∧ Jx (pre ++ [x]) W'))
    (W : World) (h0c : W.cell? ⟨Bs, 0, none⟩ = some (.int .i64 p)) (h1c : W.cell? ⟨Bs, 1, none⟩ = some (.int .i64 q)) (h0 : J [] W) :
    CallsIn Fence.wide n Tryz.prog 196 #[.func (.yield l) #[] #[], .pointer (some ⟨Bs, 0, none⟩)] W fun e W' => (∃ v, e = .returned v) ∧
      ((∃ ys, ys = lets p q ∧ J ys W') ∨ (∃ pre, pre <+: lets p q ∧ Jx pre W')) := by
  refine callsIn_of_wp Tryz.func196 rfl trivial ?_ rfl
  simp only [Tryz.ntmps196, List.size_toArray, List.length_cons, List.length_nil, Nat.reduceAdd, Nat.reduceSub, Array.replicate_succ, Array.replicate_zero, List.push_toArray, List.append_toArray, List.nil_append, List.cons_append]
  have H0 := Lib.hid h0
  clear h0
  gi_wp2
  gi_quiet (fail)
  gi_wp2
  gi_loopw [3, 4] (fun vp vq wr => ∃ (a b : Nat) (pre : List UInt8), vp = .int .i64 a ∧ vq = .int .i64 b ∧ 1 ≤ a ∧ 1 ≤ b ∧ a + b + pre.length ≤ p + q ∧ lets p q = pre ++ lets a b ∧ J pre wr)
    (fun vp vq _ => (intOf vp).toNat + (intOf vq).toNat)
  case atStart => exact ⟨p, q, [], rfl, rfl, hp, hq, by simp, rfl, hJd _ _ _ H0.out⟩
  case round =>
    obtain ⟨x, y, pre, rfl, rfl, hx, hy, hle, hl, hJs⟩ := hrel
    have HL := Lib.hid hl
    clear hl
    by_cases hxy : x = y
    · subst hxy
      gi_wp2
      go_end0
      exact ⟨⟨_, rfl⟩, .inl ⟨pre, by rw [HL.out, lets_self]; simp, hJs⟩⟩
    · have hne : ((x : Int) == (y : Int)) = false := by simp; omega
      have hne2 : ((x : Int) != (y : Int)) = true := by simp; omega
      by_cases hlt : y < x
      · obtain ⟨fn, tmps, assign, body, hyy, hR⟩ := hY pre 82 wr hJs (by omega)
        unfold encL at hyy
        rw [show (((82 : UInt8).toNat : Nat) : Int) = 82 from rfl] at hyy
        gi_wp2
        refine hR.mono ?_
        rintro e W3 (⟨rfl, hJ3, -⟩ | ⟨rfl, hJx3⟩)
        · gi_wp2
          go_roundw
          case rel => exact ⟨x - y, y, pre ++ [82], by go_num, rfl, by omega, hy, by simp; omega, by rw [HL.out, lets_gt (by omega) hlt]; simp, hJ3⟩
          case measure => simp [intOf]; omega
        · gi_wp2
          refine bodyPost_ret (results_none rfl _ _ _) rfl ?_
          exact ⟨⟨_, rfl⟩, .inr ⟨_, ⟨lets (x - y) y, by rw [HL.out, lets_gt (p := x) (q := y) (by omega) hlt]; simp⟩, hJx3⟩⟩
      · obtain ⟨fn, tmps, assign, body, hyy, hR⟩ := hY pre 76 wr hJs (by omega)
        unfold encL at hyy
        rw [show (((76 : UInt8).toNat : Nat) : Int) = 76 from rfl] at hyy
        gi_wp2
        refine hR.mono ?_
        rintro e W3 (⟨rfl, hJ3, -⟩ | ⟨rfl, hJx3⟩)
        · gi_wp2
          go_roundw
          case rel => exact ⟨x, y - x, pre ++ [76], rfl, by go_num, hx, by omega, by simp; omega, by rw [HL.out, lets_lt (by omega) (by omega)]; simp, hJ3⟩
          case measure => simp [intOf]; omega
        · gi_wp2
          refine bodyPost_ret (results_none rfl _ _ _) rfl ?_
          exact ⟨⟨_, rfl⟩, .inr ⟨_, ⟨lets x (y - x), by rw [HL.out, lets_lt (p := x) (q := y) (by omega) (by omega)]; simp⟩, hJx3⟩⟩

theorem frac_stops (n : Nat) (hn : 1 ≤ n) (Bs p q : Nat) (hp : 1 ≤ p) (hq : 1 ≤ q) (hpq : p + q ≤ 1000000000000) (w : World) (hBs : Bs < w.heap.size)
    (h0 : w.cell? ⟨Bs, 0, none⟩ = some (.int .i64 p)) (h1 : w.cell? ⟨Bs, 1, none⟩ = some (.int .i64 q)) :
    SeqStopsK Fence.wide n Tryz.prog 196 #[.pointer (some ⟨Bs, 0, none⟩)] encL (fun _ _ => True) (fun ys => ys = lets p q) (fun pre => pre <+: lets p q) (p + q) w := fun l J Jx W hW hJ _ hY hJ0 =>
  frac1_in n hn l Bs p q hp hq hpq J Jx (fun pre W k h => hJ pre W (W.drewN k) none h ⟨rfl, rfl, rfl, Nat.le_refl _, fun _ _ _ => rfl⟩ (fun _ e => by cases e)) hY W ((hW.cell (p := ⟨Bs, 0, none⟩) hBs).trans h0) ((hW.cell (p := ⟨Bs, 1, none⟩) hBs).trans h1) hJ0
end Go.Proofs.YtpalgnfimelioaaGreatDoor

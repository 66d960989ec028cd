
/- strings.SplitSeq at a blank: what its iterator gives, each piece between two blanks. No condition. -/
import Derived.Test.YtpalgnfimelioaaGreatDoorStrL
import Derived.Test.YtpalgnfimelioaaGreatDoorRgD
namespace Go.Proofs.YtpalgnfimelioaaGreatDoor
open Go.RowKit Go.Shelf
attribute [local go_sem] Oper.semAt_some

/-- pieces with a blank between each two -/
def spL : List (List UInt8) → List UInt8
  | [] => []
  | [p] => p
  | p :: q :: ps => p ++ 32 :: spL (q :: ps)
def encP (l : List UInt8) : Value := .string (tx l)
theorem spL_cons (p q : List UInt8) (ps : List (List UInt8)) : spL (p :: q :: ps) = p ++ 32 :: spL (q :: ps) := rfl
theorem splitSeq_ (s : ByteArray) (w : World) : Calls Tryz.prog 137 #[.string s, .string ⟨#[32]⟩] w fun e w' => e = .returned (.func (.func 203) #[] #[.pointer (some ⟨w.heap.size + 1, 0, none⟩), .pointer (some ⟨w.heap.size, 0, none⟩), .pointer (some ⟨w.heap.size + 2, 0, none⟩)]) ∧
    w' = ((w.alloc (.cells #[.string s] 9)).alloc (.cells #[.string ⟨#[32]⟩] 9)).alloc (.cells #[.int .i64 0] 3) := by
  go_enter Tryz.func137, Tryz.ntmps137
  go_wp2
  go_ret
  exact ⟨rfl, rfl⟩
theorem xIndex1_ (s : ByteArray) (c : UInt8) (w : World) : Calls Tryz.prog 205 #[.string s, .string ⟨#[c]⟩] w (fun E' W' => E' = .returned (.int .i64 (Lib.indexByte s.data.toList c)) ∧ w = W') := by
  go_enter Tryz.func205, Tryz.ntmps205
  go_wp2_with (go_at_call 156; refine (sliteIndex1_ _ _ _).mono ?_; rintro e w' ⟨rfl, rfl⟩)
  go_ret
  exact ⟨rfl, rfl⟩
theorem spl_facts {a b : Nat} (h : a + (b + 1) ≤ 1000000000) : wrap64 (a : Int) = (a : Int) ∧ wrap64 ((a : Int) + 0) = (a : Int) ∧ ¬ ((a : Int) < 0) ∧ (a : Int) ≤ (a : Int) + ((b : Int) + 1) ∧ (0 : Int) ≤ (a : Int) :=
  ⟨w64 (by omega) (by omega), by rw [Int.add_zero]; exact w64 (by omega) (by omega), by omega, by omega, by omega⟩
set_option maxRecDepth 100000 in
set_option maxHeartbeats 2000000 in
theorem split_stops (n : Nat) (hn : 3 ≤ n) (B : Nat) (ps : List (List UInt8)) (hps : ∀ p ∈ ps, (32 : UInt8) ∉ p) (hne : ps ≠ []) (hsz : (spL ps).length ≤ 1000000000) (w : World) (hB : B + 2 < w.heap.size)
    (hc : w.heap[B]? = some (.cells #[.string (tx (spL ps))] 9 (0, 0))) (hp : w.heap[B + 1]? = some (.cells #[.string ⟨#[32]⟩] 9 (0, 0))) (hq : w.heap[B + 2]? = some (.cells #[.int .i64 0] 3 (0, 0))) :
    SeqVars Fence.wide n Tryz.prog 203 #[.pointer (some ⟨B + 1, 0, none⟩), .pointer (some ⟨B, 0, none⟩), .pointer (some ⟨B + 2, 0, none⟩)] encP B [B, B + 1, B + 2] ps w := by
  intro l J W hW hJ hA hY h0
  have h1 : 1 ≤ n := by omega
  have hcW : W.heap[B]? = some (.cells #[.string (tx (spL ps))] 9 (0, 0)) := (hW.block B (by omega)).trans hc
  have hpW : W.heap[B + 1]? = some (.cells #[.string ⟨#[32]⟩] 9 (0, 0)) := (hW.block (B + 1) (by omega)).trans hp
  have hqW : W.heap[B + 2]? = some (.cells #[.int .i64 0] 3 (0, 0)) := (hW.block (B + 2) (by omega)).trans hq
  have hpc := cells_cell hpW
  have hz32 : (⟨#[32]⟩ : ByteArray).size = 1 := rfl
  refine callsIn_of_wp Tryz.func203 rfl trivial ?_ rfl
  simp only [Tryz.ntmps203, List.size_toArray, List.length_cons, List.length_nil, Nat.reduceAdd, Nat.reduceSub, Array.replicate_succ, Array.replicate_zero, List.push_toArray, List.append_toArray, List.nil_append, List.cons_append]
  gi_wp2
  gi_loopw [7] (fun _ wr => ∃ pre x post, ps = pre ++ x :: post ∧ J pre wr ∧ wr.heap[B]? = some (.cells #[.string (tx (spL (x :: post)))] 9 (0, 0)) ∧ wr.heap[B + 1]? = some (.cells #[.string ⟨#[32]⟩] 9 (0, 0)) ∧ wr.heap[B + 2]? = some (.cells #[.int .i64 0] 3 (0, 0)))
    (fun _ wr => leftB B wr)
  case atStart =>
    obtain ⟨x, post, rfl⟩ : ∃ x post, ps = x :: post := by cases ps with | nil => exact absurd rfl hne | cons x post => exact ⟨x, post, rfl⟩
    exact ⟨[], x, post, rfl, h0, hcW, hpW, hqW⟩
  case round =>
    obtain ⟨pre, x, post, hls', hJs, hb, hp1, hq1⟩ := hrel
    have hcell := cells_cell hb
    have hfr := cells_frozen hb
    have hcp := cells_cell hp1
    have hcq := cells_cell hq1
    have hleft : leftB B wr = (spL (x :: post)).length := by simp [leftB, hb, tx_size]
    have hx : (32 : UInt8) ∉ x := hps x (by rw [hls']; simp)
    cases post with
    | nil =>
      rw [show spL [x] = x from rfl] at hcell
      have hi : Lib.indexByte (tx x).data.toList 32 = -1 := by rw [tx_list]; exact idx_miss hx
      have HL := Lib.hid hls'
      have HS := Lib.hid hps
      clear hls' hps hb hsz hc hp hq hcW hpW hqW hleft hpc hx hne
      obtain ⟨fn, tmps, assign, body, hy, hR⟩ := hY pre x [] _ HL.out hJs
      unfold encP at hy
      gi_wp2_with ((refine ⟨trivial, ?_⟩; gi_at_call 205; refine (callsIn_wide.2 (xIndex1_ _ _ _)).mono ?_; rintro e w' ⟨rfl, rfl⟩); rw [hi])
      refine hR.mono ?_
      rintro e W3 ⟨rfl, hJ3, hk3⟩
      gi_wp2
      go_end0
      exact ⟨⟨_, rfl⟩, by rw [HL.out]; exact hJ3⟩
    | cons y post =>
      rw [spL_cons] at hcell hleft
      have hlen : x.length + ((spL (y :: post)).length + 1) ≤ 1000000000 := by
        have : ∀ pre : List (List UInt8), (spL (x :: y :: post)).length ≤ (spL (pre ++ x :: y :: post)).length := by
          intro pre
          induction pre with
          | nil => exact Nat.le_refl _
          | cons p pre ih =>
            cases pre with
            | nil => simp only [List.cons_append, List.nil_append]; rw [spL_cons p, List.length_append, List.length_cons]; omega
            | cons p' pre => simp only [List.cons_append] at ih ⊢; rw [spL_cons p, List.length_append, List.length_cons]; omega
        have h5 := this pre
        rw [← hls', spL_cons, List.length_append, List.length_cons] at h5
        exact Nat.le_trans h5 hsz
      obtain ⟨r, hr⟩ : ∃ r, spL (y :: post) = r := ⟨_, rfl⟩
      rw [hr] at hcell hleft hlen
      have HL := Lib.hid hls'
      have HS := Lib.hid hps
      have HR := Lib.hid hr
      have HZ := Lib.hid hleft
      have HB := Lib.hid hb
      have HP := Lib.hid hp1
      have HQ := Lib.hid hq1
      have hz : (tx (x ++ 32 :: r)).size = x.length + (r.length + 1) := by rw [tx_size]; simp
      have hi : Lib.indexByte (tx (x ++ 32 :: r)).data.toList 32 = (x.length : Int) := by rw [tx_list]; exact idx_hit hx
      have e1 : (tx (x ++ 32 :: r)).extract 0 x.length = tx x := tx_take x (32 :: r)
      have e2 := tx_drop1 x r 32
      obtain ⟨hw, c1, c3, c4, n1⟩ := len_facts hlen
      obtain ⟨hw0, hw00, c5, c6, c7⟩ := spl_facts hlen
      clear hls' hps hr hb hp1 hq1 hsz hc hp hq hcW hpW hqW hleft hpc hx hne
      clear hw hw0 hw00 c5
      obtain ⟨fn, tmps, assign, body, hy, hR⟩ := hY pre x (y :: post) _ HL.out hJs
      unfold encP at hy
      gi_wp2_with ((refine ⟨trivial, ?_⟩; gi_at_call 205; refine (callsIn_wide.2 (xIndex1_ _ _ _)).mono ?_; rintro e w' ⟨rfl, rfl⟩); rw [hi])
      refine hR.mono ?_
      rintro e W3 ⟨rfl, hJ3, hk3⟩
      have hb3 : W3.heap[B]? = some (.cells #[.string (tx (x ++ 32 :: r))] 9 (0, 0)) := by rw [hk3 B (by simp), HB.out, spL_cons, HR.out]
      have hp3 : W3.heap[B + 1]? = some (.cells #[.string ⟨#[32]⟩] 9 (0, 0)) := (hk3 (B + 1) (by simp)).trans HP.out
      have hq3 : W3.heap[B + 2]? = some (.cells #[.int .i64 0] 3 (0, 0)) := (hk3 (B + 2) (by simp)).trans HQ.out
      have hcell3 := cells_cell hb3
      have hfr3 := cells_frozen hb3
      have hcp3 := cells_cell hp3
      have HB3 := Lib.hid hb3
      have HP3 := Lib.hid hp3
      have HQ3 := Lib.hid hq3
      clear hb3 hp3 hq3 hcell hfr hcp hcq hy hi e1 hk3
      gi_wp2
      go_roundw
      case rel => exact ⟨pre ++ [x], y, post, by rw [HL.out]; simp, hA _ _ _ hJ3, by rw [HR.out]; exact set_cells (x := .string (tx r)) HB3.out, (heap_set_ne _ (by omega)).trans HP3.out, (heap_set_ne _ (by omega)).trans HQ3.out⟩
      case measure =>
        have hb4 := set_cells (x := .string (tx r)) HB3.out
        rw [HZ.out]
        simp [leftB, hb4, tx_size]
        omega
end Go.Proofs.YtpalgnfimelioaaGreatDoor

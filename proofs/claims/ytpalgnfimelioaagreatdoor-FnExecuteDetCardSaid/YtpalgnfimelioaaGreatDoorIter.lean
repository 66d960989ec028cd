
/- Ranges over a function: what a round keeps, in the words of Base; the letters of a text, one after the other. -/
import Derived.Test.YtpalgnfimelioaaGreatDoorWords
import Derived.RangeFuncNested
import Derived.RangeFuncBound
import Derived.RangeFuncCalls
import Derived.RangeFuncLeaves
import Derived.RangeFuncFrom
import Derived.Shelf.Abstract
import Derived.Shelf.RegionOpen
import Derived.OwnWalkIn
import Derived.TacticsInMore
import Derived.LoopNIn
import Derived.LoopIn
namespace Go.Proofs.YtpalgnfimelioaaGreatDoor
open Go.RowKit Go.Shelf
attribute [local go_sem] Oper.semAt_some

/-- the cell of block B stays -/
def KC (B : Nat) (W W' : World) : Prop := ∀ v, W.cell? ⟨B, 0, none⟩ = some v → W'.cell? ⟨B, 0, none⟩ = some v
theorem kc_t {B : Nat} {X Y Z : World} (h : KC B X Y) (k : KC B Y Z) : KC B X Z := fun v hv => k v (h v hv)
theorem kc_b {B : Nat} {w : World} (hB : B < w.heap.size) (W : World) (l : Nat) (o o' : Obj) (hl : w.heap.size ≤ l) (_ : W.heap[l]? = some o) (_ : o.isCells = false) (_ : o.isWalk = false) : KC B W (W.putObj l o') := fun v hv =>
  (World.cell?_of_block (a := ⟨B, 0, none⟩) (World.putObj_heap_other (show B ≠ l by omega))).trans hv
theorem kc_of {B : Nat} {W W' : World} {x : Value} (h : W.cell? ⟨B, 0, none⟩ = some x) (h' : W'.cell? ⟨B, 0, none⟩ = some x) : KC B W W' := fun v hv => by rw [h] at hv; rw [h', hv]
theorem kc_mem {B : Nat} {W W' : World} {L L' : List (Nat × Array Value × TypeId)} {x : Value} {t t' : TypeId} (h : Mem W L) (h' : Mem W' L') (k : (B, #[x], t) ∈ L) (k' : (B, #[x], t') ∈ L') : KC B W W' :=
  kc_of (cell_of_row W B 0 _ _ _ (h.1 _ k)) (cell_of_row W' B 0 _ _ _ (h'.1 _ k'))
theorem keeps_below {W W' : World} (h : Below W.heap.size W W') : KeepsOthers W W' := ⟨h.size, fun k _ hk _ => (h.block k (mem_lt hk)).trans hk⟩
theorem keeps_alloc {A W : World} (h : KeepsOthers A W) (o : Obj) : KeepsOthers A (W.alloc o) := h.trans (KeepsOthers.alloc W o)
theorem keeps_set {A W : World} (h : KeepsOthers A W) (p : Addr) (v : Value) : KeepsOthers A (W.setCell p v) := h.trans (KeepsOthers.setCell W p v)
theorem keeps_drew {A W : World} (h : KeepsOthers A W) : KeepsOthers A W.drew := h.trans (KeepsOthers.drew W)
theorem keeps_drewN {A W : World} (n : Nat) (h : KeepsOthers A W) : KeepsOthers A (W.drewN n) := ⟨h.size, h.same⟩
theorem keeps_call {A W W' : World} (hK : KeepsOthers A W) (hb : Below W.heap.size W W') : KeepsOthers A W' := hK.trans (keeps_below hb)
theorem mem_grown {W W' : World} {L : List (Nat × Array Value × TypeId)} {row : Option Nat} (h : Mem W L) (hg : W.grownBy W' row) (hr : ∀ r, row = some r → ∃ o : Obj, W.heap[r]? = some o ∧ o.isCells = false) : Mem W' L :=
  ⟨fun p hp => (hg.block p.1 (mem_lt (h.1 p hp)) (fun e => by
    obtain ⟨o, h1, h2⟩ := hr p.1 e.symm
    rw [h.1 p hp] at h1
    injection h1 with h1
    subst h1
    cases h2)).trans (h.1 p hp), h.2⟩
theorem mem_own {β : Type} (B : Nat) (L : β → List (Nat × Array Value × TypeId)) : OwnFrom B (fun s W => Mem W (L s)) := fun _ _ _ _ h hg hr => mem_grown h hg fun r e => (hr r e).2
/-- the loop's invariant: the walk's own blocks, and nothing else has changed -/
def MB {β : Type} (w : World) (L : β → List (Nat × Array Value × TypeId)) (s : β) (W : World) : Prop := Mem W (L s) ∧ Below w.heap.size w W
theorem mb_own {β : Type} {w : World} {B : Nat} (hB : w.heap.size ≤ B) (L : β → List (Nat × Array Value × TypeId)) : OwnFrom B (MB w L) := OwnFrom.and (mem_own B L) (ownFrom_below (Nat.le_refl _) hB)

/-- the end of a function that holds a range over a function: the block of the rounds' deferred calls is taken -/
theorem fin_marks {n : Nat} {P : Program} {fn : Func} {tmps : Array Value} {R : Ending → World → Prop} {D B : Nat} {w W0 W : World} {L : List (Nat × Array Value × TypeId)} (hd : W0.heap[D]? = some (.deferred (some []))) (hD : B ≤ D) (hwB : w.heap.size ≤ B)
    (hk : KeepsOthers W0 W) (hM : Mem W L) (hB : Below w.heap.size w W) (h : ∀ W', Mem W' L → Below w.heap.size w W' → LeavesInM Fence.wide n P fn tmps R [] .returning W') :
    LeavesInM Fence.wide n P fn tmps R [{ target := .collected D, args := #[] }] .returning W := by
  have hK := hk.same D _ hd rfl
  refine ⟨by simp, .inl ⟨_, _, rfl, run_takeDeferred hK, h _ ?_ ?_⟩⟩
  · exact mem_grown hM (grownBy_putObj' W D _) (fun r e => by cases e; exact ⟨_, hK, rfl⟩)
  · exact hB.trans (belowK_b (w := w) (Nat.le_refl _) W D _ _ (Nat.le_trans hwB hD) hK rfl rfl)
theorem take_snoc (s : ByteArray) (k : Nat) (h : k < s.size) : s.data.toList.take (k + 1) = s.data.toList.take k ++ [s[k]] := by
  rw [List.take_succ_eq_append_getElem (by simpa using h)]; rfl
def encL (c : UInt8) : Array Value := #[.int .u8 (c.toNat : Int)]

theorem letters_ (s : ByteArray) (w : World) : Calls Tryz.prog 40 #[.string s] w fun e w' => e = .returned (.func (.func 82) #[] #[.pointer (some ⟨w.heap.size, 0, none⟩)]) ∧ w' = w.alloc (.cells #[.string s] 40) := by
  go_enter Tryz.func40, Tryz.ntmps40
  go_wp2
  go_ret
  exact ⟨rfl, rfl⟩

set_option maxRecDepth 100000 in
set_option maxHeartbeats 1000000 in
theorem letters1_in (F : Fence) (n : Nat) (hf : F.fn 82) (hro : F.round = none) (hn : 1 ≤ n) (l Bs : Nat) (s : ByteArray) (hs : s.size ≤ 1000000000) (J Jx : List UInt8 → World → Prop)
    (hY : ∀ pre x W, J pre W → pre.length < s.size → YieldAt F (n - 1) Tryz.prog l (encL x) W fun e W' =>
      (e = .returned (.bool true) ∧ J (pre ++ [x]) W' ∧ KC Bs W W') ∨ (e = .returned (.bool false) ∧ Jx (pre ++ [x]) W'))
    (W : World) (hBs : W.cell? ⟨Bs, 0, none⟩ = some (.string s)) (h0 : J [] W) :
    CallsIn F n Tryz.prog 82 #[.func (.yield l) #[] #[], .pointer (some ⟨Bs, 0, none⟩)] W fun e W' => (∃ v, e = .returned v) ∧
      ((∃ ys, ys = s.data.toList ∧ J ys W') ∨ (∃ pre, pre <+: s.data.toList ∧ Jx pre W')) := by
  refine callsIn_of_wp Tryz.func82 rfl hf ?_ hro
  simp only [Tryz.ntmps82, List.size_toArray, List.length_cons, List.length_nil, Nat.reduceAdd, Nat.reduceSub, Array.replicate_succ, Array.replicate_zero, List.push_toArray, List.append_toArray, List.nil_append, List.cons_append]
  gi_wp2
  gi_loopw [6] (fun i wr => ∃ k : Nat, k ≤ s.size ∧ i = .int .i64 k ∧ J (s.data.toList.take k) wr ∧ wr.cell? ⟨Bs, 0, none⟩ = some (.string s))
    (fun i _ => s.size - (intOf i).toNat)
  case atStart => exact ⟨0, Nat.zero_le _, rfl, h0, hBs⟩
  case round =>
    obtain ⟨k, hk, rfl, hJs, hnx⟩ := hrel
    by_cases hlt : k < s.size
    · obtain ⟨fn, tmps, assign, body, hy, hR⟩ := hY _ s[k] wr hJs (by simp; omega)
      unfold encL at hy
      gi_wp2
      refine hR.mono ?_
      rintro e W3 (⟨rfl, hJ3, hk3⟩ | ⟨rfl, hJx3⟩)
      · gi_wp2
        go_roundw
        case rel => exact ⟨k + 1, by omega, by simp, by rw [take_snoc s k hlt]; exact hJ3, hk3 _ hnx⟩
        case measure => simp [intOf]; omega
      · gi_wp2
        refine bodyPost_ret (results_none rfl _ _ _) rfl ?_
        exact ⟨⟨_, rfl⟩, .inr ⟨_, by rw [← take_snoc s k hlt]; exact List.take_prefix _ _, hJx3⟩⟩
    · obtain rfl : k = s.size := by omega
      gi_wp2
      go_end0
      exact ⟨⟨_, rfl⟩, .inl ⟨_, rfl, by rw [List.take_of_length_le (by simp)] at hJs; exact hJs⟩⟩

theorem letters_stops (F : Fence) (n : Nat) (hf : F.fn 82) (hro : F.round = none) (hn : 1 ≤ n) (Bs : Nat) (s : ByteArray) (hs : s.size ≤ 1000000000) (w : World) (hBs : Bs < w.heap.size)
    (hc : w.cell? ⟨Bs, 0, none⟩ = some (.string s)) :
    SeqStopsK F n Tryz.prog 82 #[.pointer (some ⟨Bs, 0, none⟩)] encL (KC Bs) (fun ys => ys = s.data.toList) (fun pre => pre <+: s.data.toList) s.size w := fun l J Jx W hW _ _ hY h0 =>
  letters1_in F n hf hro hn l Bs s hs J Jx hY W ((hW.cell (p := ⟨Bs, 0, none⟩) hBs).trans hc) h0
end Go.Proofs.YtpalgnfimelioaaGreatDoor

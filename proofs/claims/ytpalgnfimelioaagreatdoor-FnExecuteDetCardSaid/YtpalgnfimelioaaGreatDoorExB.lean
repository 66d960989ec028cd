
/- Chapter 9's answer to one line: a word that is looked up and carried out, without a panic. No condition. -/
import Derived.Test.YtpalgnfimelioaaGreatDoorExA
import Derived.Defers
import Derived.Recover
namespace Go.Proofs.YtpalgnfimelioaaGreatDoor
open Go.RowKit

theorem assert_nil (w : World) : (Instr.typeAssert .nilIface 20 85 true).run Tryz.prog w = .ok (.tuple #[.agg #[], .bool false]) w := by kernel_rfl
set_option maxHeartbeats 1000000 in
set_option maxRecDepth 100000 in
/-- the deferred function where nothing has panicked -/
theorem answer1_ (p : Addr) (w : World) :
    CallsD Tryz.prog 74 #[.pointer (some p)] .returning w fun e u' w' => e = .returned (.tuple #[]) ∧ u' = .returning ∧ Below w.heap.size w w' := by
  have hta := assert_nil
  refine callsD_of_wpS Tryz.func74 rfl fun c₀ cs hu => ?_
  apply wpS_seq
  apply wpS_region
  simp [wpOpsS, go_sem, recoverD, hu, Tryz.ntmps74, Exit.thenS, hta]
  apply wpS_seq
  apply wpS_region
  simp [wpOpsS, go_sem, Exit.thenS]
  refine wpS_cond (t := false) (by simp [Act.eval, Array.replicate]) ?_
  simp only [Bool.false_eq_true, if_false]
  refine wpS_of_wp (wp_skip ?_)
  have hB : Below w.heap.size w (w.alloc (.cells #[] 85)) := (Below.refl _ w).alloc (Nat.le_refl _) _
  cases c₀
  simp_all [bodyPostS, results, Tryz.results74]

/-- what a method of the bench does: it says a text; the bench in block b then holds the matrix m -/
def st4 (w : World) (b : Nat) (m : M) : World := (((w.setCell ⟨b, 0, none⟩ (.int .i64 m.a)).setCell ⟨b, 1, none⟩ (.int .i64 m.b)).setCell ⟨b, 2, none⟩ (.int .i64 m.c)).setCell ⟨b, 3, none⟩ (.int .i64 m.d)
theorem st4_size (w : World) (b : Nat) (m : M) : (st4 w b m).heap.size = w.heap.size := by simp [st4, World.setCell]
theorem st4_ne (w : World) {b k : Nat} (m : M) (h : k ≠ b) : (st4 w b m).heap[k]? = w.heap[k]? := by
  simp only [st4]
  rw [Below.heap_setCell _ _ _ _ h, Below.heap_setCell _ _ _ _ h, Below.heap_setCell _ _ _ _ h, Below.heap_setCell _ _ _ _ h]
theorem st4_eq {w w' : World} {b : Nat} (m : M) (h : w'.heap[b]? = w.heap[b]?) : (st4 w' b m).heap[b]? = (st4 w b m).heap[b]? := by
  simp [st4, World.setCell, Array.getElem?_modify, h]
theorem st4_below {w w' : World} {B : Nat} (b : Nat) (m : M) (hb : b < B) (h : Below B w w') : Below B (st4 w b m) (st4 w' b m) :=
  ⟨h.os, h.tape, h.output, by rw [st4_size, st4_size]; exact h.size, fun k hk => by
    by_cases e : k = b
    · subst e; exact st4_eq m (h.block k hk)
    · rw [st4_ne _ _ e, st4_ne _ _ e]; exact h.block k hk⟩
theorem mem_st4 {w : World} {L : List (Nat × Array Value × TypeId)} {b : Nat} (m : M) (h : Mem w L) (hne : ∀ p ∈ L, p.1 ≠ b) : Mem (st4 w b m) L :=
  ⟨fun p hp => (st4_ne w m (hne p hp)).trans (h.1 p hp), h.2⟩
def BenchAt (b : Nat) (m : M) (w : World) : Prop := w.heap[b]? = some (.cells #[.int .i64 m.a, .int .i64 m.b, .int .i64 m.c, .int .i64 m.d] 46 (0, 0))
set_option maxHeartbeats 2000000 in
set_option maxRecDepth 100000 in
/-- a line of a word and a rest, the word being one of those that want a rest -/
theorem answerR_ (p q b : Nat) (m m' : M) (word rest out : List UInt8) (k : Nat) (hk : findW word restedL = some k) (hw : (32 : UInt8) ∉ word) (hlen : (word ++ 32 :: rest).length ≤ 1000000) (w : World) (hp : MapsAt p q w) (hb : BenchAt b m w)
    (hent : ∀ args w, (callFunc k args).run Tryz.prog w = .ok (.enter k args) w) (hdo : ∀ w', BenchAt b m w' → Calls Tryz.prog k #[.pointer (some ⟨b, 0, none⟩), .string (tx rest)] w' fun e w'' => e = .returned (.string (tx out)) ∧ Below w'.heap.size (st4 w' b m') w'') :
    Calls Tryz.prog 30 #[.agg #[.map (some p), .map (some q)], .pointer (some ⟨b, 0, none⟩), .string (tx (word ++ 32 :: rest))] w fun e w' => e = .returned (.string (tx out)) ∧ Below w.heap.size (st4 w b m') w' := by
  have hmf : ∀ (fn : Fn) (first cap : Array Value) (w : World), (Instr.makeFunc fn first cap).run Tryz.prog w = .ok (.func fn first cap) w := fun _ _ _ _ => rfl
  have hcut := cut1_ word rest 32 hw (by omega)
  have hM := mem_nil w; have hB := Below.refl w.heap.size w; have hC := True.intro
  go_enter_defers Tryz.func30, Tryz.ntmps30
  go_wp2_with (go_at_call 75; refine (hcut _).mono ?_; rintro e w' ⟨rfl, hb⟩; apply after_call (w := w) hb; (focus ((repeat' (first | (with_reducible exact hM) | (with_reducible apply mem_alloc) | (with_reducible apply mem_set) | (with_reducible apply mem_drew) | (with_reducible apply mem_drewN))); done)); (focus ((repeat' (first | (with_reducible exact hB) | (with_reducible exact Below.refl _ _) | (with_reducible refine Below.alloc ?_ ?_ _) | (with_reducible refine Below.setCell ?_ ?_ _) | (with_reducible refine Below.drew ?_) | (with_reducible refine below_drewN ?_ _) | (with_reducible exact Nat.le_refl _) | (with_reducible exact hB.size) | (simp [go_sem]; done) | (have := hB.size; simp [go_sem]; omega))); done)); (focus ((repeat' (first | (with_reducible exact hB) | (with_reducible exact Below.refl _ _) | (with_reducible refine Below.alloc ?_ ?_ _) | (with_reducible refine Below.setCell ?_ ?_ _) | (with_reducible refine Below.drew ?_) | (with_reducible refine below_drewN ?_ _) | (with_reducible exact Nat.le_refl _) | (with_reducible exact hB.size) | (simp [go_sem]; done) | (have := hB.size; simp [go_sem]; omega))); done)); clear hM hB hb; intro hM hB; (try clear hC); have hC := mem_facts hM; simp at hC)
  have hl := run_look Tryz.underlying48 Tryz.underlying9 Tryz.zeroValue81 w' q restedL restedL.length word (hp.below hB).2
  rw [hk] at hl
  simp only at hl
  rw [hl]
  simp only [Result.andThen]
  rw [Oper.upon_value]
  go_wp2
  have hbl : b < w.heap.size := mem_lt hb
  refine (hdo _ ((hB.block b hbl).trans hb)).mono ?_
  rintro e w2 ⟨rfl, hb2⟩
  have hM2 := mem_below (by rw [st4_size]; exact hb2) (mem_st4 (b := b) m' hM (by simp; omega))
  have hB2 : Below w.heap.size (st4 w b m') w2 := (st4_below b m' hbl hB).trans (hb2.mono hB.size)
  clear hM hB hC hl
  have hM := hM2
  have hB := hB2
  clear hM2 hB2
  have hC := mem_facts hM
  simp at hC
  go_wp2
  have hM1 := mem_set (w.heap.size + 1) 0 (.string (tx out)) hM
  have hB1 : Below w.heap.size (st4 w b m') (w2.setCell ⟨w.heap.size + 1, 0, none⟩ (.string (tx out))) := hB.setCell (p := ⟨w.heap.size + 1, 0, none⟩) (by simp) _
  simp at hM1
  refine leaves_cons (f := 74) (args := #[.pointer (some ⟨w.heap.size + 1, 0, none⟩)]) (by simp) (by simp [go_sem]) ?_
  refine (answer1_ _ _).mono ?_
  rintro e u' w3 ⟨rfl, rfl, hb3⟩
  have hM3 := mem_below hb3 hM1
  have hB3 : Below w.heap.size (st4 w b m') w3 := below_call hB1 (by have := hB1.size; rw [st4_size] at this; exact this) hb3
  have hC3 := mem_facts hM3
  simp at hC3
  simp [Leaves, settle, results, Tryz.results30, go_sem, hC3]
  exact hB3
set_option maxHeartbeats 2000000 in
set_option maxRecDepth 100000 in
/-- a line of a word alone, the word being one of those that want no rest -/
theorem answerA_ (p q b : Nat) (m m' : M) (word out : List UInt8) (k : Nat) (hk : findW word aloneL = some k) (hw : (32 : UInt8) ∉ word) (w : World) (hp : MapsAt p q w) (hb : BenchAt b m w)
    (hent : ∀ args w, (callFunc k args).run Tryz.prog w = .ok (.enter k args) w) (hdo : ∀ w', BenchAt b m w' → Calls Tryz.prog k #[.pointer (some ⟨b, 0, none⟩)] w' fun e w'' => e = .returned (.string (tx out)) ∧ Below w'.heap.size (st4 w' b m') w'') :
    Calls Tryz.prog 30 #[.agg #[.map (some p), .map (some q)], .pointer (some ⟨b, 0, none⟩), .string (tx word)] w fun e w' => e = .returned (.string (tx out)) ∧ Below w.heap.size (st4 w b m') w' := by
  have hmf : ∀ (fn : Fn) (first cap : Array Value) (w : World), (Instr.makeFunc fn first cap).run Tryz.prog w = .ok (.func fn first cap) w := fun _ _ _ _ => rfl
  have hcut := cut0_ word 32 hw
  have hM := mem_nil w; have hB := Below.refl w.heap.size w; have hC := True.intro
  go_enter_defers Tryz.func30, Tryz.ntmps30
  go_wp2_with (go_at_call 75; refine (hcut _).mono ?_; rintro e w' ⟨rfl, hb⟩; apply after_call (w := w) hb; (focus ((repeat' (first | (with_reducible exact hM) | (with_reducible apply mem_alloc) | (with_reducible apply mem_set) | (with_reducible apply mem_drew) | (with_reducible apply mem_drewN))); done)); (focus ((repeat' (first | (with_reducible exact hB) | (with_reducible exact Below.refl _ _) | (with_reducible refine Below.alloc ?_ ?_ _) | (with_reducible refine Below.setCell ?_ ?_ _) | (with_reducible refine Below.drew ?_) | (with_reducible refine below_drewN ?_ _) | (with_reducible exact Nat.le_refl _) | (with_reducible exact hB.size) | (simp [go_sem]; done) | (have := hB.size; simp [go_sem]; omega))); done)); (focus ((repeat' (first | (with_reducible exact hB) | (with_reducible exact Below.refl _ _) | (with_reducible refine Below.alloc ?_ ?_ _) | (with_reducible refine Below.setCell ?_ ?_ _) | (with_reducible refine Below.drew ?_) | (with_reducible refine below_drewN ?_ _) | (with_reducible exact Nat.le_refl _) | (with_reducible exact hB.size) | (simp [go_sem]; done) | (have := hB.size; simp [go_sem]; omega))); done)); clear hM hB hb; intro hM hB; (try clear hC); have hC := mem_facts hM; simp at hC)
  have hl := run_look Tryz.underlying47 Tryz.underlying9 Tryz.zeroValue80 w' p aloneL aloneL.length word (hp.below hB).1
  rw [hk] at hl
  simp only at hl
  rw [hl]
  simp only [Result.andThen]
  rw [Oper.upon_value]
  go_wp2
  have hbl : b < w.heap.size := mem_lt hb
  refine (hdo _ ((hB.block b hbl).trans hb)).mono ?_
  rintro e w2 ⟨rfl, hb2⟩
  have hM2 := mem_below (by rw [st4_size]; exact hb2) (mem_st4 (b := b) m' hM (by simp; omega))
  have hB2 : Below w.heap.size (st4 w b m') w2 := (st4_below b m' hbl hB).trans (hb2.mono hB.size)
  clear hM hB hC hl
  have hM := hM2
  have hB := hB2
  clear hM2 hB2
  have hC := mem_facts hM
  simp at hC
  go_wp2
  have hM1 := mem_set (w.heap.size + 1) 0 (.string (tx out)) hM
  have hB1 : Below w.heap.size (st4 w b m') (w2.setCell ⟨w.heap.size + 1, 0, none⟩ (.string (tx out))) := hB.setCell (p := ⟨w.heap.size + 1, 0, none⟩) (by simp) _
  simp at hM1
  refine leaves_cons (f := 74) (args := #[.pointer (some ⟨w.heap.size + 1, 0, none⟩)]) (by simp) (by simp [go_sem]) ?_
  refine (answer1_ _ _).mono ?_
  rintro e u' w3 ⟨rfl, rfl, hb3⟩
  have hM3 := mem_below hb3 hM1
  have hB3 : Below w.heap.size (st4 w b m') w3 := below_call hB1 (by have := hB1.size; rw [st4_size] at this; exact this) hb3
  have hC3 := mem_facts hM3
  simp at hC3
  simp [Leaves, settle, results, Tryz.results30, go_sem, hC3]
  exact hB3
end Go.Proofs.YtpalgnfimelioaaGreatDoor

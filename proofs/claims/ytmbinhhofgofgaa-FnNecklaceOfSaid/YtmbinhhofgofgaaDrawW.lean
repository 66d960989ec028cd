
/- The draws of words and of two numbers, for every slice of bytes. -/
import Derived.Test.YtmbinhhofgofgaaDrawG
import Derived.Test.YtmbinhhofgofgaaSpecX
import Derived.Deep.DeepCutAuto
namespace Go.Proofs.Ytmbinhhofgofgaa
open Go.RowKit

/-- a text of at most 100 letters; nothing that was there has changed -/
def TextPost (w : World) (e : Ending) (w' : World) : Prop := ∃ s : ByteArray, e = .returned (.string s) ∧ s.size ≤ 100 ∧ Below w.heap.size w w'
def NumsPost (w : World) (e : Ending) (w' : World) : Prop := ∃ p q : Int, e = .returned (.tuple #[.int .i64 p, .int .i64 q]) ∧ Below w.heap.size w w'
theorem word14 (R B q : Nat) (w : World) (hB : B ≤ w.heap.size) (hR : Rdr w R B q) (hq : q ≤ 800000) : Calls Try.prog 42 #[.pointer (some ⟨R, 0, none⟩), .int .i64 14] w (DPost (IsText 100) R B (q + 60) w) := l91Word_ R B q 14 w (by decide) hB hR hq
theorem word12 (R B q : Nat) (w : World) (hB : B ≤ w.heap.size) (hR : Rdr w R B q) (hq : q ≤ 800000) : Calls Try.prog 42 #[.pointer (some ⟨R, 0, none⟩), .int .i64 12] w (DPost (IsText 100) R B (q + 60) w) := l91Word_ R B q 12 w (by decide) hB hR hq
theorem l91Text_ (A : Option Addr) (len cap : Nat) (zs : List Int) (w : World) (hRow : RowB .u8 w w.heap.size A len cap zs) : Calls Try.prog 19 #[.slice A len cap] w (TextPost w) := by
  have hM := mem_nil w; have hB := Below.refl w.heap.size w; have hC := True.intro
  go_enter Try.func19, Try.ntmps19
  go_wp2_with (first | (go_at_call 32; apply use_open (w := w) hRow; (focus ((repeat' (first | (with_reducible exact hM) | (with_reducible apply mem_alloc) | (with_reducible apply mem_set) | (with_reducible apply mem_drew) | (with_reducible apply mem_drewN))); done)); (focus ((repeat' (first | (with_reducible exact hB) | (with_reducible exact Below.refl _ _) | (with_reducible refine Below.alloc ?_ ?_ _) | (with_reducible refine Below.setCell ?_ ?_ _) | (with_reducible refine Below.drew ?_) | (with_reducible refine below_drewN ?_ _) | (with_reducible exact Nat.le_refl _) | (with_reducible exact hB.size) | (simp [go_sem]; done) | (have := hB.size; simp [go_sem]; omega))); done)); (focus ((repeat' (first | (with_reducible exact hB) | (with_reducible exact Below.refl _ _) | (with_reducible refine Below.alloc ?_ ?_ _) | (with_reducible refine Below.setCell ?_ ?_ _) | (with_reducible refine Below.drew ?_) | (with_reducible refine below_drewN ?_ _) | (with_reducible exact Nat.le_refl _) | (with_reducible exact hB.size) | (simp [go_sem]; done) | (have := hB.size; simp [go_sem]; omega))); done)); (focus (simp; done)); rintro R w' hI hRge; clear hM hB; (try simp at hI); (try clear hC); have hC := mem_facts hI.1; simp at hC) | (go_at_call 42; apply use_rd (w := w) (R := R) (fun hb hr hq => word14 _ _ _ _ hb hr hq); (focus ((repeat' (first | (with_reducible exact hI) | (with_reducible apply inv_alloc) | (with_reducible apply inv_drew) | (with_reducible apply inv_drewN) | (with_reducible apply inv_set) | (simp only [setL_map]; simp; done) | (simp; done))); done)); (focus omega); rintro v' w' ⟨s, rfl, hs⟩; clear hI; intro hI; (try simp at hI); (try clear hC); have hC := mem_facts hI.1; simp at hC))
  go_ret
  exact ⟨_, rfl, hs, hI.2.2.1.below hRge⟩
theorem use_textrow {P : Program} {f : FuncId} {w W : World} {a : Option Addr} {len cap : Nat} {zs : List Int} {Q : Ending → World → Prop} (hRow : RowB .u8 w w.heap.size a len cap zs)
    (hc : ∀ W : World, RowB .u8 W W.heap.size a len cap zs → Calls P f #[.slice a len cap] W (TextPost W)) (hB : Below w.heap.size w W) (hs : w.heap.size ≤ W.heap.size)
    (h : ∀ s w', s.size ≤ 100 → Below W.heap.size W w' → Q (.returned (.string s)) w') : Calls P f #[.slice a len cap] W Q :=
  (hc W (hRow.at_ hB hs)).mono fun e w' ⟨s, he, h1, hb⟩ => by rw [he]; exact h s w' h1 hb
theorem use_numsrow {P : Program} {f : FuncId} {w W : World} {a : Option Addr} {len cap : Nat} {zs : List Int} {Q : Ending → World → Prop} (hRow : RowB .u8 w w.heap.size a len cap zs)
    (hc : ∀ W : World, RowB .u8 W W.heap.size a len cap zs → Calls P f #[.slice a len cap] W (NumsPost W)) (hB : Below w.heap.size w W) (hs : w.heap.size ≤ W.heap.size)
    (h : ∀ p q w', Below W.heap.size W w' → Q (.returned (.tuple #[.int .i64 p, .int .i64 q])) w') : Calls P f #[.slice a len cap] W Q :=
  (hc W (hRow.at_ hB hs)).mono fun e w' ⟨p, q, he, hb⟩ => by rw [he]; exact h p q w' hb
end Go.Proofs.Ytmbinhhofgofgaa

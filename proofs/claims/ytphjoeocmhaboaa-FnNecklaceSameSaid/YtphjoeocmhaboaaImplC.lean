
/- Powers, as the program makes them: one factor at a time, till a power stays the same. -/
import Derived.Test.YtphjoeocmhaboaaImplBack
import Derived.Deep.LoopGhost
namespace Go.Proofs.Ytphjoeocmhaboaa
open Go.RowKit

/-- at the head of round j of 'power': the counter, the power so far, the walk's own blocks -/
def PwRel (m : M) (k : Nat) (w w0 : World) (v : Value) (wr : World) : Prop := ∃ j : Nat, j ≤ k ∧ v = .int .i64 j ∧ pok m j = true ∧
  Mem wr [(w0.heap.size, #[.int .i64 (pw m j).a, .int .i64 (pw m j).b, .int .i64 (pw m j).c, .int .i64 (pw m j).d], 24),
    (w.heap.size + 1, #[.int .i64 0, .int .i64 0, .int .i64 0, .int .i64 0], 24), (w.heap.size, #[.int .i64 m.a, .int .i64 m.b, .int .i64 m.c, .int .i64 m.d], 24)] ∧ Below w.heap.size w wr

theorem pok_succ {m : M} {j : Nat} (h : pok m j = true) : pok m (j + 1) = inB (tm m (pw m j)) := by simp [pok, h, pw]
theorem pok_no {m : M} {j : Nat} (h : pok m j = false) : ∀ n, pok m (j + n) = false
  | 0 => h
  | n + 1 => by show (pok m (j + n) && _) = false; rw [pok_no h n]; rfl
theorem pw_same {m : M} {j : Nat} (h : pok m j = true) (h' : inB (pw m j) = true) (e : tm m (pw m j) = pw m j) : ∀ n, pw m (j + n) = pw m j ∧ pok m (j + n) = true
  | 0 => ⟨rfl, h⟩
  | n + 1 => by
    obtain ⟨h1, h2⟩ := pw_same h h' e n
    have h3 : pw m (j + n + 1) = pw m j := by show tm m (pw m (j + n)) = _; rw [h1, e]
    exact ⟨h3, by show (pok m (j + n) && inB (pw m (j + n + 1))) = true; rw [h2, h3, h']; rfl⟩

/-- the program's power by any number -/
def mmp (m : M) (k : Int) : M × Bool :=
  if inB m = true ∧ -50 ≤ k ∧ k ≤ 50 then (if 0 ≤ k then mpw m k.toNat else if whB m then mpw (bki m) (-k).toNat else (zm, false)) else (zm, false)
end Go.Proofs.Ytphjoeocmhaboaa


/- The short form of a positive form, walked: the program's chain of moved forms. Under the form's being positive. -/
import Derived.Test.YtdfclikobfjnoaaFoC
namespace Go.Proofs.Ytdfclikobfjnoaa
open Go.RowKit

/-- at the head of a round -/
def SoRel (f : F3) (w : World) (gk : Nat) (v : Value) (wr : World) : Prop := ∃ ms : List M, Way wr f ms v ∧ gF (wayF f ms) ∧ bF (wayF f ms) ∧ msF (wayF f ms) = gk ∧ sfF (wayF f ms) = sfF f ∧
  Mem wr [(w.heap.size + 1, #[.int .i64 0, .int .i64 0, .int .i64 0], 24)] ∧ Below w.heap.size w wr
theorem g_bd {f : F3} (hg : gF f) (hb : bF f) : (1 ≤ f.a ∧ f.a ≤ 10000) ∧ (-20000 < f.b ∧ f.b < 20000) ∧ (1 ≤ f.c ∧ f.c ≤ 10000) := ⟨⟨hg.1, hb.1⟩, b_b hg hb, g_c hg, hb.2⟩
theorem way_form {W : World} {f : F3} {ms : List M} {v : Value} (h : Way W f ms v) : ∃ (t : TypeId) (b : Nat), v = .iface t (.pointer (some ⟨b, 0, none⟩)) := by
  cases ms with
  | nil => obtain ⟨b, e, _⟩ := h; exact ⟨_, b, e⟩
  | cons m ms => obtain ⟨b, u, e, _⟩ := h; exact ⟨_, b, e⟩
/-- the short form of a positive one, and true; else nothing -/
def fShr (f : F3) : F3 × Bool := if inF f && posB f then (sfF f, true) else (zF, false)
def sameF (f g : F3) : Bool := f.a == g.a && (f.b == g.b && f.c == g.c)
theorem sameF_iff {f g : F3} : sameF f g = true ↔ f = g := by
  simp only [sameF, Bool.and_eq_true, beq_iff_eq]
  exact ⟨fun ⟨h1, h2, h3⟩ => F3.ext' h1 h2 h3, fun h => by subst h; exact ⟨rfl, rfl, rfl⟩⟩
/-- whether both are positive, with the same short form -/
def fSam (f g : F3) : Bool := (fShr f).2 && ((fShr g).2 && sameF (fShr f).1 (fShr g).1)
end Go.Proofs.Ytdfclikobfjnoaa

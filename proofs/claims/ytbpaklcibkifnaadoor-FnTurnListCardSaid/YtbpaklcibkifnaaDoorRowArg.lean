
/- An argument that is a slice of ints reads as numbers. No condition. -/
import Derived.Test.YtbpaklcibkifnaaDoorTurnR
import Derived.Test.YtbpaklcibkifnaaDoorArg
namespace Go.Proofs.YtbpaklcibkifnaaDoor
open Go.RowKit

theorem rdO_arg {W : World} {a : Option Addr} {len cap : Nat} {zs : List Int} (h : IsRow .i64 W a len cap zs) : RdO W (.slice a len cap) (zs.take len) := by
  rcases h with ⟨rfl, rfl, rfl, rfl⟩ | ⟨x, rfl, h1, _, h3, h4, _⟩
  · exact ⟨none, 0, rfl, Nat.le_refl _, fun j hj => absurd hj (by simp)⟩
  · have hl : (zs.take len).length = len := by simp; omega
    refine ⟨some x, cap, by rw [hl], by omega, fun j hj => ?_⟩
    have hj' : j < len := by omega
    obtain ⟨b, off, spot⟩ := x
    have c0 := h4 j (by omega)
    have hspot : spot = none := by simpa [Addr.add] using World.cell?_spot (h4 0 (by omega))
    subst hspot
    refine ⟨b, off, rfl, ?_⟩
    rw [Addr.add_lit] at c0
    rw [c0]
    simp [List.getD, hj']
end Go.Proofs.YtbpaklcibkifnaaDoor


/- Matrices that are drawn. -/
import Derived.Test.YtmcpchockjcjhaaDrawD
import Derived.Deep.DeepCutAuto
namespace Go.Proofs.Ytmcpchockjcjhaa
open Go.RowKit

theorem use_l2Mat {s : ByteArray} {W : World} {Q : Ending → World → Prop} (hs : s.size ≤ 1000) (h : ∀ a b c d w', Below W.heap.size W w' → Q (.returned (.agg #[.int .i64 a, .int .i64 b, .int .i64 c, .int .i64 d])) w') : Calls Try.prog 58 #[.string s] W Q :=
  (l2Mat_ s hs W).mono fun e w' ⟨a, b, c, d, he, hb⟩ => by rw [he]; exact h a b c d w' hb
/-- a matrix in block g, the result's block behind it -/
def EvRel (R B q : Nat) (w : World) (g : Nat) (wx : World) : Prop := ∃ a b c d : Int,
  Inv R B q w wx [(g, #[.int .i64 a, .int .i64 b, .int .i64 c, .int .i64 d], 39), (w.heap.size, #[.int .i64 0, .int .i64 0, .int .i64 0, .int .i64 0], 39)]
theorem inv_to {R B q q' : Nat} {w W : World} {L L' : List (Nat × Array Value × TypeId)} (h : Inv R B q w W L) (hq : q ≤ q') (e : L = L') : Inv R B q' w W L' := by subst e; exact inv_mono h hq

theorem ev_use {R B q q' g : Nat} {w W : World} {L : List (Nat × Array Value × TypeId)} (h : Inv R B q' w W L) (k : Inv R B q' w W L → EvRel R B q w g W) : EvRel R B q w g W := k h
theorem dpost_use {R B q q' : Nat} {w W : World} {L : List (Nat × Array Value × TypeId)} {Good : Value → Prop} {v : Value} (h : Inv R B q' w W L) (k : Inv R B q' w W L → DPost Good R B q w (.returned v) W) : DPost Good R B q w (.returned v) W := k h
end Go.Proofs.Ytmcpchockjcjhaa

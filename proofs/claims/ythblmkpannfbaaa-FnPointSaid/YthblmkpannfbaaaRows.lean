/-
  No cell of these rows narrows 'for every input' (looked for: loops, veiled, ifaces, maps, wideKeys, modest, calm, conditions, laid).
  DERIVED. THE GIVEN ROWS OF THIS SEAT. 4 by the template 'for every input the law returns true; each argument reads behind the call as it read before'; 0 by the template 'total and deterministic' (their statements: YthblmkpannfbaaaTotals.lean).
  GIVEN WITH THE SEED: the statements are not yours to turn. If you find one false, say at which input.
  Laid BY PROGRAM, IN A SANDBOX (cutbox-rows.mjs): the forced cells as the released guide's own fill.sh prints them over the translation 933d2690145a79fc… (all of the seat's roots in one cut). By AI agents, Wed Nov 11 2026. No macro, syntax, notation, axiom, sorry.
-/
import Derived.Test.YthblmkpannfbaaaChecked
import GoSem.Claim
import GoSem.ClaimJoined
import GoSem.ClaimMapViews
import Derived.JoinedTies
import Derived.KernelRfl
namespace Go.Proofs.Ythblmkpannfbaaa
/- THE CELL 'sum', in the pinned program and in every row, IS THE sha256 OF THE DUMP (.gsa) THAT YthblmkpannfbaaaProg.lean LOADS. Nothing in Lean hashes anything: it is a label: what it is worth is what the hold of that sum in a sandbox is worth. -/
noncomputable def Try.pinned : Pinned := { name := "ythblmkpannfbaaa", sum := "933d2690145a79fc3bd2675732d7e4068871df6a90100261e2cdfc3420a3c830", checked := Try.checked }
namespace Rows
def none {H : Type} : Left H := { results := [], args := [] }

/-- 'laws.FnRest': WHATEVER THE INPUT: true; the input reads as it did. -/
def fnRestSpec : ChangeSpec := { name := "fnRest", fn := fun _ => fun
  | [d] => { results := [.lit (.bool true)], args := [d] }
  | _ => none }
def fnRestRow : OpenClaim := { program := "ythblmkpannfbaaa", sum := "933d2690145a79fc3bd2675732d7e4068871df6a90100261e2cdfc3420a3c830", func := "loop.example/tworows/laws.FnRest", spec := "fnRest", apart := false }
def FnRestSaid : Prop := fnRestRow.holds Try.pinned (OpenSpec.ofChange fnRestSpec)

/-- ITS FALSE NEIGHBOUR: 'it returns false'. Refute it at one input. -/
def fnRestWrong : ChangeSpec := { name := "fnRest", fn := fun _ => fun
  | [d] => { results := [.lit (.bool false)], args := [d] }
  | _ => none }
def FnRestWrongFalsely : Prop := fnRestRow.holds Try.pinned (OpenSpec.ofChange fnRestWrong)

/-- 'laws.FnRestEven': WHATEVER THE INPUT: true; the input reads as it did. -/
def fnRestEvenSpec : ChangeSpec := { name := "fnRestEven", fn := fun _ => fun
  | [d] => { results := [.lit (.bool true)], args := [d] }
  | _ => none }
def fnRestEvenRow : OpenClaim := { program := "ythblmkpannfbaaa", sum := "933d2690145a79fc3bd2675732d7e4068871df6a90100261e2cdfc3420a3c830", func := "loop.example/tworows/laws.FnRestEven", spec := "fnRestEven", apart := false }
def FnRestEvenSaid : Prop := fnRestEvenRow.holds Try.pinned (OpenSpec.ofChange fnRestEvenSpec)

/-- ITS FALSE NEIGHBOUR: 'it returns false'. Refute it at one input. -/
def fnRestEvenWrong : ChangeSpec := { name := "fnRestEven", fn := fun _ => fun
  | [d] => { results := [.lit (.bool false)], args := [d] }
  | _ => none }
def FnRestEvenWrongFalsely : Prop := fnRestEvenRow.holds Try.pinned (OpenSpec.ofChange fnRestEvenWrong)

/-- 'laws.FnPoint': WHATEVER THE INPUT: true; the input reads as it did. -/
def fnPointSpec : ChangeSpec := { name := "fnPoint", fn := fun _ => fun
  | [d] => { results := [.lit (.bool true)], args := [d] }
  | _ => none }
def fnPointRow : OpenClaim := { program := "ythblmkpannfbaaa", sum := "933d2690145a79fc3bd2675732d7e4068871df6a90100261e2cdfc3420a3c830", func := "loop.example/tworows/laws.FnPoint", spec := "fnPoint", unfollowed := true, recurses := true, apart := false }
def FnPointSaid : Prop := fnPointRow.holds Try.pinned (OpenSpec.ofChange fnPointSpec)

/-- ITS FALSE NEIGHBOUR: 'it returns false'. Refute it at one input. -/
def fnPointWrong : ChangeSpec := { name := "fnPoint", fn := fun _ => fun
  | [d] => { results := [.lit (.bool false)], args := [d] }
  | _ => none }
def FnPointWrongFalsely : Prop := fnPointRow.holds Try.pinned (OpenSpec.ofChange fnPointWrong)

/-- 'laws.FnRestMove': WHATEVER THE INPUT: true; the input reads as it did. -/
def fnRestMoveSpec : ChangeSpec := { name := "fnRestMove", fn := fun _ => fun
  | [d] => { results := [.lit (.bool true)], args := [d] }
  | _ => none }
def fnRestMoveRow : OpenClaim := { program := "ythblmkpannfbaaa", sum := "933d2690145a79fc3bd2675732d7e4068871df6a90100261e2cdfc3420a3c830", func := "loop.example/tworows/laws.FnRestMove", spec := "fnRestMove", unfollowed := true, recurses := true, apart := false }
def FnRestMoveSaid : Prop := fnRestMoveRow.holds Try.pinned (OpenSpec.ofChange fnRestMoveSpec)

/-- ITS FALSE NEIGHBOUR: 'it returns false'. Refute it at one input. -/
def fnRestMoveWrong : ChangeSpec := { name := "fnRestMove", fn := fun _ => fun
  | [d] => { results := [.lit (.bool false)], args := [d] }
  | _ => none }
def FnRestMoveWrongFalsely : Prop := fnRestMoveRow.holds Try.pinned (OpenSpec.ofChange fnRestMoveWrong)

/- THE SECOND FORM. 'bulk': how many values and letters a reading holds, each counted each time it is reached (what is shared counts as often as it is met; a slice's spare places count too). A statement '..UptoSaid' is the law's where the arguments, and the package variables that the reading takes, are together of bulk at most 1048576: NARROWER than '..Said'. Prove '..Said' where nothing that the law and all that it calls make is longer than what came in: it says more and counts as full. Else prove '..UptoSaid'. A law counts once. -/
mutual
def uptoBulk {H : Type} : DataW H → Nat
  | .lit (.string bytes) => bytes.length + 1
  | .lit _ => 1
  | .nil => 1
  | .ptr d => uptoBulk d + 1
  | .slice elems spare => uptoBulkAll elems + uptoBulkAll spare + 1
  | .agg parts => uptoBulkAll parts + 1
  | .iface _ d => uptoBulk d + 1
  | .map entries => uptoBulkEntries entries + 1
  | .held _ => 1
def uptoBulkAll {H : Type} : List (DataW H) → Nat
  | [] => 0
  | d :: r => uptoBulk d + uptoBulkAll r
def uptoBulkEntries {H : Type} : List (Lit × DataW H) → Nat
  | [] => 0
  | x :: r => uptoBulkEntry x + uptoBulkEntries r
def uptoBulkEntry {H : Type} : Lit × DataW H → Nat
  | (.string bytes, d) => bytes.length + uptoBulk d + 1
  | (_, d) => uptoBulk d + 1
 end
def uptoSmall : (H : Type) → List (DataW H) → Bool := fun _ ds => decide (uptoBulkAll ds ≤ 1048576)
def OpenSpec.upto (s : _root_.Go.ChangeSpec) : _root_.Go.OpenSpec := { _root_.Go.OpenSpec.ofChange s with cond := some uptoSmall }

/-- 'laws.FnRest', WHERE WHAT IT READS IS OF BULK AT MOST 1048576: true; the input reads as it did. -/
def fnRestUptoRow : OpenClaim := { program := "ythblmkpannfbaaa", sum := "933d2690145a79fc3bd2675732d7e4068871df6a90100261e2cdfc3420a3c830", func := "loop.example/tworows/laws.FnRest", spec := "fnRest", apart := false, narrowed := true }
def FnRestUptoSaid : Prop := fnRestUptoRow.holds Try.pinned (OpenSpec.upto fnRestSpec)

/-- 'laws.FnRestEven', WHERE WHAT IT READS IS OF BULK AT MOST 1048576: true; the input reads as it did. -/
def fnRestEvenUptoRow : OpenClaim := { program := "ythblmkpannfbaaa", sum := "933d2690145a79fc3bd2675732d7e4068871df6a90100261e2cdfc3420a3c830", func := "loop.example/tworows/laws.FnRestEven", spec := "fnRestEven", apart := false, narrowed := true }
def FnRestEvenUptoSaid : Prop := fnRestEvenUptoRow.holds Try.pinned (OpenSpec.upto fnRestEvenSpec)

/-- 'laws.FnPoint', WHERE WHAT IT READS IS OF BULK AT MOST 1048576: true; the input reads as it did. -/
def fnPointUptoRow : OpenClaim := { program := "ythblmkpannfbaaa", sum := "933d2690145a79fc3bd2675732d7e4068871df6a90100261e2cdfc3420a3c830", func := "loop.example/tworows/laws.FnPoint", spec := "fnPoint", unfollowed := true, recurses := true, apart := false, narrowed := true }
def FnPointUptoSaid : Prop := fnPointUptoRow.holds Try.pinned (OpenSpec.upto fnPointSpec)

/-- 'laws.FnRestMove', WHERE WHAT IT READS IS OF BULK AT MOST 1048576: true; the input reads as it did. -/
def fnRestMoveUptoRow : OpenClaim := { program := "ythblmkpannfbaaa", sum := "933d2690145a79fc3bd2675732d7e4068871df6a90100261e2cdfc3420a3c830", func := "loop.example/tworows/laws.FnRestMove", spec := "fnRestMove", unfollowed := true, recurses := true, apart := false, narrowed := true }
def FnRestMoveUptoSaid : Prop := fnRestMoveUptoRow.holds Try.pinned (OpenSpec.upto fnRestMoveSpec)

end Rows
end Go.Proofs.Ythblmkpannfbaaa

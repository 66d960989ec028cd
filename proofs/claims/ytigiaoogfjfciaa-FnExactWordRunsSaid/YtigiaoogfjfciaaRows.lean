/-
  No cell of these rows narrows 'for every input' (looked for: loops, veiled, ifaces, maps, wideKeys, modest, calm, conditions, laid).
  DERIVED. THE GIVEN ROWS OF THIS SEAT. 8 by the template 'for every input the law returns true; each argument reads behind the call as it read before'; 0 by the template 'total and deterministic' (their statements: YtigiaoogfjfciaaTotals.lean).
  GIVEN WITH THE SEED: the statements are not yours to turn. If you find one false, say at which input.
  Laid BY PROGRAM, IN A SANDBOX (cutbox-rows.mjs): the forced cells as the released guide's own fill.sh prints them over the translation d8861f269d470e59… (all of the seat's roots in one cut). By AI agents, Wed Nov 11 2026. No macro, syntax, notation, axiom, sorry.
-/
import Derived.Test.YtigiaoogfjfciaaChecked
import GoSem.Claim
import GoSem.ClaimJoined
import GoSem.ClaimMapViews
import Derived.JoinedTies
import Derived.KernelRfl
namespace Go.Proofs.Ytigiaoogfjfciaa
/- THE CELL 'sum', in the pinned program and in every row, IS THE sha256 OF THE DUMP (.gsa) THAT YtigiaoogfjfciaaProg.lean LOADS. Nothing in Lean hashes anything: it is a label: what it is worth is what the hold of that sum in a sandbox is worth. -/
noncomputable def Try.pinned : Pinned := { name := "ytigiaoogfjfciaa", sum := "d8861f269d470e599c6eadd15f1674055ed924e9e8f4b32e9e8c143fc7a27714", checked := Try.checked }
namespace Rows
def none {H : Type} : Left H := { results := [], args := [] }

/-- 'laws.FnExactWordIn': WHATEVER THE INPUT: true; the input reads as it did. -/
def fnExactWordInSpec : ChangeSpec := { name := "fnExactWordIn", fn := fun _ => fun
  | [d] => { results := [.lit (.bool true)], args := [d] }
  | _ => none }
def fnExactWordInRow : OpenClaim := { program := "ytigiaoogfjfciaa", sum := "d8861f269d470e599c6eadd15f1674055ed924e9e8f4b32e9e8c143fc7a27714", func := "loop.example/tworows/laws.FnExactWordIn", spec := "fnExactWordIn", unfollowed := true, recurses := true, apart := false }
def FnExactWordInSaid : Prop := fnExactWordInRow.holds Try.pinned (OpenSpec.ofChange fnExactWordInSpec)

/-- ITS FALSE NEIGHBOUR: 'it returns false'. Refute it at one input. -/
def fnExactWordInWrong : ChangeSpec := { name := "fnExactWordIn", fn := fun _ => fun
  | [d] => { results := [.lit (.bool false)], args := [d] }
  | _ => none }
def FnExactWordInWrongFalsely : Prop := fnExactWordInRow.holds Try.pinned (OpenSpec.ofChange fnExactWordInWrong)

/-- 'laws.FnExactWordMat': WHATEVER THE INPUT: true; the input reads as it did. -/
def fnExactWordMatSpec : ChangeSpec := { name := "fnExactWordMat", fn := fun _ => fun
  | [d] => { results := [.lit (.bool true)], args := [d] }
  | _ => none }
def fnExactWordMatRow : OpenClaim := { program := "ytigiaoogfjfciaa", sum := "d8861f269d470e599c6eadd15f1674055ed924e9e8f4b32e9e8c143fc7a27714", func := "loop.example/tworows/laws.FnExactWordMat", spec := "fnExactWordMat", unfollowed := true, recurses := true, apart := false }
def FnExactWordMatSaid : Prop := fnExactWordMatRow.holds Try.pinned (OpenSpec.ofChange fnExactWordMatSpec)

/-- ITS FALSE NEIGHBOUR: 'it returns false'. Refute it at one input. -/
def fnExactWordMatWrong : ChangeSpec := { name := "fnExactWordMat", fn := fun _ => fun
  | [d] => { results := [.lit (.bool false)], args := [d] }
  | _ => none }
def FnExactWordMatWrongFalsely : Prop := fnExactWordMatRow.holds Try.pinned (OpenSpec.ofChange fnExactWordMatWrong)

/-- 'laws.FnExactWordOf': WHATEVER THE INPUT: true; the input reads as it did. -/
def fnExactWordOfSpec : ChangeSpec := { name := "fnExactWordOf", fn := fun _ => fun
  | [d] => { results := [.lit (.bool true)], args := [d] }
  | _ => none }
def fnExactWordOfRow : OpenClaim := { program := "ytigiaoogfjfciaa", sum := "d8861f269d470e599c6eadd15f1674055ed924e9e8f4b32e9e8c143fc7a27714", func := "loop.example/tworows/laws.FnExactWordOf", spec := "fnExactWordOf", unfollowed := true, recurses := true, apart := false }
def FnExactWordOfSaid : Prop := fnExactWordOfRow.holds Try.pinned (OpenSpec.ofChange fnExactWordOfSpec)

/-- ITS FALSE NEIGHBOUR: 'it returns false'. Refute it at one input. -/
def fnExactWordOfWrong : ChangeSpec := { name := "fnExactWordOf", fn := fun _ => fun
  | [d] => { results := [.lit (.bool false)], args := [d] }
  | _ => none }
def FnExactWordOfWrongFalsely : Prop := fnExactWordOfRow.holds Try.pinned (OpenSpec.ofChange fnExactWordOfWrong)

/-- 'laws.FnExactWordFraction': WHATEVER THE INPUT: true; the input reads as it did. -/
def fnExactWordFractionSpec : ChangeSpec := { name := "fnExactWordFraction", fn := fun _ => fun
  | [d] => { results := [.lit (.bool true)], args := [d] }
  | _ => none }
def fnExactWordFractionRow : OpenClaim := { program := "ytigiaoogfjfciaa", sum := "d8861f269d470e599c6eadd15f1674055ed924e9e8f4b32e9e8c143fc7a27714", func := "loop.example/tworows/laws.FnExactWordFraction", spec := "fnExactWordFraction", unfollowed := true, recurses := true, apart := false }
def FnExactWordFractionSaid : Prop := fnExactWordFractionRow.holds Try.pinned (OpenSpec.ofChange fnExactWordFractionSpec)

/-- ITS FALSE NEIGHBOUR: 'it returns false'. Refute it at one input. -/
def fnExactWordFractionWrong : ChangeSpec := { name := "fnExactWordFraction", fn := fun _ => fun
  | [d] => { results := [.lit (.bool false)], args := [d] }
  | _ => none }
def FnExactWordFractionWrongFalsely : Prop := fnExactWordFractionRow.holds Try.pinned (OpenSpec.ofChange fnExactWordFractionWrong)

/-- 'laws.FnExactWordTo': WHATEVER THE INPUT: true; the input reads as it did. -/
def fnExactWordToSpec : ChangeSpec := { name := "fnExactWordTo", fn := fun _ => fun
  | [d1, d2] => { results := [.lit (.bool true)], args := [d1, d2] }
  | _ => none }
def fnExactWordToRow : OpenClaim := { program := "ytigiaoogfjfciaa", sum := "d8861f269d470e599c6eadd15f1674055ed924e9e8f4b32e9e8c143fc7a27714", func := "loop.example/tworows/laws.FnExactWordTo", spec := "fnExactWordTo", unfollowed := true, recurses := true, apart := false }
def FnExactWordToSaid : Prop := fnExactWordToRow.holds Try.pinned (OpenSpec.ofChange fnExactWordToSpec)

/-- ITS FALSE NEIGHBOUR: 'it returns false'. Refute it at one input. -/
def fnExactWordToWrong : ChangeSpec := { name := "fnExactWordTo", fn := fun _ => fun
  | [d1, d2] => { results := [.lit (.bool false)], args := [d1, d2] }
  | _ => none }
def FnExactWordToWrongFalsely : Prop := fnExactWordToRow.holds Try.pinned (OpenSpec.ofChange fnExactWordToWrong)

/-- 'laws.FnExactWordRuns': WHATEVER THE INPUT: true; the input reads as it did. -/
def fnExactWordRunsSpec : ChangeSpec := { name := "fnExactWordRuns", fn := fun _ => fun
  | [d] => { results := [.lit (.bool true)], args := [d] }
  | _ => none }
def fnExactWordRunsRow : OpenClaim := { program := "ytigiaoogfjfciaa", sum := "d8861f269d470e599c6eadd15f1674055ed924e9e8f4b32e9e8c143fc7a27714", func := "loop.example/tworows/laws.FnExactWordRuns", spec := "fnExactWordRuns", unfollowed := true, recurses := true, apart := false }
def FnExactWordRunsSaid : Prop := fnExactWordRunsRow.holds Try.pinned (OpenSpec.ofChange fnExactWordRunsSpec)

/-- ITS FALSE NEIGHBOUR: 'it returns false'. Refute it at one input. -/
def fnExactWordRunsWrong : ChangeSpec := { name := "fnExactWordRuns", fn := fun _ => fun
  | [d] => { results := [.lit (.bool false)], args := [d] }
  | _ => none }
def FnExactWordRunsWrongFalsely : Prop := fnExactWordRunsRow.holds Try.pinned (OpenSpec.ofChange fnExactWordRunsWrong)

/-- 'laws.FnExactWordChanged': WHATEVER THE INPUT: true; the input reads as it did. -/
def fnExactWordChangedSpec : ChangeSpec := { name := "fnExactWordChanged", fn := fun _ => fun
  | [d] => { results := [.lit (.bool true)], args := [d] }
  | _ => none }
def fnExactWordChangedRow : OpenClaim := { program := "ytigiaoogfjfciaa", sum := "d8861f269d470e599c6eadd15f1674055ed924e9e8f4b32e9e8c143fc7a27714", func := "loop.example/tworows/laws.FnExactWordChanged", spec := "fnExactWordChanged", unfollowed := true, recurses := true, apart := false }
def FnExactWordChangedSaid : Prop := fnExactWordChangedRow.holds Try.pinned (OpenSpec.ofChange fnExactWordChangedSpec)

/-- ITS FALSE NEIGHBOUR: 'it returns false'. Refute it at one input. -/
def fnExactWordChangedWrong : ChangeSpec := { name := "fnExactWordChanged", fn := fun _ => fun
  | [d] => { results := [.lit (.bool false)], args := [d] }
  | _ => none }
def FnExactWordChangedWrongFalsely : Prop := fnExactWordChangedRow.holds Try.pinned (OpenSpec.ofChange fnExactWordChangedWrong)

/-- 'laws.FnExactWordBack': WHATEVER THE INPUT: true; the input reads as it did. -/
def fnExactWordBackSpec : ChangeSpec := { name := "fnExactWordBack", fn := fun _ => fun
  | [d] => { results := [.lit (.bool true)], args := [d] }
  | _ => none }
def fnExactWordBackRow : OpenClaim := { program := "ytigiaoogfjfciaa", sum := "d8861f269d470e599c6eadd15f1674055ed924e9e8f4b32e9e8c143fc7a27714", func := "loop.example/tworows/laws.FnExactWordBack", spec := "fnExactWordBack", unfollowed := true, recurses := true, apart := false }
def FnExactWordBackSaid : Prop := fnExactWordBackRow.holds Try.pinned (OpenSpec.ofChange fnExactWordBackSpec)

/-- ITS FALSE NEIGHBOUR: 'it returns false'. Refute it at one input. -/
def fnExactWordBackWrong : ChangeSpec := { name := "fnExactWordBack", fn := fun _ => fun
  | [d] => { results := [.lit (.bool false)], args := [d] }
  | _ => none }
def FnExactWordBackWrongFalsely : Prop := fnExactWordBackRow.holds Try.pinned (OpenSpec.ofChange fnExactWordBackWrong)

/- THE SECOND FORM. 'bulk': how many values and letters a reading holds, each counted each time it is reached (what is shared counts as often as it is met; a slice's spare places count too). A statement '..UptoSaid' is the law's where the arguments, and the package variables that the reading takes, are together of bulk at most 1048576: NARROWER than '..Said'. Prove '..Said' where nothing that the law and all that it calls make is longer than what came in: it says more and counts as full. Else prove '..UptoSaid'. A law counts once. -/
mutual
def uptoBulk {H : Type} : DataW H → Nat
  | .lit (.string bytes) => bytes.length + 1
  | .lit _ => 1
  | .nil => 1
  | .ptr d => uptoBulk d + 1
  | .slice elems spare => uptoBulkAll elems + uptoBulkAll spare + 1
  | .agg parts => uptoBulkAll parts + 1
  | .iface _ d => uptoBulk d + 1
  | .map entries => uptoBulkEntries entries + 1
  | .held _ => 1
def uptoBulkAll {H : Type} : List (DataW H) → Nat
  | [] => 0
  | d :: r => uptoBulk d + uptoBulkAll r
def uptoBulkEntries {H : Type} : List (Lit × DataW H) → Nat
  | [] => 0
  | x :: r => uptoBulkEntry x + uptoBulkEntries r
def uptoBulkEntry {H : Type} : Lit × DataW H → Nat
  | (.string bytes, d) => bytes.length + uptoBulk d + 1
  | (_, d) => uptoBulk d + 1
 end
def uptoSmall : (H : Type) → List (DataW H) → Bool := fun _ ds => decide (uptoBulkAll ds ≤ 1048576)
def OpenSpec.upto (s : _root_.Go.ChangeSpec) : _root_.Go.OpenSpec := { _root_.Go.OpenSpec.ofChange s with cond := some uptoSmall }

/-- 'laws.FnExactWordIn', WHERE WHAT IT READS IS OF BULK AT MOST 1048576: true; the input reads as it did. -/
def fnExactWordInUptoRow : OpenClaim := { program := "ytigiaoogfjfciaa", sum := "d8861f269d470e599c6eadd15f1674055ed924e9e8f4b32e9e8c143fc7a27714", func := "loop.example/tworows/laws.FnExactWordIn", spec := "fnExactWordIn", unfollowed := true, recurses := true, apart := false, narrowed := true }
def FnExactWordInUptoSaid : Prop := fnExactWordInUptoRow.holds Try.pinned (OpenSpec.upto fnExactWordInSpec)

/-- 'laws.FnExactWordMat', WHERE WHAT IT READS IS OF BULK AT MOST 1048576: true; the input reads as it did. -/
def fnExactWordMatUptoRow : OpenClaim := { program := "ytigiaoogfjfciaa", sum := "d8861f269d470e599c6eadd15f1674055ed924e9e8f4b32e9e8c143fc7a27714", func := "loop.example/tworows/laws.FnExactWordMat", spec := "fnExactWordMat", unfollowed := true, recurses := true, apart := false, narrowed := true }
def FnExactWordMatUptoSaid : Prop := fnExactWordMatUptoRow.holds Try.pinned (OpenSpec.upto fnExactWordMatSpec)

/-- 'laws.FnExactWordOf', WHERE WHAT IT READS IS OF BULK AT MOST 1048576: true; the input reads as it did. -/
def fnExactWordOfUptoRow : OpenClaim := { program := "ytigiaoogfjfciaa", sum := "d8861f269d470e599c6eadd15f1674055ed924e9e8f4b32e9e8c143fc7a27714", func := "loop.example/tworows/laws.FnExactWordOf", spec := "fnExactWordOf", unfollowed := true, recurses := true, apart := false, narrowed := true }
def FnExactWordOfUptoSaid : Prop := fnExactWordOfUptoRow.holds Try.pinned (OpenSpec.upto fnExactWordOfSpec)

/-- 'laws.FnExactWordFraction', WHERE WHAT IT READS IS OF BULK AT MOST 1048576: true; the input reads as it did. -/
def fnExactWordFractionUptoRow : OpenClaim := { program := "ytigiaoogfjfciaa", sum := "d8861f269d470e599c6eadd15f1674055ed924e9e8f4b32e9e8c143fc7a27714", func := "loop.example/tworows/laws.FnExactWordFraction", spec := "fnExactWordFraction", unfollowed := true, recurses := true, apart := false, narrowed := true }
def FnExactWordFractionUptoSaid : Prop := fnExactWordFractionUptoRow.holds Try.pinned (OpenSpec.upto fnExactWordFractionSpec)

/-- 'laws.FnExactWordTo', WHERE WHAT IT READS IS OF BULK AT MOST 1048576: true; the input reads as it did. -/
def fnExactWordToUptoRow : OpenClaim := { program := "ytigiaoogfjfciaa", sum := "d8861f269d470e599c6eadd15f1674055ed924e9e8f4b32e9e8c143fc7a27714", func := "loop.example/tworows/laws.FnExactWordTo", spec := "fnExactWordTo", unfollowed := true, recurses := true, apart := false, narrowed := true }
def FnExactWordToUptoSaid : Prop := fnExactWordToUptoRow.holds Try.pinned (OpenSpec.upto fnExactWordToSpec)

/-- 'laws.FnExactWordRuns', WHERE WHAT IT READS IS OF BULK AT MOST 1048576: true; the input reads as it did. -/
def fnExactWordRunsUptoRow : OpenClaim := { program := "ytigiaoogfjfciaa", sum := "d8861f269d470e599c6eadd15f1674055ed924e9e8f4b32e9e8c143fc7a27714", func := "loop.example/tworows/laws.FnExactWordRuns", spec := "fnExactWordRuns", unfollowed := true, recurses := true, apart := false, narrowed := true }
def FnExactWordRunsUptoSaid : Prop := fnExactWordRunsUptoRow.holds Try.pinned (OpenSpec.upto fnExactWordRunsSpec)

/-- 'laws.FnExactWordChanged', WHERE WHAT IT READS IS OF BULK AT MOST 1048576: true; the input reads as it did. -/
def fnExactWordChangedUptoRow : OpenClaim := { program := "ytigiaoogfjfciaa", sum := "d8861f269d470e599c6eadd15f1674055ed924e9e8f4b32e9e8c143fc7a27714", func := "loop.example/tworows/laws.FnExactWordChanged", spec := "fnExactWordChanged", unfollowed := true, recurses := true, apart := false, narrowed := true }
def FnExactWordChangedUptoSaid : Prop := fnExactWordChangedUptoRow.holds Try.pinned (OpenSpec.upto fnExactWordChangedSpec)

/-- 'laws.FnExactWordBack', WHERE WHAT IT READS IS OF BULK AT MOST 1048576: true; the input reads as it did. -/
def fnExactWordBackUptoRow : OpenClaim := { program := "ytigiaoogfjfciaa", sum := "d8861f269d470e599c6eadd15f1674055ed924e9e8f4b32e9e8c143fc7a27714", func := "loop.example/tworows/laws.FnExactWordBack", spec := "fnExactWordBack", unfollowed := true, recurses := true, apart := false, narrowed := true }
def FnExactWordBackUptoSaid : Prop := fnExactWordBackUptoRow.holds Try.pinned (OpenSpec.upto fnExactWordBackSpec)

end Rows
end Go.Proofs.Ytigiaoogfjfciaa

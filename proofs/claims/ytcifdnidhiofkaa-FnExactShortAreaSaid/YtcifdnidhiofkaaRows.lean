/-
  No cell of these rows narrows 'for every input' (looked for: loops, veiled, ifaces, maps, wideKeys, modest, calm, conditions, laid).
  DERIVED. THE GIVEN ROWS OF THIS SEAT. 8 by the template 'for every input the law returns true; each argument reads behind the call as it read before'; 0 by the template 'total and deterministic' (their statements: YtcifdnidhiofkaaTotals.lean).
  GIVEN WITH THE SEED: the statements are not yours to turn. If you find one false, say at which input.
  Laid BY PROGRAM, IN A SANDBOX (cutbox-rows.mjs): the forced cells as the released guide's own fill.sh prints them over the translation cc50189516bb58fd… (all of the seat's roots in one cut). By AI agents, Wed Nov 11 2026. No macro, syntax, notation, axiom, sorry.
-/
import Derived.Test.YtcifdnidhiofkaaChecked
import GoSem.Claim
import GoSem.ClaimJoined
import GoSem.ClaimMapViews
import Derived.JoinedTies
import Derived.KernelRfl
namespace Go.Proofs.Ytcifdnidhiofkaa
/- THE CELL 'sum', in the pinned program and in every row, IS THE sha256 OF THE DUMP (.gsa) THAT YtcifdnidhiofkaaProg.lean LOADS. Nothing in Lean hashes anything: it is a label: what it is worth is what the hold of that sum in a sandbox is worth. -/
noncomputable def Try.pinned : Pinned := { name := "ytcifdnidhiofkaa", sum := "cc50189516bb58fda76a4b6c42b3290f74a80875209bb3c45383d09709bfefcc", checked := Try.checked }
namespace Rows
def none {H : Type} : Left H := { results := [], args := [] }

/-- 'laws.FnExactShortLength': WHATEVER THE INPUT: true; the input reads as it did. -/
def fnExactShortLengthSpec : ChangeSpec := { name := "fnExactShortLength", fn := fun _ => fun
  | [d] => { results := [.lit (.bool true)], args := [d] }
  | _ => none }
def fnExactShortLengthRow : OpenClaim := { program := "ytcifdnidhiofkaa", sum := "cc50189516bb58fda76a4b6c42b3290f74a80875209bb3c45383d09709bfefcc", func := "loop.example/tworows/laws.FnExactShortLength", spec := "fnExactShortLength", apart := false }
def FnExactShortLengthSaid : Prop := fnExactShortLengthRow.holds Try.pinned (OpenSpec.ofChange fnExactShortLengthSpec)

/-- ITS FALSE NEIGHBOUR: 'it returns false'. Refute it at one input. -/
def fnExactShortLengthWrong : ChangeSpec := { name := "fnExactShortLength", fn := fun _ => fun
  | [d] => { results := [.lit (.bool false)], args := [d] }
  | _ => none }
def FnExactShortLengthWrongFalsely : Prop := fnExactShortLengthRow.holds Try.pinned (OpenSpec.ofChange fnExactShortLengthWrong)

/-- 'laws.FnExactShortBase': WHATEVER THE INPUT: true; the input reads as it did. -/
def fnExactShortBaseSpec : ChangeSpec := { name := "fnExactShortBase", fn := fun _ => fun
  | [d1, d2] => { results := [.lit (.bool true)], args := [d1, d2] }
  | _ => none }
def fnExactShortBaseRow : OpenClaim := { program := "ytcifdnidhiofkaa", sum := "cc50189516bb58fda76a4b6c42b3290f74a80875209bb3c45383d09709bfefcc", func := "loop.example/tworows/laws.FnExactShortBase", spec := "fnExactShortBase", unfollowed := true, recurses := true, apart := false }
def FnExactShortBaseSaid : Prop := fnExactShortBaseRow.holds Try.pinned (OpenSpec.ofChange fnExactShortBaseSpec)

/-- ITS FALSE NEIGHBOUR: 'it returns false'. Refute it at one input. -/
def fnExactShortBaseWrong : ChangeSpec := { name := "fnExactShortBase", fn := fun _ => fun
  | [d1, d2] => { results := [.lit (.bool false)], args := [d1, d2] }
  | _ => none }
def FnExactShortBaseWrongFalsely : Prop := fnExactShortBaseRow.holds Try.pinned (OpenSpec.ofChange fnExactShortBaseWrong)

/-- 'laws.FnExactShortIs': WHATEVER THE INPUT: true; the input reads as it did. -/
def fnExactShortIsSpec : ChangeSpec := { name := "fnExactShortIs", fn := fun _ => fun
  | [d1, d2] => { results := [.lit (.bool true)], args := [d1, d2] }
  | _ => none }
def fnExactShortIsRow : OpenClaim := { program := "ytcifdnidhiofkaa", sum := "cc50189516bb58fda76a4b6c42b3290f74a80875209bb3c45383d09709bfefcc", func := "loop.example/tworows/laws.FnExactShortIs", spec := "fnExactShortIs", apart := false }
def FnExactShortIsSaid : Prop := fnExactShortIsRow.holds Try.pinned (OpenSpec.ofChange fnExactShortIsSpec)

/-- ITS FALSE NEIGHBOUR: 'it returns false'. Refute it at one input. -/
def fnExactShortIsWrong : ChangeSpec := { name := "fnExactShortIs", fn := fun _ => fun
  | [d1, d2] => { results := [.lit (.bool false)], args := [d1, d2] }
  | _ => none }
def FnExactShortIsWrongFalsely : Prop := fnExactShortIsRow.holds Try.pinned (OpenSpec.ofChange fnExactShortIsWrong)

/-- 'laws.FnExactShortLeast': WHATEVER THE INPUT: true; the input reads as it did. -/
def fnExactShortLeastSpec : ChangeSpec := { name := "fnExactShortLeast", fn := fun _ => fun
  | [d1, d2] => { results := [.lit (.bool true)], args := [d1, d2] }
  | _ => none }
def fnExactShortLeastRow : OpenClaim := { program := "ytcifdnidhiofkaa", sum := "cc50189516bb58fda76a4b6c42b3290f74a80875209bb3c45383d09709bfefcc", func := "loop.example/tworows/laws.FnExactShortLeast", spec := "fnExactShortLeast", unfollowed := true, recurses := true, apart := false }
def FnExactShortLeastSaid : Prop := fnExactShortLeastRow.holds Try.pinned (OpenSpec.ofChange fnExactShortLeastSpec)

/-- ITS FALSE NEIGHBOUR: 'it returns false'. Refute it at one input. -/
def fnExactShortLeastWrong : ChangeSpec := { name := "fnExactShortLeast", fn := fun _ => fun
  | [d1, d2] => { results := [.lit (.bool false)], args := [d1, d2] }
  | _ => none }
def FnExactShortLeastWrongFalsely : Prop := fnExactShortLeastRow.holds Try.pinned (OpenSpec.ofChange fnExactShortLeastWrong)

/-- 'laws.FnExactShortGcd': WHATEVER THE INPUT: true; the input reads as it did. -/
def fnExactShortGcdSpec : ChangeSpec := { name := "fnExactShortGcd", fn := fun _ => fun
  | [d] => { results := [.lit (.bool true)], args := [d] }
  | _ => none }
def fnExactShortGcdRow : OpenClaim := { program := "ytcifdnidhiofkaa", sum := "cc50189516bb58fda76a4b6c42b3290f74a80875209bb3c45383d09709bfefcc", func := "loop.example/tworows/laws.FnExactShortGcd", spec := "fnExactShortGcd", recurses := true, apart := false }
def FnExactShortGcdSaid : Prop := fnExactShortGcdRow.holds Try.pinned (OpenSpec.ofChange fnExactShortGcdSpec)

/-- ITS FALSE NEIGHBOUR: 'it returns false'. Refute it at one input. -/
def fnExactShortGcdWrong : ChangeSpec := { name := "fnExactShortGcd", fn := fun _ => fun
  | [d] => { results := [.lit (.bool false)], args := [d] }
  | _ => none }
def FnExactShortGcdWrongFalsely : Prop := fnExactShortGcdRow.holds Try.pinned (OpenSpec.ofChange fnExactShortGcdWrong)

/-- 'laws.FnExactShortPrime': WHATEVER THE INPUT: true; the input reads as it did. -/
def fnExactShortPrimeSpec : ChangeSpec := { name := "fnExactShortPrime", fn := fun _ => fun
  | [d] => { results := [.lit (.bool true)], args := [d] }
  | _ => none }
def fnExactShortPrimeRow : OpenClaim := { program := "ytcifdnidhiofkaa", sum := "cc50189516bb58fda76a4b6c42b3290f74a80875209bb3c45383d09709bfefcc", func := "loop.example/tworows/laws.FnExactShortPrime", spec := "fnExactShortPrime", apart := false }
def FnExactShortPrimeSaid : Prop := fnExactShortPrimeRow.holds Try.pinned (OpenSpec.ofChange fnExactShortPrimeSpec)

/-- ITS FALSE NEIGHBOUR: 'it returns false'. Refute it at one input. -/
def fnExactShortPrimeWrong : ChangeSpec := { name := "fnExactShortPrime", fn := fun _ => fun
  | [d] => { results := [.lit (.bool false)], args := [d] }
  | _ => none }
def FnExactShortPrimeWrongFalsely : Prop := fnExactShortPrimeRow.holds Try.pinned (OpenSpec.ofChange fnExactShortPrimeWrong)

/-- 'laws.FnExactShortFull': WHATEVER THE INPUT: true; the input reads as it did. -/
def fnExactShortFullSpec : ChangeSpec := { name := "fnExactShortFull", fn := fun _ => fun
  | [d] => { results := [.lit (.bool true)], args := [d] }
  | _ => none }
def fnExactShortFullRow : OpenClaim := { program := "ytcifdnidhiofkaa", sum := "cc50189516bb58fda76a4b6c42b3290f74a80875209bb3c45383d09709bfefcc", func := "loop.example/tworows/laws.FnExactShortFull", spec := "fnExactShortFull", recurses := true, apart := false }
def FnExactShortFullSaid : Prop := fnExactShortFullRow.holds Try.pinned (OpenSpec.ofChange fnExactShortFullSpec)

/-- ITS FALSE NEIGHBOUR: 'it returns false'. Refute it at one input. -/
def fnExactShortFullWrong : ChangeSpec := { name := "fnExactShortFull", fn := fun _ => fun
  | [d] => { results := [.lit (.bool false)], args := [d] }
  | _ => none }
def FnExactShortFullWrongFalsely : Prop := fnExactShortFullRow.holds Try.pinned (OpenSpec.ofChange fnExactShortFullWrong)

/-- 'laws.FnExactShortArea': WHATEVER THE INPUT: true; the input reads as it did. -/
def fnExactShortAreaSpec : ChangeSpec := { name := "fnExactShortArea", fn := fun _ => fun
  | [d] => { results := [.lit (.bool true)], args := [d] }
  | _ => none }
def fnExactShortAreaRow : OpenClaim := { program := "ytcifdnidhiofkaa", sum := "cc50189516bb58fda76a4b6c42b3290f74a80875209bb3c45383d09709bfefcc", func := "loop.example/tworows/laws.FnExactShortArea", spec := "fnExactShortArea", recurses := true, apart := false }
def FnExactShortAreaSaid : Prop := fnExactShortAreaRow.holds Try.pinned (OpenSpec.ofChange fnExactShortAreaSpec)

/-- ITS FALSE NEIGHBOUR: 'it returns false'. Refute it at one input. -/
def fnExactShortAreaWrong : ChangeSpec := { name := "fnExactShortArea", fn := fun _ => fun
  | [d] => { results := [.lit (.bool false)], args := [d] }
  | _ => none }
def FnExactShortAreaWrongFalsely : Prop := fnExactShortAreaRow.holds Try.pinned (OpenSpec.ofChange fnExactShortAreaWrong)

/- THE SECOND FORM. 'bulk': how many values and letters a reading holds, each counted each time it is reached (what is shared counts as often as it is met; a slice's spare places count too). A statement '..UptoSaid' is the law's where the arguments, and the package variables that the reading takes, are together of bulk at most 1048576: NARROWER than '..Said'. Prove '..Said' where nothing that the law and all that it calls make is longer than what came in: it says more and counts as full. Else prove '..UptoSaid'. A law counts once. -/
mutual
def uptoBulk {H : Type} : DataW H → Nat
  | .lit (.string bytes) => bytes.length + 1
  | .lit _ => 1
  | .nil => 1
  | .ptr d => uptoBulk d + 1
  | .slice elems spare => uptoBulkAll elems + uptoBulkAll spare + 1
  | .agg parts => uptoBulkAll parts + 1
  | .iface _ d => uptoBulk d + 1
  | .map entries => uptoBulkEntries entries + 1
  | .held _ => 1
def uptoBulkAll {H : Type} : List (DataW H) → Nat
  | [] => 0
  | d :: r => uptoBulk d + uptoBulkAll r
def uptoBulkEntries {H : Type} : List (Lit × DataW H) → Nat
  | [] => 0
  | x :: r => uptoBulkEntry x + uptoBulkEntries r
def uptoBulkEntry {H : Type} : Lit × DataW H → Nat
  | (.string bytes, d) => bytes.length + uptoBulk d + 1
  | (_, d) => uptoBulk d + 1
 end
def uptoSmall : (H : Type) → List (DataW H) → Bool := fun _ ds => decide (uptoBulkAll ds ≤ 1048576)
def OpenSpec.upto (s : _root_.Go.ChangeSpec) : _root_.Go.OpenSpec := { _root_.Go.OpenSpec.ofChange s with cond := some uptoSmall }

/-- 'laws.FnExactShortLength', WHERE WHAT IT READS IS OF BULK AT MOST 1048576: true; the input reads as it did. -/
def fnExactShortLengthUptoRow : OpenClaim := { program := "ytcifdnidhiofkaa", sum := "cc50189516bb58fda76a4b6c42b3290f74a80875209bb3c45383d09709bfefcc", func := "loop.example/tworows/laws.FnExactShortLength", spec := "fnExactShortLength", apart := false, narrowed := true }
def FnExactShortLengthUptoSaid : Prop := fnExactShortLengthUptoRow.holds Try.pinned (OpenSpec.upto fnExactShortLengthSpec)

/-- 'laws.FnExactShortBase', WHERE WHAT IT READS IS OF BULK AT MOST 1048576: true; the input reads as it did. -/
def fnExactShortBaseUptoRow : OpenClaim := { program := "ytcifdnidhiofkaa", sum := "cc50189516bb58fda76a4b6c42b3290f74a80875209bb3c45383d09709bfefcc", func := "loop.example/tworows/laws.FnExactShortBase", spec := "fnExactShortBase", unfollowed := true, recurses := true, apart := false, narrowed := true }
def FnExactShortBaseUptoSaid : Prop := fnExactShortBaseUptoRow.holds Try.pinned (OpenSpec.upto fnExactShortBaseSpec)

/-- 'laws.FnExactShortIs', WHERE WHAT IT READS IS OF BULK AT MOST 1048576: true; the input reads as it did. -/
def fnExactShortIsUptoRow : OpenClaim := { program := "ytcifdnidhiofkaa", sum := "cc50189516bb58fda76a4b6c42b3290f74a80875209bb3c45383d09709bfefcc", func := "loop.example/tworows/laws.FnExactShortIs", spec := "fnExactShortIs", apart := false, narrowed := true }
def FnExactShortIsUptoSaid : Prop := fnExactShortIsUptoRow.holds Try.pinned (OpenSpec.upto fnExactShortIsSpec)

/-- 'laws.FnExactShortLeast', WHERE WHAT IT READS IS OF BULK AT MOST 1048576: true; the input reads as it did. -/
def fnExactShortLeastUptoRow : OpenClaim := { program := "ytcifdnidhiofkaa", sum := "cc50189516bb58fda76a4b6c42b3290f74a80875209bb3c45383d09709bfefcc", func := "loop.example/tworows/laws.FnExactShortLeast", spec := "fnExactShortLeast", unfollowed := true, recurses := true, apart := false, narrowed := true }
def FnExactShortLeastUptoSaid : Prop := fnExactShortLeastUptoRow.holds Try.pinned (OpenSpec.upto fnExactShortLeastSpec)

/-- 'laws.FnExactShortGcd', WHERE WHAT IT READS IS OF BULK AT MOST 1048576: true; the input reads as it did. -/
def fnExactShortGcdUptoRow : OpenClaim := { program := "ytcifdnidhiofkaa", sum := "cc50189516bb58fda76a4b6c42b3290f74a80875209bb3c45383d09709bfefcc", func := "loop.example/tworows/laws.FnExactShortGcd", spec := "fnExactShortGcd", recurses := true, apart := false, narrowed := true }
def FnExactShortGcdUptoSaid : Prop := fnExactShortGcdUptoRow.holds Try.pinned (OpenSpec.upto fnExactShortGcdSpec)

/-- 'laws.FnExactShortPrime', WHERE WHAT IT READS IS OF BULK AT MOST 1048576: true; the input reads as it did. -/
def fnExactShortPrimeUptoRow : OpenClaim := { program := "ytcifdnidhiofkaa", sum := "cc50189516bb58fda76a4b6c42b3290f74a80875209bb3c45383d09709bfefcc", func := "loop.example/tworows/laws.FnExactShortPrime", spec := "fnExactShortPrime", apart := false, narrowed := true }
def FnExactShortPrimeUptoSaid : Prop := fnExactShortPrimeUptoRow.holds Try.pinned (OpenSpec.upto fnExactShortPrimeSpec)

/-- 'laws.FnExactShortFull', WHERE WHAT IT READS IS OF BULK AT MOST 1048576: true; the input reads as it did. -/
def fnExactShortFullUptoRow : OpenClaim := { program := "ytcifdnidhiofkaa", sum := "cc50189516bb58fda76a4b6c42b3290f74a80875209bb3c45383d09709bfefcc", func := "loop.example/tworows/laws.FnExactShortFull", spec := "fnExactShortFull", recurses := true, apart := false, narrowed := true }
def FnExactShortFullUptoSaid : Prop := fnExactShortFullUptoRow.holds Try.pinned (OpenSpec.upto fnExactShortFullSpec)

/-- 'laws.FnExactShortArea', WHERE WHAT IT READS IS OF BULK AT MOST 1048576: true; the input reads as it did. -/
def fnExactShortAreaUptoRow : OpenClaim := { program := "ytcifdnidhiofkaa", sum := "cc50189516bb58fda76a4b6c42b3290f74a80875209bb3c45383d09709bfefcc", func := "loop.example/tworows/laws.FnExactShortArea", spec := "fnExactShortArea", recurses := true, apart := false, narrowed := true }
def FnExactShortAreaUptoSaid : Prop := fnExactShortAreaUptoRow.holds Try.pinned (OpenSpec.upto fnExactShortAreaSpec)

end Rows
end Go.Proofs.Ytcifdnidhiofkaa

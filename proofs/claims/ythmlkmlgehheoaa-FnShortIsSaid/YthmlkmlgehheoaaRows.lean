/-
  No cell of these rows narrows 'for every input' (looked for: loops, veiled, ifaces, maps, wideKeys, modest, calm, conditions, laid).
  DERIVED. THE GIVEN ROWS OF THIS SEAT. 3 by the template 'for every input the law returns true; each argument reads behind the call as it read before'; 0 by the template 'total and deterministic' (their statements: YthmlkmlgehheoaaTotals.lean).
  GIVEN WITH THE SEED: the statements are not yours to turn. If you find one false, say at which input.
  Laid BY PROGRAM, IN A SANDBOX (cutbox-rows.mjs): the forced cells as the released guide's own fill.sh prints them over the translation fb6bca56ec6cbd46… (all of the seat's roots in one cut). By AI agents, Wed Nov 11 2026. No macro, syntax, notation, axiom, sorry.
-/
import Derived.Test.YthmlkmlgehheoaaChecked
import GoSem.Claim
import GoSem.ClaimJoined
import GoSem.ClaimMapViews
import Derived.JoinedTies
import Derived.KernelRfl
namespace Go.Proofs.Ythmlkmlgehheoaa
/- THE CELL 'sum', in the pinned program and in every row, IS THE sha256 OF THE DUMP (.gsa) THAT YthmlkmlgehheoaaProg.lean LOADS. Nothing in Lean hashes anything: it is a label: what it is worth is what the hold of that sum in a sandbox is worth. -/
noncomputable def Try.pinned : Pinned := { name := "ythmlkmlgehheoaa", sum := "fb6bca56ec6cbd46c829dc6ef594d7b0b57c9ca9ff39a278170389ec87771ba6", checked := Try.checked }
namespace Rows
def none {H : Type} : Left H := { results := [], args := [] }

/-- 'laws.FnBase': WHATEVER THE INPUT: true; the input reads as it did. -/
def fnBaseSpec : ChangeSpec := { name := "fnBase", fn := fun _ => fun
  | [d] => { results := [.lit (.bool true)], args := [d] }
  | _ => none }
def fnBaseRow : OpenClaim := { program := "ythmlkmlgehheoaa", sum := "fb6bca56ec6cbd46c829dc6ef594d7b0b57c9ca9ff39a278170389ec87771ba6", func := "loop.example/tworows/laws.FnBase", spec := "fnBase", unfollowed := true, recurses := true, apart := false }
def FnBaseSaid : Prop := fnBaseRow.holds Try.pinned (OpenSpec.ofChange fnBaseSpec)

/-- ITS FALSE NEIGHBOUR: 'it returns false'. Refute it at one input. -/
def fnBaseWrong : ChangeSpec := { name := "fnBase", fn := fun _ => fun
  | [d] => { results := [.lit (.bool false)], args := [d] }
  | _ => none }
def FnBaseWrongFalsely : Prop := fnBaseRow.holds Try.pinned (OpenSpec.ofChange fnBaseWrong)

/-- 'laws.FnShortIs': WHATEVER THE INPUT: true; the input reads as it did. -/
def fnShortIsSpec : ChangeSpec := { name := "fnShortIs", fn := fun _ => fun
  | [d] => { results := [.lit (.bool true)], args := [d] }
  | _ => none }
def fnShortIsRow : OpenClaim := { program := "ythmlkmlgehheoaa", sum := "fb6bca56ec6cbd46c829dc6ef594d7b0b57c9ca9ff39a278170389ec87771ba6", func := "loop.example/tworows/laws.FnShortIs", spec := "fnShortIs", unfollowed := true, recurses := true, apart := false }
def FnShortIsSaid : Prop := fnShortIsRow.holds Try.pinned (OpenSpec.ofChange fnShortIsSpec)

/-- ITS FALSE NEIGHBOUR: 'it returns false'. Refute it at one input. -/
def fnShortIsWrong : ChangeSpec := { name := "fnShortIs", fn := fun _ => fun
  | [d] => { results := [.lit (.bool false)], args := [d] }
  | _ => none }
def FnShortIsWrongFalsely : Prop := fnShortIsRow.holds Try.pinned (OpenSpec.ofChange fnShortIsWrong)

/-- 'laws.FnLeast': WHATEVER THE INPUT: true; the input reads as it did. -/
def fnLeastSpec : ChangeSpec := { name := "fnLeast", fn := fun _ => fun
  | [d] => { results := [.lit (.bool true)], args := [d] }
  | _ => none }
def fnLeastRow : OpenClaim := { program := "ythmlkmlgehheoaa", sum := "fb6bca56ec6cbd46c829dc6ef594d7b0b57c9ca9ff39a278170389ec87771ba6", func := "loop.example/tworows/laws.FnLeast", spec := "fnLeast", unfollowed := true, recurses := true, apart := false }
def FnLeastSaid : Prop := fnLeastRow.holds Try.pinned (OpenSpec.ofChange fnLeastSpec)

/-- ITS FALSE NEIGHBOUR: 'it returns false'. Refute it at one input. -/
def fnLeastWrong : ChangeSpec := { name := "fnLeast", fn := fun _ => fun
  | [d] => { results := [.lit (.bool false)], args := [d] }
  | _ => none }
def FnLeastWrongFalsely : Prop := fnLeastRow.holds Try.pinned (OpenSpec.ofChange fnLeastWrong)

/- THE SECOND FORM. 'bulk': how many values and letters a reading holds, each counted each time it is reached (what is shared counts as often as it is met; a slice's spare places count too). A statement '..UptoSaid' is the law's where the arguments, and the package variables that the reading takes, are together of bulk at most 1048576: NARROWER than '..Said'. Prove '..Said' where nothing that the law and all that it calls make is longer than what came in: it says more and counts as full. Else prove '..UptoSaid'. A law counts once. -/
mutual
def uptoBulk {H : Type} : DataW H → Nat
  | .lit (.string bytes) => bytes.length + 1
  | .lit _ => 1
  | .nil => 1
  | .ptr d => uptoBulk d + 1
  | .slice elems spare => uptoBulkAll elems + uptoBulkAll spare + 1
  | .agg parts => uptoBulkAll parts + 1
  | .iface _ d => uptoBulk d + 1
  | .map entries => uptoBulkEntries entries + 1
  | .held _ => 1
def uptoBulkAll {H : Type} : List (DataW H) → Nat
  | [] => 0
  | d :: r => uptoBulk d + uptoBulkAll r
def uptoBulkEntries {H : Type} : List (Lit × DataW H) → Nat
  | [] => 0
  | x :: r => uptoBulkEntry x + uptoBulkEntries r
def uptoBulkEntry {H : Type} : Lit × DataW H → Nat
  | (.string bytes, d) => bytes.length + uptoBulk d + 1
  | (_, d) => uptoBulk d + 1
 end
def uptoSmall : (H : Type) → List (DataW H) → Bool := fun _ ds => decide (uptoBulkAll ds ≤ 1048576)
def OpenSpec.upto (s : _root_.Go.ChangeSpec) : _root_.Go.OpenSpec := { _root_.Go.OpenSpec.ofChange s with cond := some uptoSmall }

/-- 'laws.FnBase', WHERE WHAT IT READS IS OF BULK AT MOST 1048576: true; the input reads as it did. -/
def fnBaseUptoRow : OpenClaim := { program := "ythmlkmlgehheoaa", sum := "fb6bca56ec6cbd46c829dc6ef594d7b0b57c9ca9ff39a278170389ec87771ba6", func := "loop.example/tworows/laws.FnBase", spec := "fnBase", unfollowed := true, recurses := true, apart := false, narrowed := true }
def FnBaseUptoSaid : Prop := fnBaseUptoRow.holds Try.pinned (OpenSpec.upto fnBaseSpec)

/-- 'laws.FnShortIs', WHERE WHAT IT READS IS OF BULK AT MOST 1048576: true; the input reads as it did. -/
def fnShortIsUptoRow : OpenClaim := { program := "ythmlkmlgehheoaa", sum := "fb6bca56ec6cbd46c829dc6ef594d7b0b57c9ca9ff39a278170389ec87771ba6", func := "loop.example/tworows/laws.FnShortIs", spec := "fnShortIs", unfollowed := true, recurses := true, apart := false, narrowed := true }
def FnShortIsUptoSaid : Prop := fnShortIsUptoRow.holds Try.pinned (OpenSpec.upto fnShortIsSpec)

/-- 'laws.FnLeast', WHERE WHAT IT READS IS OF BULK AT MOST 1048576: true; the input reads as it did. -/
def fnLeastUptoRow : OpenClaim := { program := "ythmlkmlgehheoaa", sum := "fb6bca56ec6cbd46c829dc6ef594d7b0b57c9ca9ff39a278170389ec87771ba6", func := "loop.example/tworows/laws.FnLeast", spec := "fnLeast", unfollowed := true, recurses := true, apart := false, narrowed := true }
def FnLeastUptoSaid : Prop := fnLeastUptoRow.holds Try.pinned (OpenSpec.upto fnLeastSpec)

end Rows
end Go.Proofs.Ythmlkmlgehheoaa

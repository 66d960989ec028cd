/-
  No cell of these rows narrows 'for every input' (looked for: loops, veiled, ifaces, maps, wideKeys, modest, calm, conditions, laid).
  DERIVED. THE GIVEN ROWS OF THIS SEAT. 3 by the template 'for every input the law returns true; each argument reads behind the call as it read before'; 0 by the template 'total and deterministic' (their statements: YtmaefhcgjaapgaaTotals.lean).
  GIVEN WITH THE SEED: the statements are not yours to turn. If you find one false, say at which input.
  Laid BY PROGRAM, IN A SANDBOX (cutbox-rows.mjs): the forced cells as the released guide's own fill.sh prints them over the translation bc297bff2a86f51e… (all of the seat's roots in one cut). By AI agents, Wed Nov 11 2026. No macro, syntax, notation, axiom, sorry.
-/
import Derived.Test.YtmaefhcgjaapgaaChecked
import GoSem.Claim
import GoSem.ClaimJoined
import GoSem.ClaimMapViews
import Derived.JoinedTies
import Derived.KernelRfl
namespace Go.Proofs.Ytmaefhcgjaapgaa
/- THE CELL 'sum', in the pinned program and in every row, IS THE sha256 OF THE DUMP (.gsa) THAT YtmaefhcgjaapgaaProg.lean LOADS. Nothing in Lean hashes anything: it is a label: what it is worth is what the hold of that sum in a sandbox is worth. -/
noncomputable def Try.pinned : Pinned := { name := "ytmaefhcgjaapgaa", sum := "bc297bff2a86f51efd719e9406a74b7659d142739ef9b8fdd90756cc5df20c45", checked := Try.checked }
namespace Rows
def none {H : Type} : Left H := { results := [], args := [] }

/-- 'laws.FnRest': WHATEVER THE INPUT: true; the input reads as it did. -/
def fnRestSpec : ChangeSpec := { name := "fnRest", fn := fun _ => fun
  | [d] => { results := [.lit (.bool true)], args := [d] }
  | _ => none }
def fnRestRow : OpenClaim := { program := "ytmaefhcgjaapgaa", sum := "bc297bff2a86f51efd719e9406a74b7659d142739ef9b8fdd90756cc5df20c45", func := "loop.example/tworows/laws.FnRest", spec := "fnRest", apart := false }
def FnRestSaid : Prop := fnRestRow.holds Try.pinned (OpenSpec.ofChange fnRestSpec)

/-- ITS FALSE NEIGHBOUR: 'it returns false'. Refute it at one input. -/
def fnRestWrong : ChangeSpec := { name := "fnRest", fn := fun _ => fun
  | [d] => { results := [.lit (.bool false)], args := [d] }
  | _ => none }
def FnRestWrongFalsely : Prop := fnRestRow.holds Try.pinned (OpenSpec.ofChange fnRestWrong)

/-- 'laws.FnRestEven': WHATEVER THE INPUT: true; the input reads as it did. -/
def fnRestEvenSpec : ChangeSpec := { name := "fnRestEven", fn := fun _ => fun
  | [d] => { results := [.lit (.bool true)], args := [d] }
  | _ => none }
def fnRestEvenRow : OpenClaim := { program := "ytmaefhcgjaapgaa", sum := "bc297bff2a86f51efd719e9406a74b7659d142739ef9b8fdd90756cc5df20c45", func := "loop.example/tworows/laws.FnRestEven", spec := "fnRestEven", apart := false }
def FnRestEvenSaid : Prop := fnRestEvenRow.holds Try.pinned (OpenSpec.ofChange fnRestEvenSpec)

/-- ITS FALSE NEIGHBOUR: 'it returns false'. Refute it at one input. -/
def fnRestEvenWrong : ChangeSpec := { name := "fnRestEven", fn := fun _ => fun
  | [d] => { results := [.lit (.bool false)], args := [d] }
  | _ => none }
def FnRestEvenWrongFalsely : Prop := fnRestEvenRow.holds Try.pinned (OpenSpec.ofChange fnRestEvenWrong)

/-- 'laws.FnLift': WHATEVER THE INPUT: true; the input reads as it did. -/
def fnLiftSpec : ChangeSpec := { name := "fnLift", fn := fun _ => fun
  | [d] => { results := [.lit (.bool true)], args := [d] }
  | _ => none }
def fnLiftRow : OpenClaim := { program := "ytmaefhcgjaapgaa", sum := "bc297bff2a86f51efd719e9406a74b7659d142739ef9b8fdd90756cc5df20c45", func := "loop.example/tworows/laws.FnLift", spec := "fnLift", unfollowed := true, recurses := true, apart := false }
def FnLiftSaid : Prop := fnLiftRow.holds Try.pinned (OpenSpec.ofChange fnLiftSpec)

/-- ITS FALSE NEIGHBOUR: 'it returns false'. Refute it at one input. -/
def fnLiftWrong : ChangeSpec := { name := "fnLift", fn := fun _ => fun
  | [d] => { results := [.lit (.bool false)], args := [d] }
  | _ => none }
def FnLiftWrongFalsely : Prop := fnLiftRow.holds Try.pinned (OpenSpec.ofChange fnLiftWrong)

/- THE SECOND FORM. 'bulk': how many values and letters a reading holds, each counted each time it is reached (what is shared counts as often as it is met; a slice's spare places count too). A statement '..UptoSaid' is the law's where the arguments, and the package variables that the reading takes, are together of bulk at most 1048576: NARROWER than '..Said'. Prove '..Said' where nothing that the law and all that it calls make is longer than what came in: it says more and counts as full. Else prove '..UptoSaid'. A law counts once. -/
mutual
def uptoBulk {H : Type} : DataW H → Nat
  | .lit (.string bytes) => bytes.length + 1
  | .lit _ => 1
  | .nil => 1
  | .ptr d => uptoBulk d + 1
  | .slice elems spare => uptoBulkAll elems + uptoBulkAll spare + 1
  | .agg parts => uptoBulkAll parts + 1
  | .iface _ d => uptoBulk d + 1
  | .map entries => uptoBulkEntries entries + 1
  | .held _ => 1
def uptoBulkAll {H : Type} : List (DataW H) → Nat
  | [] => 0
  | d :: r => uptoBulk d + uptoBulkAll r
def uptoBulkEntries {H : Type} : List (Lit × DataW H) → Nat
  | [] => 0
  | x :: r => uptoBulkEntry x + uptoBulkEntries r
def uptoBulkEntry {H : Type} : Lit × DataW H → Nat
  | (.string bytes, d) => bytes.length + uptoBulk d + 1
  | (_, d) => uptoBulk d + 1
 end
def uptoSmall : (H : Type) → List (DataW H) → Bool := fun _ ds => decide (uptoBulkAll ds ≤ 1048576)
def OpenSpec.upto (s : _root_.Go.ChangeSpec) : _root_.Go.OpenSpec := { _root_.Go.OpenSpec.ofChange s with cond := some uptoSmall }

/-- 'laws.FnRest', WHERE WHAT IT READS IS OF BULK AT MOST 1048576: true; the input reads as it did. -/
def fnRestUptoRow : OpenClaim := { program := "ytmaefhcgjaapgaa", sum := "bc297bff2a86f51efd719e9406a74b7659d142739ef9b8fdd90756cc5df20c45", func := "loop.example/tworows/laws.FnRest", spec := "fnRest", apart := false, narrowed := true }
def FnRestUptoSaid : Prop := fnRestUptoRow.holds Try.pinned (OpenSpec.upto fnRestSpec)

/-- 'laws.FnRestEven', WHERE WHAT IT READS IS OF BULK AT MOST 1048576: true; the input reads as it did. -/
def fnRestEvenUptoRow : OpenClaim := { program := "ytmaefhcgjaapgaa", sum := "bc297bff2a86f51efd719e9406a74b7659d142739ef9b8fdd90756cc5df20c45", func := "loop.example/tworows/laws.FnRestEven", spec := "fnRestEven", apart := false, narrowed := true }
def FnRestEvenUptoSaid : Prop := fnRestEvenUptoRow.holds Try.pinned (OpenSpec.upto fnRestEvenSpec)

/-- 'laws.FnLift', WHERE WHAT IT READS IS OF BULK AT MOST 1048576: true; the input reads as it did. -/
def fnLiftUptoRow : OpenClaim := { program := "ytmaefhcgjaapgaa", sum := "bc297bff2a86f51efd719e9406a74b7659d142739ef9b8fdd90756cc5df20c45", func := "loop.example/tworows/laws.FnLift", spec := "fnLift", unfollowed := true, recurses := true, apart := false, narrowed := true }
def FnLiftUptoSaid : Prop := fnLiftUptoRow.holds Try.pinned (OpenSpec.upto fnLiftSpec)

end Rows
end Go.Proofs.Ytmaefhcgjaapgaa

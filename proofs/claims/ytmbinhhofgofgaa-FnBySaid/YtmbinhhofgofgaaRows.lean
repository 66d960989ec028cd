/-
  No cell of these rows narrows 'for every input' (looked for: loops, veiled, ifaces, maps, wideKeys, modest, calm, conditions, laid).
  DERIVED. THE GIVEN ROWS OF THIS SEAT. 3 by the template 'for every input the law returns true; each argument reads behind the call as it read before'; 0 by the template 'total and deterministic' (their statements: YtmbinhhofgofgaaTotals.lean).
  GIVEN WITH THE SEED: the statements are not yours to turn. If you find one false, say at which input.
  Laid BY PROGRAM, IN A SANDBOX (cutbox-rows.mjs): the forced cells as the released guide's own fill.sh prints them over the translation fdc3e402a3de2fe9… (all of the seat's roots in one cut). By AI agents, Wed Nov 11 2026. No macro, syntax, notation, axiom, sorry.
-/
import Derived.Test.YtmbinhhofgofgaaChecked
import GoSem.Claim
import GoSem.ClaimJoined
import GoSem.ClaimMapViews
import Derived.JoinedTies
import Derived.KernelRfl
namespace Go.Proofs.Ytmbinhhofgofgaa
/- THE CELL 'sum', in the pinned program and in every row, IS THE sha256 OF THE DUMP (.gsa) THAT YtmbinhhofgofgaaProg.lean LOADS. Nothing in Lean hashes anything: it is a label: what it is worth is what the hold of that sum in a sandbox is worth. -/
noncomputable def Try.pinned : Pinned := { name := "ytmbinhhofgofgaa", sum := "fdc3e402a3de2fe9bd8bc80ce9c6c425b2e93d8390453936ac37cd86812d6d36", checked := Try.checked }
namespace Rows
def none {H : Type} : Left H := { results := [], args := [] }

/-- 'laws.FnNecklace': WHATEVER THE INPUT: true; the input reads as it did. -/
def fnNecklaceSpec : ChangeSpec := { name := "fnNecklace", fn := fun _ => fun
  | [d] => { results := [.lit (.bool true)], args := [d] }
  | _ => none }
def fnNecklaceRow : OpenClaim := { program := "ytmbinhhofgofgaa", sum := "fdc3e402a3de2fe9bd8bc80ce9c6c425b2e93d8390453936ac37cd86812d6d36", func := "loop.example/tworows/laws.FnNecklace", spec := "fnNecklace", inPlace := ["internal/bytealg.IndexByteString"], unfollowed := true, recurses := true, apart := false }
def FnNecklaceSaid : Prop := fnNecklaceRow.holds Try.pinned (OpenSpec.ofChange fnNecklaceSpec)

/-- ITS FALSE NEIGHBOUR: 'it returns false'. Refute it at one input. -/
def fnNecklaceWrong : ChangeSpec := { name := "fnNecklace", fn := fun _ => fun
  | [d] => { results := [.lit (.bool false)], args := [d] }
  | _ => none }
def FnNecklaceWrongFalsely : Prop := fnNecklaceRow.holds Try.pinned (OpenSpec.ofChange fnNecklaceWrong)

/-- 'laws.FnNecklaceOf': WHATEVER THE INPUT: true; the input reads as it did. -/
def fnNecklaceOfSpec : ChangeSpec := { name := "fnNecklaceOf", fn := fun _ => fun
  | [d] => { results := [.lit (.bool true)], args := [d] }
  | _ => none }
def fnNecklaceOfRow : OpenClaim := { program := "ytmbinhhofgofgaa", sum := "fdc3e402a3de2fe9bd8bc80ce9c6c425b2e93d8390453936ac37cd86812d6d36", func := "loop.example/tworows/laws.FnNecklaceOf", spec := "fnNecklaceOf", inPlace := ["internal/bytealg.IndexByteString"], unfollowed := true, recurses := true, apart := false }
def FnNecklaceOfSaid : Prop := fnNecklaceOfRow.holds Try.pinned (OpenSpec.ofChange fnNecklaceOfSpec)

/-- ITS FALSE NEIGHBOUR: 'it returns false'. Refute it at one input. -/
def fnNecklaceOfWrong : ChangeSpec := { name := "fnNecklaceOf", fn := fun _ => fun
  | [d] => { results := [.lit (.bool false)], args := [d] }
  | _ => none }
def FnNecklaceOfWrongFalsely : Prop := fnNecklaceOfRow.holds Try.pinned (OpenSpec.ofChange fnNecklaceOfWrong)

/-- 'laws.FnBy': WHATEVER THE INPUT: true; the input reads as it did. -/
def fnBySpec : ChangeSpec := { name := "fnBy", fn := fun _ => fun
  | [d] => { results := [.lit (.bool true)], args := [d] }
  | _ => none }
def fnByRow : OpenClaim := { program := "ytmbinhhofgofgaa", sum := "fdc3e402a3de2fe9bd8bc80ce9c6c425b2e93d8390453936ac37cd86812d6d36", func := "loop.example/tworows/laws.FnBy", spec := "fnBy", apart := false }
def FnBySaid : Prop := fnByRow.holds Try.pinned (OpenSpec.ofChange fnBySpec)

/-- ITS FALSE NEIGHBOUR: 'it returns false'. Refute it at one input. -/
def fnByWrong : ChangeSpec := { name := "fnBy", fn := fun _ => fun
  | [d] => { results := [.lit (.bool false)], args := [d] }
  | _ => none }
def FnByWrongFalsely : Prop := fnByRow.holds Try.pinned (OpenSpec.ofChange fnByWrong)

/- THE SECOND FORM. 'bulk': how many values and letters a reading holds, each counted each time it is reached (what is shared counts as often as it is met; a slice's spare places count too). A statement '..UptoSaid' is the law's where the arguments, and the package variables that the reading takes, are together of bulk at most 1048576: NARROWER than '..Said'. Prove '..Said' where nothing that the law and all that it calls make is longer than what came in: it says more and counts as full. Else prove '..UptoSaid'. A law counts once. -/
mutual
def uptoBulk {H : Type} : DataW H → Nat
  | .lit (.string bytes) => bytes.length + 1
  | .lit _ => 1
  | .nil => 1
  | .ptr d => uptoBulk d + 1
  | .slice elems spare => uptoBulkAll elems + uptoBulkAll spare + 1
  | .agg parts => uptoBulkAll parts + 1
  | .iface _ d => uptoBulk d + 1
  | .map entries => uptoBulkEntries entries + 1
  | .held _ => 1
def uptoBulkAll {H : Type} : List (DataW H) → Nat
  | [] => 0
  | d :: r => uptoBulk d + uptoBulkAll r
def uptoBulkEntries {H : Type} : List (Lit × DataW H) → Nat
  | [] => 0
  | x :: r => uptoBulkEntry x + uptoBulkEntries r
def uptoBulkEntry {H : Type} : Lit × DataW H → Nat
  | (.string bytes, d) => bytes.length + uptoBulk d + 1
  | (_, d) => uptoBulk d + 1
 end
def uptoSmall : (H : Type) → List (DataW H) → Bool := fun _ ds => decide (uptoBulkAll ds ≤ 1048576)
def OpenSpec.upto (s : _root_.Go.ChangeSpec) : _root_.Go.OpenSpec := { _root_.Go.OpenSpec.ofChange s with cond := some uptoSmall }

/-- 'laws.FnNecklace', WHERE WHAT IT READS IS OF BULK AT MOST 1048576: true; the input reads as it did. -/
def fnNecklaceUptoRow : OpenClaim := { program := "ytmbinhhofgofgaa", sum := "fdc3e402a3de2fe9bd8bc80ce9c6c425b2e93d8390453936ac37cd86812d6d36", func := "loop.example/tworows/laws.FnNecklace", spec := "fnNecklace", inPlace := ["internal/bytealg.IndexByteString"], unfollowed := true, recurses := true, apart := false, narrowed := true }
def FnNecklaceUptoSaid : Prop := fnNecklaceUptoRow.holds Try.pinned (OpenSpec.upto fnNecklaceSpec)

/-- 'laws.FnNecklaceOf', WHERE WHAT IT READS IS OF BULK AT MOST 1048576: true; the input reads as it did. -/
def fnNecklaceOfUptoRow : OpenClaim := { program := "ytmbinhhofgofgaa", sum := "fdc3e402a3de2fe9bd8bc80ce9c6c425b2e93d8390453936ac37cd86812d6d36", func := "loop.example/tworows/laws.FnNecklaceOf", spec := "fnNecklaceOf", inPlace := ["internal/bytealg.IndexByteString"], unfollowed := true, recurses := true, apart := false, narrowed := true }
def FnNecklaceOfUptoSaid : Prop := fnNecklaceOfUptoRow.holds Try.pinned (OpenSpec.upto fnNecklaceOfSpec)

/-- 'laws.FnBy', WHERE WHAT IT READS IS OF BULK AT MOST 1048576: true; the input reads as it did. -/
def fnByUptoRow : OpenClaim := { program := "ytmbinhhofgofgaa", sum := "fdc3e402a3de2fe9bd8bc80ce9c6c425b2e93d8390453936ac37cd86812d6d36", func := "loop.example/tworows/laws.FnBy", spec := "fnBy", apart := false, narrowed := true }
def FnByUptoSaid : Prop := fnByUptoRow.holds Try.pinned (OpenSpec.upto fnBySpec)

end Rows
end Go.Proofs.Ytmbinhhofgofgaa

/-
  No cell of these rows narrows 'for every input' (looked for: loops, veiled, ifaces, maps, wideKeys, modest, calm, conditions, laid).
  DERIVED. THE GIVEN ROWS OF THIS SEAT. 4 by the template 'for every input the law returns true; each argument reads behind the call as it read before'; 0 by the template 'total and deterministic' (their statements: YtdfclikobfjnoaaTotals.lean).
  GIVEN WITH THE SEED: the statements are not yours to turn. If you find one false, say at which input.
  Laid BY PROGRAM, IN A SANDBOX (cutbox-rows.mjs): the forced cells as the released guide's own fill.sh prints them over the translation 037d75a27ff6904a… (all of the seat's roots in one cut). By AI agents, Wed Nov 11 2026. No macro, syntax, notation, axiom, sorry.
-/
import Derived.Test.YtdfclikobfjnoaaChecked
import GoSem.Claim
import GoSem.ClaimJoined
import GoSem.ClaimMapViews
import Derived.JoinedTies
import Derived.KernelRfl
namespace Go.Proofs.Ytdfclikobfjnoaa
/- THE CELL 'sum', in the pinned program and in every row, IS THE sha256 OF THE DUMP (.gsa) THAT YtdfclikobfjnoaaProg.lean LOADS. Nothing in Lean hashes anything: it is a label: what it is worth is what the hold of that sum in a sandbox is worth. -/
noncomputable def Try.pinned : Pinned := { name := "ytdfclikobfjnoaa", sum := "037d75a27ff6904ad6d58d883b38c8a12c27ef40e3dede3aacea5756e2cd775c", checked := Try.checked }
namespace Rows
def none {H : Type} : Left H := { results := [], args := [] }

/-- 'laws.FnFormIn': WHATEVER THE INPUT: true; the input reads as it did. -/
def fnFormInSpec : ChangeSpec := { name := "fnFormIn", fn := fun _ => fun
  | [d] => { results := [.lit (.bool true)], args := [d] }
  | _ => none }
def fnFormInRow : OpenClaim := { program := "ytdfclikobfjnoaa", sum := "037d75a27ff6904ad6d58d883b38c8a12c27ef40e3dede3aacea5756e2cd775c", func := "loop.example/tworows/laws.FnFormIn", spec := "fnFormIn", apart := false }
def FnFormInSaid : Prop := fnFormInRow.holds Try.pinned (OpenSpec.ofChange fnFormInSpec)

/-- ITS FALSE NEIGHBOUR: 'it returns false'. Refute it at one input. -/
def fnFormInWrong : ChangeSpec := { name := "fnFormIn", fn := fun _ => fun
  | [d] => { results := [.lit (.bool false)], args := [d] }
  | _ => none }
def FnFormInWrongFalsely : Prop := fnFormInRow.holds Try.pinned (OpenSpec.ofChange fnFormInWrong)

/-- 'laws.FnValue': WHATEVER THE INPUT: true; the input reads as it did. -/
def fnValueSpec : ChangeSpec := { name := "fnValue", fn := fun _ => fun
  | [d] => { results := [.lit (.bool true)], args := [d] }
  | _ => none }
def fnValueRow : OpenClaim := { program := "ytdfclikobfjnoaa", sum := "037d75a27ff6904ad6d58d883b38c8a12c27ef40e3dede3aacea5756e2cd775c", func := "loop.example/tworows/laws.FnValue", spec := "fnValue", unfollowed := true, recurses := true, apart := false }
def FnValueSaid : Prop := fnValueRow.holds Try.pinned (OpenSpec.ofChange fnValueSpec)

/-- ITS FALSE NEIGHBOUR: 'it returns false'. Refute it at one input. -/
def fnValueWrong : ChangeSpec := { name := "fnValue", fn := fun _ => fun
  | [d] => { results := [.lit (.bool false)], args := [d] }
  | _ => none }
def FnValueWrongFalsely : Prop := fnValueRow.holds Try.pinned (OpenSpec.ofChange fnValueWrong)

/-- 'laws.FnDisc': WHATEVER THE INPUT: true; the input reads as it did. -/
def fnDiscSpec : ChangeSpec := { name := "fnDisc", fn := fun _ => fun
  | [d] => { results := [.lit (.bool true)], args := [d] }
  | _ => none }
def fnDiscRow : OpenClaim := { program := "ytdfclikobfjnoaa", sum := "037d75a27ff6904ad6d58d883b38c8a12c27ef40e3dede3aacea5756e2cd775c", func := "loop.example/tworows/laws.FnDisc", spec := "fnDisc", unfollowed := true, recurses := true, apart := false }
def FnDiscSaid : Prop := fnDiscRow.holds Try.pinned (OpenSpec.ofChange fnDiscSpec)

/-- ITS FALSE NEIGHBOUR: 'it returns false'. Refute it at one input. -/
def fnDiscWrong : ChangeSpec := { name := "fnDisc", fn := fun _ => fun
  | [d] => { results := [.lit (.bool false)], args := [d] }
  | _ => none }
def FnDiscWrongFalsely : Prop := fnDiscRow.holds Try.pinned (OpenSpec.ofChange fnDiscWrong)

/-- 'laws.FnMoved': WHATEVER THE INPUT: true; the input reads as it did. -/
def fnMovedSpec : ChangeSpec := { name := "fnMoved", fn := fun _ => fun
  | [d] => { results := [.lit (.bool true)], args := [d] }
  | _ => none }
def fnMovedRow : OpenClaim := { program := "ytdfclikobfjnoaa", sum := "037d75a27ff6904ad6d58d883b38c8a12c27ef40e3dede3aacea5756e2cd775c", func := "loop.example/tworows/laws.FnMoved", spec := "fnMoved", unfollowed := true, recurses := true, apart := false }
def FnMovedSaid : Prop := fnMovedRow.holds Try.pinned (OpenSpec.ofChange fnMovedSpec)

/-- ITS FALSE NEIGHBOUR: 'it returns false'. Refute it at one input. -/
def fnMovedWrong : ChangeSpec := { name := "fnMoved", fn := fun _ => fun
  | [d] => { results := [.lit (.bool false)], args := [d] }
  | _ => none }
def FnMovedWrongFalsely : Prop := fnMovedRow.holds Try.pinned (OpenSpec.ofChange fnMovedWrong)

/- THE SECOND FORM. 'bulk': how many values and letters a reading holds, each counted each time it is reached (what is shared counts as often as it is met; a slice's spare places count too). A statement '..UptoSaid' is the law's where the arguments, and the package variables that the reading takes, are together of bulk at most 1048576: NARROWER than '..Said'. Prove '..Said' where nothing that the law and all that it calls make is longer than what came in: it says more and counts as full. Else prove '..UptoSaid'. A law counts once. -/
mutual
def uptoBulk {H : Type} : DataW H → Nat
  | .lit (.string bytes) => bytes.length + 1
  | .lit _ => 1
  | .nil => 1
  | .ptr d => uptoBulk d + 1
  | .slice elems spare => uptoBulkAll elems + uptoBulkAll spare + 1
  | .agg parts => uptoBulkAll parts + 1
  | .iface _ d => uptoBulk d + 1
  | .map entries => uptoBulkEntries entries + 1
  | .held _ => 1
def uptoBulkAll {H : Type} : List (DataW H) → Nat
  | [] => 0
  | d :: r => uptoBulk d + uptoBulkAll r
def uptoBulkEntries {H : Type} : List (Lit × DataW H) → Nat
  | [] => 0
  | x :: r => uptoBulkEntry x + uptoBulkEntries r
def uptoBulkEntry {H : Type} : Lit × DataW H → Nat
  | (.string bytes, d) => bytes.length + uptoBulk d + 1
  | (_, d) => uptoBulk d + 1
 end
def uptoSmall : (H : Type) → List (DataW H) → Bool := fun _ ds => decide (uptoBulkAll ds ≤ 1048576)
def OpenSpec.upto (s : _root_.Go.ChangeSpec) : _root_.Go.OpenSpec := { _root_.Go.OpenSpec.ofChange s with cond := some uptoSmall }

/-- 'laws.FnFormIn', WHERE WHAT IT READS IS OF BULK AT MOST 1048576: true; the input reads as it did. -/
def fnFormInUptoRow : OpenClaim := { program := "ytdfclikobfjnoaa", sum := "037d75a27ff6904ad6d58d883b38c8a12c27ef40e3dede3aacea5756e2cd775c", func := "loop.example/tworows/laws.FnFormIn", spec := "fnFormIn", apart := false, narrowed := true }
def FnFormInUptoSaid : Prop := fnFormInUptoRow.holds Try.pinned (OpenSpec.upto fnFormInSpec)

/-- 'laws.FnValue', WHERE WHAT IT READS IS OF BULK AT MOST 1048576: true; the input reads as it did. -/
def fnValueUptoRow : OpenClaim := { program := "ytdfclikobfjnoaa", sum := "037d75a27ff6904ad6d58d883b38c8a12c27ef40e3dede3aacea5756e2cd775c", func := "loop.example/tworows/laws.FnValue", spec := "fnValue", unfollowed := true, recurses := true, apart := false, narrowed := true }
def FnValueUptoSaid : Prop := fnValueUptoRow.holds Try.pinned (OpenSpec.upto fnValueSpec)

/-- 'laws.FnDisc', WHERE WHAT IT READS IS OF BULK AT MOST 1048576: true; the input reads as it did. -/
def fnDiscUptoRow : OpenClaim := { program := "ytdfclikobfjnoaa", sum := "037d75a27ff6904ad6d58d883b38c8a12c27ef40e3dede3aacea5756e2cd775c", func := "loop.example/tworows/laws.FnDisc", spec := "fnDisc", unfollowed := true, recurses := true, apart := false, narrowed := true }
def FnDiscUptoSaid : Prop := fnDiscUptoRow.holds Try.pinned (OpenSpec.upto fnDiscSpec)

/-- 'laws.FnMoved', WHERE WHAT IT READS IS OF BULK AT MOST 1048576: true; the input reads as it did. -/
def fnMovedUptoRow : OpenClaim := { program := "ytdfclikobfjnoaa", sum := "037d75a27ff6904ad6d58d883b38c8a12c27ef40e3dede3aacea5756e2cd775c", func := "loop.example/tworows/laws.FnMoved", spec := "fnMoved", unfollowed := true, recurses := true, apart := false, narrowed := true }
def FnMovedUptoSaid : Prop := fnMovedUptoRow.holds Try.pinned (OpenSpec.upto fnMovedSpec)

end Rows
end Go.Proofs.Ytdfclikobfjnoaa

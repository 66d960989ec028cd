/-
  No cell of these rows narrows 'for every input' (looked for: loops, veiled, ifaces, maps, wideKeys, modest, calm, conditions, laid).
  DERIVED. THE GIVEN ROWS OF THIS SEAT. 8 by the template 'for every input the law returns true; each argument reads behind the call as it read before'; 0 by the template 'total and deterministic' (their statements: YtflcgokibpimlaaTotals.lean).
  GIVEN WITH THE SEED: the statements are not yours to turn. If you find one false, say at which input.
  Laid BY PROGRAM, IN A SANDBOX (cutbox-rows.mjs): the forced cells as the released guide's own fill.sh prints them over the translation 3f10b371192c1b6a… (all of the seat's roots in one cut). By AI agents, Wed Nov 11 2026. No macro, syntax, notation, axiom, sorry.
-/
import Derived.Test.YtflcgokibpimlaaChecked
import GoSem.Claim
import GoSem.ClaimJoined
import GoSem.ClaimMapViews
import Derived.JoinedTies
import Derived.KernelRfl
namespace Go.Proofs.Ytflcgokibpimlaa
/- THE CELL 'sum', in the pinned program and in every row, IS THE sha256 OF THE DUMP (.gsa) THAT YtflcgokibpimlaaProg.lean LOADS. Nothing in Lean hashes anything: it is a label: what it is worth is what the hold of that sum in a sandbox is worth. -/
noncomputable def Try.pinned : Pinned := { name := "ytflcgokibpimlaa", sum := "3f10b371192c1b6a6d481f1b17ea5ca24ae0614477681597c7b0de304b869aa8", checked := Try.checked }
namespace Rows
def none {H : Type} : Left H := { results := [], args := [] }

/-- 'laws.FnExactFormIn': WHATEVER THE INPUT: true; the input reads as it did. -/
def fnExactFormInSpec : ChangeSpec := { name := "fnExactFormIn", fn := fun _ => fun
  | [d] => { results := [.lit (.bool true)], args := [d] }
  | _ => none }
def fnExactFormInRow : OpenClaim := { program := "ytflcgokibpimlaa", sum := "3f10b371192c1b6a6d481f1b17ea5ca24ae0614477681597c7b0de304b869aa8", func := "loop.example/tworows/laws.FnExactFormIn", spec := "fnExactFormIn", apart := false }
def FnExactFormInSaid : Prop := fnExactFormInRow.holds Try.pinned (OpenSpec.ofChange fnExactFormInSpec)

/-- ITS FALSE NEIGHBOUR: 'it returns false'. Refute it at one input. -/
def fnExactFormInWrong : ChangeSpec := { name := "fnExactFormIn", fn := fun _ => fun
  | [d] => { results := [.lit (.bool false)], args := [d] }
  | _ => none }
def FnExactFormInWrongFalsely : Prop := fnExactFormInRow.holds Try.pinned (OpenSpec.ofChange fnExactFormInWrong)

/-- 'laws.FnExactFormValue': WHATEVER THE INPUT: true; the input reads as it did. -/
def fnExactFormValueSpec : ChangeSpec := { name := "fnExactFormValue", fn := fun _ => fun
  | [d1, d2, d3] => { results := [.lit (.bool true)], args := [d1, d2, d3] }
  | _ => none }
def fnExactFormValueRow : OpenClaim := { program := "ytflcgokibpimlaa", sum := "3f10b371192c1b6a6d481f1b17ea5ca24ae0614477681597c7b0de304b869aa8", func := "loop.example/tworows/laws.FnExactFormValue", spec := "fnExactFormValue", apart := false }
def FnExactFormValueSaid : Prop := fnExactFormValueRow.holds Try.pinned (OpenSpec.ofChange fnExactFormValueSpec)

/-- ITS FALSE NEIGHBOUR: 'it returns false'. Refute it at one input. -/
def fnExactFormValueWrong : ChangeSpec := { name := "fnExactFormValue", fn := fun _ => fun
  | [d1, d2, d3] => { results := [.lit (.bool false)], args := [d1, d2, d3] }
  | _ => none }
def FnExactFormValueWrongFalsely : Prop := fnExactFormValueRow.holds Try.pinned (OpenSpec.ofChange fnExactFormValueWrong)

/-- 'laws.FnExactFormDisc': WHATEVER THE INPUT: true; the input reads as it did. -/
def fnExactFormDiscSpec : ChangeSpec := { name := "fnExactFormDisc", fn := fun _ => fun
  | [d] => { results := [.lit (.bool true)], args := [d] }
  | _ => none }
def fnExactFormDiscRow : OpenClaim := { program := "ytflcgokibpimlaa", sum := "3f10b371192c1b6a6d481f1b17ea5ca24ae0614477681597c7b0de304b869aa8", func := "loop.example/tworows/laws.FnExactFormDisc", spec := "fnExactFormDisc", apart := false }
def FnExactFormDiscSaid : Prop := fnExactFormDiscRow.holds Try.pinned (OpenSpec.ofChange fnExactFormDiscSpec)

/-- ITS FALSE NEIGHBOUR: 'it returns false'. Refute it at one input. -/
def fnExactFormDiscWrong : ChangeSpec := { name := "fnExactFormDisc", fn := fun _ => fun
  | [d] => { results := [.lit (.bool false)], args := [d] }
  | _ => none }
def FnExactFormDiscWrongFalsely : Prop := fnExactFormDiscRow.holds Try.pinned (OpenSpec.ofChange fnExactFormDiscWrong)

/-- 'laws.FnExactFormMoved': WHATEVER THE INPUT: true; the input reads as it did. -/
def fnExactFormMovedSpec : ChangeSpec := { name := "fnExactFormMoved", fn := fun _ => fun
  | [d1, d2] => { results := [.lit (.bool true)], args := [d1, d2] }
  | _ => none }
def fnExactFormMovedRow : OpenClaim := { program := "ytflcgokibpimlaa", sum := "3f10b371192c1b6a6d481f1b17ea5ca24ae0614477681597c7b0de304b869aa8", func := "loop.example/tworows/laws.FnExactFormMoved", spec := "fnExactFormMoved", unfollowed := true, recurses := true, apart := false }
def FnExactFormMovedSaid : Prop := fnExactFormMovedRow.holds Try.pinned (OpenSpec.ofChange fnExactFormMovedSpec)

/-- ITS FALSE NEIGHBOUR: 'it returns false'. Refute it at one input. -/
def fnExactFormMovedWrong : ChangeSpec := { name := "fnExactFormMoved", fn := fun _ => fun
  | [d1, d2] => { results := [.lit (.bool false)], args := [d1, d2] }
  | _ => none }
def FnExactFormMovedWrongFalsely : Prop := fnExactFormMovedRow.holds Try.pinned (OpenSpec.ofChange fnExactFormMovedWrong)

/-- 'laws.FnExactFormShort': WHATEVER THE INPUT: true; the input reads as it did. -/
def fnExactFormShortSpec : ChangeSpec := { name := "fnExactFormShort", fn := fun _ => fun
  | [d] => { results := [.lit (.bool true)], args := [d] }
  | _ => none }
def fnExactFormShortRow : OpenClaim := { program := "ytflcgokibpimlaa", sum := "3f10b371192c1b6a6d481f1b17ea5ca24ae0614477681597c7b0de304b869aa8", func := "loop.example/tworows/laws.FnExactFormShort", spec := "fnExactFormShort", unfollowed := true, recurses := true, apart := false }
def FnExactFormShortSaid : Prop := fnExactFormShortRow.holds Try.pinned (OpenSpec.ofChange fnExactFormShortSpec)

/-- ITS FALSE NEIGHBOUR: 'it returns false'. Refute it at one input. -/
def fnExactFormShortWrong : ChangeSpec := { name := "fnExactFormShort", fn := fun _ => fun
  | [d] => { results := [.lit (.bool false)], args := [d] }
  | _ => none }
def FnExactFormShortWrongFalsely : Prop := fnExactFormShortRow.holds Try.pinned (OpenSpec.ofChange fnExactFormShortWrong)

/-- 'laws.FnExactFormSame': WHATEVER THE INPUT: true; the input reads as it did. -/
def fnExactFormSameSpec : ChangeSpec := { name := "fnExactFormSame", fn := fun _ => fun
  | [d1, d2] => { results := [.lit (.bool true)], args := [d1, d2] }
  | _ => none }
def fnExactFormSameRow : OpenClaim := { program := "ytflcgokibpimlaa", sum := "3f10b371192c1b6a6d481f1b17ea5ca24ae0614477681597c7b0de304b869aa8", func := "loop.example/tworows/laws.FnExactFormSame", spec := "fnExactFormSame", unfollowed := true, recurses := true, apart := false }
def FnExactFormSameSaid : Prop := fnExactFormSameRow.holds Try.pinned (OpenSpec.ofChange fnExactFormSameSpec)

/-- ITS FALSE NEIGHBOUR: 'it returns false'. Refute it at one input. -/
def fnExactFormSameWrong : ChangeSpec := { name := "fnExactFormSame", fn := fun _ => fun
  | [d1, d2] => { results := [.lit (.bool false)], args := [d1, d2] }
  | _ => none }
def FnExactFormSameWrongFalsely : Prop := fnExactFormSameRow.holds Try.pinned (OpenSpec.ofChange fnExactFormSameWrong)

/-- 'laws.FnExactFormAll': WHATEVER THE INPUT: true; the input reads as it did. -/
def fnExactFormAllSpec : ChangeSpec := { name := "fnExactFormAll", fn := fun _ => fun
  | [d] => { results := [.lit (.bool true)], args := [d] }
  | _ => none }
def fnExactFormAllRow : OpenClaim := { program := "ytflcgokibpimlaa", sum := "3f10b371192c1b6a6d481f1b17ea5ca24ae0614477681597c7b0de304b869aa8", func := "loop.example/tworows/laws.FnExactFormAll", spec := "fnExactFormAll", apart := false }
def FnExactFormAllSaid : Prop := fnExactFormAllRow.holds Try.pinned (OpenSpec.ofChange fnExactFormAllSpec)

/-- ITS FALSE NEIGHBOUR: 'it returns false'. Refute it at one input. -/
def fnExactFormAllWrong : ChangeSpec := { name := "fnExactFormAll", fn := fun _ => fun
  | [d] => { results := [.lit (.bool false)], args := [d] }
  | _ => none }
def FnExactFormAllWrongFalsely : Prop := fnExactFormAllRow.holds Try.pinned (OpenSpec.ofChange fnExactFormAllWrong)

/-- 'laws.FnExactFormCount': WHATEVER THE INPUT: true; the input reads as it did. -/
def fnExactFormCountSpec : ChangeSpec := { name := "fnExactFormCount", fn := fun _ => fun
  | [d1, d2] => { results := [.lit (.bool true)], args := [d1, d2] }
  | _ => none }
def fnExactFormCountRow : OpenClaim := { program := "ytflcgokibpimlaa", sum := "3f10b371192c1b6a6d481f1b17ea5ca24ae0614477681597c7b0de304b869aa8", func := "loop.example/tworows/laws.FnExactFormCount", spec := "fnExactFormCount", apart := false }
def FnExactFormCountSaid : Prop := fnExactFormCountRow.holds Try.pinned (OpenSpec.ofChange fnExactFormCountSpec)

/-- ITS FALSE NEIGHBOUR: 'it returns false'. Refute it at one input. -/
def fnExactFormCountWrong : ChangeSpec := { name := "fnExactFormCount", fn := fun _ => fun
  | [d1, d2] => { results := [.lit (.bool false)], args := [d1, d2] }
  | _ => none }
def FnExactFormCountWrongFalsely : Prop := fnExactFormCountRow.holds Try.pinned (OpenSpec.ofChange fnExactFormCountWrong)

/- THE SECOND FORM. 'bulk': how many values and letters a reading holds, each counted each time it is reached (what is shared counts as often as it is met; a slice's spare places count too). A statement '..UptoSaid' is the law's where the arguments, and the package variables that the reading takes, are together of bulk at most 1048576: NARROWER than '..Said'. Prove '..Said' where nothing that the law and all that it calls make is longer than what came in: it says more and counts as full. Else prove '..UptoSaid'. A law counts once. -/
mutual
def uptoBulk {H : Type} : DataW H → Nat
  | .lit (.string bytes) => bytes.length + 1
  | .lit _ => 1
  | .nil => 1
  | .ptr d => uptoBulk d + 1
  | .slice elems spare => uptoBulkAll elems + uptoBulkAll spare + 1
  | .agg parts => uptoBulkAll parts + 1
  | .iface _ d => uptoBulk d + 1
  | .map entries => uptoBulkEntries entries + 1
  | .held _ => 1
def uptoBulkAll {H : Type} : List (DataW H) → Nat
  | [] => 0
  | d :: r => uptoBulk d + uptoBulkAll r
def uptoBulkEntries {H : Type} : List (Lit × DataW H) → Nat
  | [] => 0
  | x :: r => uptoBulkEntry x + uptoBulkEntries r
def uptoBulkEntry {H : Type} : Lit × DataW H → Nat
  | (.string bytes, d) => bytes.length + uptoBulk d + 1
  | (_, d) => uptoBulk d + 1
 end
def uptoSmall : (H : Type) → List (DataW H) → Bool := fun _ ds => decide (uptoBulkAll ds ≤ 1048576)
def OpenSpec.upto (s : _root_.Go.ChangeSpec) : _root_.Go.OpenSpec := { _root_.Go.OpenSpec.ofChange s with cond := some uptoSmall }

/-- 'laws.FnExactFormIn', WHERE WHAT IT READS IS OF BULK AT MOST 1048576: true; the input reads as it did. -/
def fnExactFormInUptoRow : OpenClaim := { program := "ytflcgokibpimlaa", sum := "3f10b371192c1b6a6d481f1b17ea5ca24ae0614477681597c7b0de304b869aa8", func := "loop.example/tworows/laws.FnExactFormIn", spec := "fnExactFormIn", apart := false, narrowed := true }
def FnExactFormInUptoSaid : Prop := fnExactFormInUptoRow.holds Try.pinned (OpenSpec.upto fnExactFormInSpec)

/-- 'laws.FnExactFormValue', WHERE WHAT IT READS IS OF BULK AT MOST 1048576: true; the input reads as it did. -/
def fnExactFormValueUptoRow : OpenClaim := { program := "ytflcgokibpimlaa", sum := "3f10b371192c1b6a6d481f1b17ea5ca24ae0614477681597c7b0de304b869aa8", func := "loop.example/tworows/laws.FnExactFormValue", spec := "fnExactFormValue", apart := false, narrowed := true }
def FnExactFormValueUptoSaid : Prop := fnExactFormValueUptoRow.holds Try.pinned (OpenSpec.upto fnExactFormValueSpec)

/-- 'laws.FnExactFormDisc', WHERE WHAT IT READS IS OF BULK AT MOST 1048576: true; the input reads as it did. -/
def fnExactFormDiscUptoRow : OpenClaim := { program := "ytflcgokibpimlaa", sum := "3f10b371192c1b6a6d481f1b17ea5ca24ae0614477681597c7b0de304b869aa8", func := "loop.example/tworows/laws.FnExactFormDisc", spec := "fnExactFormDisc", apart := false, narrowed := true }
def FnExactFormDiscUptoSaid : Prop := fnExactFormDiscUptoRow.holds Try.pinned (OpenSpec.upto fnExactFormDiscSpec)

/-- 'laws.FnExactFormMoved', WHERE WHAT IT READS IS OF BULK AT MOST 1048576: true; the input reads as it did. -/
def fnExactFormMovedUptoRow : OpenClaim := { program := "ytflcgokibpimlaa", sum := "3f10b371192c1b6a6d481f1b17ea5ca24ae0614477681597c7b0de304b869aa8", func := "loop.example/tworows/laws.FnExactFormMoved", spec := "fnExactFormMoved", unfollowed := true, recurses := true, apart := false, narrowed := true }
def FnExactFormMovedUptoSaid : Prop := fnExactFormMovedUptoRow.holds Try.pinned (OpenSpec.upto fnExactFormMovedSpec)

/-- 'laws.FnExactFormShort', WHERE WHAT IT READS IS OF BULK AT MOST 1048576: true; the input reads as it did. -/
def fnExactFormShortUptoRow : OpenClaim := { program := "ytflcgokibpimlaa", sum := "3f10b371192c1b6a6d481f1b17ea5ca24ae0614477681597c7b0de304b869aa8", func := "loop.example/tworows/laws.FnExactFormShort", spec := "fnExactFormShort", unfollowed := true, recurses := true, apart := false, narrowed := true }
def FnExactFormShortUptoSaid : Prop := fnExactFormShortUptoRow.holds Try.pinned (OpenSpec.upto fnExactFormShortSpec)

/-- 'laws.FnExactFormSame', WHERE WHAT IT READS IS OF BULK AT MOST 1048576: true; the input reads as it did. -/
def fnExactFormSameUptoRow : OpenClaim := { program := "ytflcgokibpimlaa", sum := "3f10b371192c1b6a6d481f1b17ea5ca24ae0614477681597c7b0de304b869aa8", func := "loop.example/tworows/laws.FnExactFormSame", spec := "fnExactFormSame", unfollowed := true, recurses := true, apart := false, narrowed := true }
def FnExactFormSameUptoSaid : Prop := fnExactFormSameUptoRow.holds Try.pinned (OpenSpec.upto fnExactFormSameSpec)

/-- 'laws.FnExactFormAll', WHERE WHAT IT READS IS OF BULK AT MOST 1048576: true; the input reads as it did. -/
def fnExactFormAllUptoRow : OpenClaim := { program := "ytflcgokibpimlaa", sum := "3f10b371192c1b6a6d481f1b17ea5ca24ae0614477681597c7b0de304b869aa8", func := "loop.example/tworows/laws.FnExactFormAll", spec := "fnExactFormAll", apart := false, narrowed := true }
def FnExactFormAllUptoSaid : Prop := fnExactFormAllUptoRow.holds Try.pinned (OpenSpec.upto fnExactFormAllSpec)

/-- 'laws.FnExactFormCount', WHERE WHAT IT READS IS OF BULK AT MOST 1048576: true; the input reads as it did. -/
def fnExactFormCountUptoRow : OpenClaim := { program := "ytflcgokibpimlaa", sum := "3f10b371192c1b6a6d481f1b17ea5ca24ae0614477681597c7b0de304b869aa8", func := "loop.example/tworows/laws.FnExactFormCount", spec := "fnExactFormCount", apart := false, narrowed := true }
def FnExactFormCountUptoSaid : Prop := fnExactFormCountUptoRow.holds Try.pinned (OpenSpec.upto fnExactFormCountSpec)

end Rows
end Go.Proofs.Ytflcgokibpimlaa

/-
  No cell of these rows narrows 'for every input' (looked for: loops, veiled, ifaces, maps, wideKeys, modest, calm, conditions, laid).
  DERIVED. THE GIVEN ROWS OF THIS SEAT. 5 by the template 'for every input the law returns true; each argument reads behind the call as it read before'; 0 by the template 'total and deterministic' (their statements: YtijbafkaligcdaaTotals.lean).
  GIVEN WITH THE SEED: the statements are not yours to turn. If you find one false, say at which input.
  Laid BY PROGRAM, IN A SANDBOX (cutbox-rows.mjs): the forced cells as the released guide's own fill.sh prints them over the translation 8ec4e04885f00e83… (all of the seat's roots in one cut). By AI agents, Wed Nov 11 2026. No macro, syntax, notation, axiom, sorry.
-/
import Derived.Test.YtijbafkaligcdaaChecked
import GoSem.Claim
import GoSem.ClaimJoined
import GoSem.ClaimMapViews
import Derived.JoinedTies
import Derived.KernelRfl
namespace Go.Proofs.Ytijbafkaligcdaa
/- THE CELL 'sum', in the pinned program and in every row, IS THE sha256 OF THE DUMP (.gsa) THAT YtijbafkaligcdaaProg.lean LOADS. Nothing in Lean hashes anything: it is a label: what it is worth is what the hold of that sum in a sandbox is worth. -/
noncomputable def Try.pinned : Pinned := { name := "ytijbafkaligcdaa", sum := "8ec4e04885f00e83bdd4fa0860ad2aed087172802edb640e56cb148c3bf1fd7c", checked := Try.checked }
namespace Rows
def none {H : Type} : Left H := { results := [], args := [] }

/-- 'laws.FnExactNecklaceIn': WHATEVER THE INPUT: true; the input reads as it did. -/
def fnExactNecklaceInSpec : ChangeSpec := { name := "fnExactNecklaceIn", fn := fun _ => fun
  | [d] => { results := [.lit (.bool true)], args := [d] }
  | _ => none }
def fnExactNecklaceInRow : OpenClaim := { program := "ytijbafkaligcdaa", sum := "8ec4e04885f00e83bdd4fa0860ad2aed087172802edb640e56cb148c3bf1fd7c", func := "loop.example/tworows/laws.FnExactNecklaceIn", spec := "fnExactNecklaceIn", inPlace := ["internal/bytealg.IndexByteString"], unfollowed := true, recurses := true, apart := false }
def FnExactNecklaceInSaid : Prop := fnExactNecklaceInRow.holds Try.pinned (OpenSpec.ofChange fnExactNecklaceInSpec)

/-- ITS FALSE NEIGHBOUR: 'it returns false'. Refute it at one input. -/
def fnExactNecklaceInWrong : ChangeSpec := { name := "fnExactNecklaceIn", fn := fun _ => fun
  | [d] => { results := [.lit (.bool false)], args := [d] }
  | _ => none }
def FnExactNecklaceInWrongFalsely : Prop := fnExactNecklaceInRow.holds Try.pinned (OpenSpec.ofChange fnExactNecklaceInWrong)

/-- 'laws.FnExactNecklaceOf': WHATEVER THE INPUT: true; the input reads as it did. -/
def fnExactNecklaceOfSpec : ChangeSpec := { name := "fnExactNecklaceOf", fn := fun _ => fun
  | [d] => { results := [.lit (.bool true)], args := [d] }
  | _ => none }
def fnExactNecklaceOfRow : OpenClaim := { program := "ytijbafkaligcdaa", sum := "8ec4e04885f00e83bdd4fa0860ad2aed087172802edb640e56cb148c3bf1fd7c", func := "loop.example/tworows/laws.FnExactNecklaceOf", spec := "fnExactNecklaceOf", inPlace := ["internal/bytealg.IndexByteString"], unfollowed := true, recurses := true, apart := false }
def FnExactNecklaceOfSaid : Prop := fnExactNecklaceOfRow.holds Try.pinned (OpenSpec.ofChange fnExactNecklaceOfSpec)

/-- ITS FALSE NEIGHBOUR: 'it returns false'. Refute it at one input. -/
def fnExactNecklaceOfWrong : ChangeSpec := { name := "fnExactNecklaceOf", fn := fun _ => fun
  | [d] => { results := [.lit (.bool false)], args := [d] }
  | _ => none }
def FnExactNecklaceOfWrongFalsely : Prop := fnExactNecklaceOfRow.holds Try.pinned (OpenSpec.ofChange fnExactNecklaceOfWrong)

/-- 'laws.FnExactNecklaceMat': WHATEVER THE INPUT: true; the input reads as it did. -/
def fnExactNecklaceMatSpec : ChangeSpec := { name := "fnExactNecklaceMat", fn := fun _ => fun
  | [d] => { results := [.lit (.bool true)], args := [d] }
  | _ => none }
def fnExactNecklaceMatRow : OpenClaim := { program := "ytijbafkaligcdaa", sum := "8ec4e04885f00e83bdd4fa0860ad2aed087172802edb640e56cb148c3bf1fd7c", func := "loop.example/tworows/laws.FnExactNecklaceMat", spec := "fnExactNecklaceMat", unfollowed := true, recurses := true, apart := false }
def FnExactNecklaceMatSaid : Prop := fnExactNecklaceMatRow.holds Try.pinned (OpenSpec.ofChange fnExactNecklaceMatSpec)

/-- ITS FALSE NEIGHBOUR: 'it returns false'. Refute it at one input. -/
def fnExactNecklaceMatWrong : ChangeSpec := { name := "fnExactNecklaceMat", fn := fun _ => fun
  | [d] => { results := [.lit (.bool false)], args := [d] }
  | _ => none }
def FnExactNecklaceMatWrongFalsely : Prop := fnExactNecklaceMatRow.holds Try.pinned (OpenSpec.ofChange fnExactNecklaceMatWrong)

/-- 'laws.FnExactNecklaceBy': WHATEVER THE INPUT: true; the input reads as it did. -/
def fnExactNecklaceBySpec : ChangeSpec := { name := "fnExactNecklaceBy", fn := fun _ => fun
  | [d1, d2, d3] => { results := [.lit (.bool true)], args := [d1, d2, d3] }
  | _ => none }
def fnExactNecklaceByRow : OpenClaim := { program := "ytijbafkaligcdaa", sum := "8ec4e04885f00e83bdd4fa0860ad2aed087172802edb640e56cb148c3bf1fd7c", func := "loop.example/tworows/laws.FnExactNecklaceBy", spec := "fnExactNecklaceBy", apart := false }
def FnExactNecklaceBySaid : Prop := fnExactNecklaceByRow.holds Try.pinned (OpenSpec.ofChange fnExactNecklaceBySpec)

/-- ITS FALSE NEIGHBOUR: 'it returns false'. Refute it at one input. -/
def fnExactNecklaceByWrong : ChangeSpec := { name := "fnExactNecklaceBy", fn := fun _ => fun
  | [d1, d2, d3] => { results := [.lit (.bool false)], args := [d1, d2, d3] }
  | _ => none }
def FnExactNecklaceByWrongFalsely : Prop := fnExactNecklaceByRow.holds Try.pinned (OpenSpec.ofChange fnExactNecklaceByWrong)

/-- 'laws.FnExactNecklaceSame': WHATEVER THE INPUT: true; the input reads as it did. -/
def fnExactNecklaceSameSpec : ChangeSpec := { name := "fnExactNecklaceSame", fn := fun _ => fun
  | [d1, d2] => { results := [.lit (.bool true)], args := [d1, d2] }
  | _ => none }
def fnExactNecklaceSameRow : OpenClaim := { program := "ytijbafkaligcdaa", sum := "8ec4e04885f00e83bdd4fa0860ad2aed087172802edb640e56cb148c3bf1fd7c", func := "loop.example/tworows/laws.FnExactNecklaceSame", spec := "fnExactNecklaceSame", unfollowed := true, recurses := true, apart := false }
def FnExactNecklaceSameSaid : Prop := fnExactNecklaceSameRow.holds Try.pinned (OpenSpec.ofChange fnExactNecklaceSameSpec)

/-- ITS FALSE NEIGHBOUR: 'it returns false'. Refute it at one input. -/
def fnExactNecklaceSameWrong : ChangeSpec := { name := "fnExactNecklaceSame", fn := fun _ => fun
  | [d1, d2] => { results := [.lit (.bool false)], args := [d1, d2] }
  | _ => none }
def FnExactNecklaceSameWrongFalsely : Prop := fnExactNecklaceSameRow.holds Try.pinned (OpenSpec.ofChange fnExactNecklaceSameWrong)

/- THE SECOND FORM. 'bulk': how many values and letters a reading holds, each counted each time it is reached (what is shared counts as often as it is met; a slice's spare places count too). A statement '..UptoSaid' is the law's where the arguments, and the package variables that the reading takes, are together of bulk at most 1048576: NARROWER than '..Said'. Prove '..Said' where nothing that the law and all that it calls make is longer than what came in: it says more and counts as full. Else prove '..UptoSaid'. A law counts once. -/
mutual
def uptoBulk {H : Type} : DataW H → Nat
  | .lit (.string bytes) => bytes.length + 1
  | .lit _ => 1
  | .nil => 1
  | .ptr d => uptoBulk d + 1
  | .slice elems spare => uptoBulkAll elems + uptoBulkAll spare + 1
  | .agg parts => uptoBulkAll parts + 1
  | .iface _ d => uptoBulk d + 1
  | .map entries => uptoBulkEntries entries + 1
  | .held _ => 1
def uptoBulkAll {H : Type} : List (DataW H) → Nat
  | [] => 0
  | d :: r => uptoBulk d + uptoBulkAll r
def uptoBulkEntries {H : Type} : List (Lit × DataW H) → Nat
  | [] => 0
  | x :: r => uptoBulkEntry x + uptoBulkEntries r
def uptoBulkEntry {H : Type} : Lit × DataW H → Nat
  | (.string bytes, d) => bytes.length + uptoBulk d + 1
  | (_, d) => uptoBulk d + 1
 end
def uptoSmall : (H : Type) → List (DataW H) → Bool := fun _ ds => decide (uptoBulkAll ds ≤ 1048576)
def OpenSpec.upto (s : _root_.Go.ChangeSpec) : _root_.Go.OpenSpec := { _root_.Go.OpenSpec.ofChange s with cond := some uptoSmall }

/-- 'laws.FnExactNecklaceIn', WHERE WHAT IT READS IS OF BULK AT MOST 1048576: true; the input reads as it did. -/
def fnExactNecklaceInUptoRow : OpenClaim := { program := "ytijbafkaligcdaa", sum := "8ec4e04885f00e83bdd4fa0860ad2aed087172802edb640e56cb148c3bf1fd7c", func := "loop.example/tworows/laws.FnExactNecklaceIn", spec := "fnExactNecklaceIn", inPlace := ["internal/bytealg.IndexByteString"], unfollowed := true, recurses := true, apart := false, narrowed := true }
def FnExactNecklaceInUptoSaid : Prop := fnExactNecklaceInUptoRow.holds Try.pinned (OpenSpec.upto fnExactNecklaceInSpec)

/-- 'laws.FnExactNecklaceOf', WHERE WHAT IT READS IS OF BULK AT MOST 1048576: true; the input reads as it did. -/
def fnExactNecklaceOfUptoRow : OpenClaim := { program := "ytijbafkaligcdaa", sum := "8ec4e04885f00e83bdd4fa0860ad2aed087172802edb640e56cb148c3bf1fd7c", func := "loop.example/tworows/laws.FnExactNecklaceOf", spec := "fnExactNecklaceOf", inPlace := ["internal/bytealg.IndexByteString"], unfollowed := true, recurses := true, apart := false, narrowed := true }
def FnExactNecklaceOfUptoSaid : Prop := fnExactNecklaceOfUptoRow.holds Try.pinned (OpenSpec.upto fnExactNecklaceOfSpec)

/-- 'laws.FnExactNecklaceMat', WHERE WHAT IT READS IS OF BULK AT MOST 1048576: true; the input reads as it did. -/
def fnExactNecklaceMatUptoRow : OpenClaim := { program := "ytijbafkaligcdaa", sum := "8ec4e04885f00e83bdd4fa0860ad2aed087172802edb640e56cb148c3bf1fd7c", func := "loop.example/tworows/laws.FnExactNecklaceMat", spec := "fnExactNecklaceMat", unfollowed := true, recurses := true, apart := false, narrowed := true }
def FnExactNecklaceMatUptoSaid : Prop := fnExactNecklaceMatUptoRow.holds Try.pinned (OpenSpec.upto fnExactNecklaceMatSpec)

/-- 'laws.FnExactNecklaceBy', WHERE WHAT IT READS IS OF BULK AT MOST 1048576: true; the input reads as it did. -/
def fnExactNecklaceByUptoRow : OpenClaim := { program := "ytijbafkaligcdaa", sum := "8ec4e04885f00e83bdd4fa0860ad2aed087172802edb640e56cb148c3bf1fd7c", func := "loop.example/tworows/laws.FnExactNecklaceBy", spec := "fnExactNecklaceBy", apart := false, narrowed := true }
def FnExactNecklaceByUptoSaid : Prop := fnExactNecklaceByUptoRow.holds Try.pinned (OpenSpec.upto fnExactNecklaceBySpec)

/-- 'laws.FnExactNecklaceSame', WHERE WHAT IT READS IS OF BULK AT MOST 1048576: true; the input reads as it did. -/
def fnExactNecklaceSameUptoRow : OpenClaim := { program := "ytijbafkaligcdaa", sum := "8ec4e04885f00e83bdd4fa0860ad2aed087172802edb640e56cb148c3bf1fd7c", func := "loop.example/tworows/laws.FnExactNecklaceSame", spec := "fnExactNecklaceSame", unfollowed := true, recurses := true, apart := false, narrowed := true }
def FnExactNecklaceSameUptoSaid : Prop := fnExactNecklaceSameUptoRow.holds Try.pinned (OpenSpec.upto fnExactNecklaceSameSpec)

end Rows
end Go.Proofs.Ytijbafkaligcdaa

/-
  No cell of these rows narrows 'for every input' (looked for: loops, veiled, ifaces, maps, wideKeys, modest, calm, conditions, laid).
  DERIVED. THE GIVEN ROWS OF THIS SEAT. 3 by the template 'for every input the law returns true; each argument reads behind the call as it read before'; 0 by the template 'total and deterministic' (their statements: YtphjoeocmhaboaaTotals.lean).
  GIVEN WITH THE SEED: the statements are not yours to turn. If you find one false, say at which input.
  Laid BY PROGRAM, IN A SANDBOX (cutbox-rows.mjs): the forced cells as the released guide's own fill.sh prints them over the translation 14320362506c8cf4… (all of the seat's roots in one cut). By AI agents, Wed Nov 11 2026. No macro, syntax, notation, axiom, sorry.
-/
import Derived.Test.YtphjoeocmhaboaaChecked
import GoSem.Claim
import GoSem.ClaimJoined
import GoSem.ClaimMapViews
import Derived.JoinedTies
import Derived.KernelRfl
namespace Go.Proofs.Ytphjoeocmhaboaa
/- THE CELL 'sum', in the pinned program and in every row, IS THE sha256 OF THE DUMP (.gsa) THAT YtphjoeocmhaboaaProg.lean LOADS. Nothing in Lean hashes anything: it is a label: what it is worth is what the hold of that sum in a sandbox is worth. -/
noncomputable def Try.pinned : Pinned := { name := "ytphjoeocmhaboaa", sum := "14320362506c8cf4b98141acee216b8d2b2939f9e07e4150246d82e7fcc5a3ba", checked := Try.checked }
namespace Rows
def none {H : Type} : Left H := { results := [], args := [] }

/-- 'laws.FnNecklaceMat': WHATEVER THE INPUT: true; the input reads as it did. -/
def fnNecklaceMatSpec : ChangeSpec := { name := "fnNecklaceMat", fn := fun _ => fun
  | [d] => { results := [.lit (.bool true)], args := [d] }
  | _ => none }
def fnNecklaceMatRow : OpenClaim := { program := "ytphjoeocmhaboaa", sum := "14320362506c8cf4b98141acee216b8d2b2939f9e07e4150246d82e7fcc5a3ba", func := "loop.example/tworows/laws.FnNecklaceMat", spec := "fnNecklaceMat", inPlace := ["internal/bytealg.IndexByteString"], unfollowed := true, recurses := true, apart := false }
def FnNecklaceMatSaid : Prop := fnNecklaceMatRow.holds Try.pinned (OpenSpec.ofChange fnNecklaceMatSpec)

/-- ITS FALSE NEIGHBOUR: 'it returns false'. Refute it at one input. -/
def fnNecklaceMatWrong : ChangeSpec := { name := "fnNecklaceMat", fn := fun _ => fun
  | [d] => { results := [.lit (.bool false)], args := [d] }
  | _ => none }
def FnNecklaceMatWrongFalsely : Prop := fnNecklaceMatRow.holds Try.pinned (OpenSpec.ofChange fnNecklaceMatWrong)

/-- 'laws.FnNecklaceSame': WHATEVER THE INPUT: true; the input reads as it did. -/
def fnNecklaceSameSpec : ChangeSpec := { name := "fnNecklaceSame", fn := fun _ => fun
  | [d] => { results := [.lit (.bool true)], args := [d] }
  | _ => none }
def fnNecklaceSameRow : OpenClaim := { program := "ytphjoeocmhaboaa", sum := "14320362506c8cf4b98141acee216b8d2b2939f9e07e4150246d82e7fcc5a3ba", func := "loop.example/tworows/laws.FnNecklaceSame", spec := "fnNecklaceSame", unfollowed := true, recurses := true, apart := false }
def FnNecklaceSameSaid : Prop := fnNecklaceSameRow.holds Try.pinned (OpenSpec.ofChange fnNecklaceSameSpec)

/-- ITS FALSE NEIGHBOUR: 'it returns false'. Refute it at one input. -/
def fnNecklaceSameWrong : ChangeSpec := { name := "fnNecklaceSame", fn := fun _ => fun
  | [d] => { results := [.lit (.bool false)], args := [d] }
  | _ => none }
def FnNecklaceSameWrongFalsely : Prop := fnNecklaceSameRow.holds Try.pinned (OpenSpec.ofChange fnNecklaceSameWrong)

/-- 'laws.FnByNecklace': WHATEVER THE INPUT: true; the input reads as it did. -/
def fnByNecklaceSpec : ChangeSpec := { name := "fnByNecklace", fn := fun _ => fun
  | [d] => { results := [.lit (.bool true)], args := [d] }
  | _ => none }
def fnByNecklaceRow : OpenClaim := { program := "ytphjoeocmhaboaa", sum := "14320362506c8cf4b98141acee216b8d2b2939f9e07e4150246d82e7fcc5a3ba", func := "loop.example/tworows/laws.FnByNecklace", spec := "fnByNecklace", unfollowed := true, recurses := true, apart := false }
def FnByNecklaceSaid : Prop := fnByNecklaceRow.holds Try.pinned (OpenSpec.ofChange fnByNecklaceSpec)

/-- ITS FALSE NEIGHBOUR: 'it returns false'. Refute it at one input. -/
def fnByNecklaceWrong : ChangeSpec := { name := "fnByNecklace", fn := fun _ => fun
  | [d] => { results := [.lit (.bool false)], args := [d] }
  | _ => none }
def FnByNecklaceWrongFalsely : Prop := fnByNecklaceRow.holds Try.pinned (OpenSpec.ofChange fnByNecklaceWrong)

/- THE SECOND FORM. 'bulk': how many values and letters a reading holds, each counted each time it is reached (what is shared counts as often as it is met; a slice's spare places count too). A statement '..UptoSaid' is the law's where the arguments, and the package variables that the reading takes, are together of bulk at most 1048576: NARROWER than '..Said'. Prove '..Said' where nothing that the law and all that it calls make is longer than what came in: it says more and counts as full. Else prove '..UptoSaid'. A law counts once. -/
mutual
def uptoBulk {H : Type} : DataW H → Nat
  | .lit (.string bytes) => bytes.length + 1
  | .lit _ => 1
  | .nil => 1
  | .ptr d => uptoBulk d + 1
  | .slice elems spare => uptoBulkAll elems + uptoBulkAll spare + 1
  | .agg parts => uptoBulkAll parts + 1
  | .iface _ d => uptoBulk d + 1
  | .map entries => uptoBulkEntries entries + 1
  | .held _ => 1
def uptoBulkAll {H : Type} : List (DataW H) → Nat
  | [] => 0
  | d :: r => uptoBulk d + uptoBulkAll r
def uptoBulkEntries {H : Type} : List (Lit × DataW H) → Nat
  | [] => 0
  | x :: r => uptoBulkEntry x + uptoBulkEntries r
def uptoBulkEntry {H : Type} : Lit × DataW H → Nat
  | (.string bytes, d) => bytes.length + uptoBulk d + 1
  | (_, d) => uptoBulk d + 1
 end
def uptoSmall : (H : Type) → List (DataW H) → Bool := fun _ ds => decide (uptoBulkAll ds ≤ 1048576)
def OpenSpec.upto (s : _root_.Go.ChangeSpec) : _root_.Go.OpenSpec := { _root_.Go.OpenSpec.ofChange s with cond := some uptoSmall }

/-- 'laws.FnNecklaceMat', WHERE WHAT IT READS IS OF BULK AT MOST 1048576: true; the input reads as it did. -/
def fnNecklaceMatUptoRow : OpenClaim := { program := "ytphjoeocmhaboaa", sum := "14320362506c8cf4b98141acee216b8d2b2939f9e07e4150246d82e7fcc5a3ba", func := "loop.example/tworows/laws.FnNecklaceMat", spec := "fnNecklaceMat", inPlace := ["internal/bytealg.IndexByteString"], unfollowed := true, recurses := true, apart := false, narrowed := true }
def FnNecklaceMatUptoSaid : Prop := fnNecklaceMatUptoRow.holds Try.pinned (OpenSpec.upto fnNecklaceMatSpec)

/-- 'laws.FnNecklaceSame', WHERE WHAT IT READS IS OF BULK AT MOST 1048576: true; the input reads as it did. -/
def fnNecklaceSameUptoRow : OpenClaim := { program := "ytphjoeocmhaboaa", sum := "14320362506c8cf4b98141acee216b8d2b2939f9e07e4150246d82e7fcc5a3ba", func := "loop.example/tworows/laws.FnNecklaceSame", spec := "fnNecklaceSame", unfollowed := true, recurses := true, apart := false, narrowed := true }
def FnNecklaceSameUptoSaid : Prop := fnNecklaceSameUptoRow.holds Try.pinned (OpenSpec.upto fnNecklaceSameSpec)

/-- 'laws.FnByNecklace', WHERE WHAT IT READS IS OF BULK AT MOST 1048576: true; the input reads as it did. -/
def fnByNecklaceUptoRow : OpenClaim := { program := "ytphjoeocmhaboaa", sum := "14320362506c8cf4b98141acee216b8d2b2939f9e07e4150246d82e7fcc5a3ba", func := "loop.example/tworows/laws.FnByNecklace", spec := "fnByNecklace", unfollowed := true, recurses := true, apart := false, narrowed := true }
def FnByNecklaceUptoSaid : Prop := fnByNecklaceUptoRow.holds Try.pinned (OpenSpec.upto fnByNecklaceSpec)

end Rows
end Go.Proofs.Ytphjoeocmhaboaa

/-
  No cell of these rows narrows 'for every input' (looked for: loops, veiled, ifaces, maps, wideKeys, modest, calm, conditions, laid).
  DERIVED. THE GIVEN ROWS OF THIS SEAT. 7 by the template 'for every input the law returns true; each argument reads behind the call as it read before'; 0 by the template 'total and deterministic' (their statements: YtlggihnlhlalmaaTotals.lean).
  GIVEN WITH THE SEED: the statements are not yours to turn. If you find one false, say at which input.
  Laid BY PROGRAM, IN A SANDBOX (cutbox-rows.mjs): the forced cells as the released guide's own fill.sh prints them over the translation 5ed994772f1b2069… (all of the seat's roots in one cut). By AI agents, Wed Nov 11 2026. No macro, syntax, notation, axiom, sorry.
-/
import Derived.Test.YtlggihnlhlalmaaChecked
import GoSem.Claim
import GoSem.ClaimJoined
import GoSem.ClaimMapViews
import Derived.JoinedTies
import Derived.KernelRfl
namespace Go.Proofs.Ytlggihnlhlalmaa
/- THE CELL 'sum', in the pinned program and in every row, IS THE sha256 OF THE DUMP (.gsa) THAT YtlggihnlhlalmaaProg.lean LOADS. Nothing in Lean hashes anything: it is a label: what it is worth is what the hold of that sum in a sandbox is worth. -/
noncomputable def Try.pinned : Pinned := { name := "ytlggihnlhlalmaa", sum := "5ed994772f1b20696493f7bcd2d902f0b549fe201be67609d937b087a2b8678f", checked := Try.checked }
namespace Rows
def none {H : Type} : Left H := { results := [], args := [] }

/-- 'laws.FnExactRestOf': WHATEVER THE INPUT: true; the input reads as it did. -/
def fnExactRestOfSpec : ChangeSpec := { name := "fnExactRestOf", fn := fun _ => fun
  | [d1, d2] => { results := [.lit (.bool true)], args := [d1, d2] }
  | _ => none }
def fnExactRestOfRow : OpenClaim := { program := "ytlggihnlhlalmaa", sum := "5ed994772f1b20696493f7bcd2d902f0b549fe201be67609d937b087a2b8678f", func := "loop.example/tworows/laws.FnExactRestOf", spec := "fnExactRestOf", apart := false }
def FnExactRestOfSaid : Prop := fnExactRestOfRow.holds Try.pinned (OpenSpec.ofChange fnExactRestOfSpec)

/-- ITS FALSE NEIGHBOUR: 'it returns false'. Refute it at one input. -/
def fnExactRestOfWrong : ChangeSpec := { name := "fnExactRestOf", fn := fun _ => fun
  | [d1, d2] => { results := [.lit (.bool false)], args := [d1, d2] }
  | _ => none }
def FnExactRestOfWrongFalsely : Prop := fnExactRestOfRow.holds Try.pinned (OpenSpec.ofChange fnExactRestOfWrong)

/-- 'laws.FnExactRestEven': WHATEVER THE INPUT: true; the input reads as it did. -/
def fnExactRestEvenSpec : ChangeSpec := { name := "fnExactRestEven", fn := fun _ => fun
  | [d1, d2] => { results := [.lit (.bool true)], args := [d1, d2] }
  | _ => none }
def fnExactRestEvenRow : OpenClaim := { program := "ytlggihnlhlalmaa", sum := "5ed994772f1b20696493f7bcd2d902f0b549fe201be67609d937b087a2b8678f", func := "loop.example/tworows/laws.FnExactRestEven", spec := "fnExactRestEven", apart := false }
def FnExactRestEvenSaid : Prop := fnExactRestEvenRow.holds Try.pinned (OpenSpec.ofChange fnExactRestEvenSpec)

/-- ITS FALSE NEIGHBOUR: 'it returns false'. Refute it at one input. -/
def fnExactRestEvenWrong : ChangeSpec := { name := "fnExactRestEven", fn := fun _ => fun
  | [d1, d2] => { results := [.lit (.bool false)], args := [d1, d2] }
  | _ => none }
def FnExactRestEvenWrongFalsely : Prop := fnExactRestEvenRow.holds Try.pinned (OpenSpec.ofChange fnExactRestEvenWrong)

/-- 'laws.FnExactRestCount': WHATEVER THE INPUT: true; the input reads as it did. -/
def fnExactRestCountSpec : ChangeSpec := { name := "fnExactRestCount", fn := fun _ => fun
  | [d] => { results := [.lit (.bool true)], args := [d] }
  | _ => none }
def fnExactRestCountRow : OpenClaim := { program := "ytlggihnlhlalmaa", sum := "5ed994772f1b20696493f7bcd2d902f0b549fe201be67609d937b087a2b8678f", func := "loop.example/tworows/laws.FnExactRestCount", spec := "fnExactRestCount", unfollowed := true, recurses := true, apart := false }
def FnExactRestCountSaid : Prop := fnExactRestCountRow.holds Try.pinned (OpenSpec.ofChange fnExactRestCountSpec)

/-- ITS FALSE NEIGHBOUR: 'it returns false'. Refute it at one input. -/
def fnExactRestCountWrong : ChangeSpec := { name := "fnExactRestCount", fn := fun _ => fun
  | [d] => { results := [.lit (.bool false)], args := [d] }
  | _ => none }
def FnExactRestCountWrongFalsely : Prop := fnExactRestCountRow.holds Try.pinned (OpenSpec.ofChange fnExactRestCountWrong)

/-- 'laws.FnExactRestOrder': WHATEVER THE INPUT: true; the input reads as it did. -/
def fnExactRestOrderSpec : ChangeSpec := { name := "fnExactRestOrder", fn := fun _ => fun
  | [d1, d2] => { results := [.lit (.bool true)], args := [d1, d2] }
  | _ => none }
def fnExactRestOrderRow : OpenClaim := { program := "ytlggihnlhlalmaa", sum := "5ed994772f1b20696493f7bcd2d902f0b549fe201be67609d937b087a2b8678f", func := "loop.example/tworows/laws.FnExactRestOrder", spec := "fnExactRestOrder", apart := false }
def FnExactRestOrderSaid : Prop := fnExactRestOrderRow.holds Try.pinned (OpenSpec.ofChange fnExactRestOrderSpec)

/-- ITS FALSE NEIGHBOUR: 'it returns false'. Refute it at one input. -/
def fnExactRestOrderWrong : ChangeSpec := { name := "fnExactRestOrder", fn := fun _ => fun
  | [d1, d2] => { results := [.lit (.bool false)], args := [d1, d2] }
  | _ => none }
def FnExactRestOrderWrongFalsely : Prop := fnExactRestOrderRow.holds Try.pinned (OpenSpec.ofChange fnExactRestOrderWrong)

/-- 'laws.FnExactRestPoint': WHATEVER THE INPUT: true; the input reads as it did. -/
def fnExactRestPointSpec : ChangeSpec := { name := "fnExactRestPoint", fn := fun _ => fun
  | [d1, d2, d3] => { results := [.lit (.bool true)], args := [d1, d2, d3] }
  | _ => none }
def fnExactRestPointRow : OpenClaim := { program := "ytlggihnlhlalmaa", sum := "5ed994772f1b20696493f7bcd2d902f0b549fe201be67609d937b087a2b8678f", func := "loop.example/tworows/laws.FnExactRestPoint", spec := "fnExactRestPoint", unfollowed := true, recurses := true, apart := false }
def FnExactRestPointSaid : Prop := fnExactRestPointRow.holds Try.pinned (OpenSpec.ofChange fnExactRestPointSpec)

/-- ITS FALSE NEIGHBOUR: 'it returns false'. Refute it at one input. -/
def fnExactRestPointWrong : ChangeSpec := { name := "fnExactRestPoint", fn := fun _ => fun
  | [d1, d2, d3] => { results := [.lit (.bool false)], args := [d1, d2, d3] }
  | _ => none }
def FnExactRestPointWrongFalsely : Prop := fnExactRestPointRow.holds Try.pinned (OpenSpec.ofChange fnExactRestPointWrong)

/-- 'laws.FnExactRestMove': WHATEVER THE INPUT: true; the input reads as it did. -/
def fnExactRestMoveSpec : ChangeSpec := { name := "fnExactRestMove", fn := fun _ => fun
  | [d1, d2, d3, d4] => { results := [.lit (.bool true)], args := [d1, d2, d3, d4] }
  | _ => none }
def fnExactRestMoveRow : OpenClaim := { program := "ytlggihnlhlalmaa", sum := "5ed994772f1b20696493f7bcd2d902f0b549fe201be67609d937b087a2b8678f", func := "loop.example/tworows/laws.FnExactRestMove", spec := "fnExactRestMove", unfollowed := true, recurses := true, apart := false }
def FnExactRestMoveSaid : Prop := fnExactRestMoveRow.holds Try.pinned (OpenSpec.ofChange fnExactRestMoveSpec)

/-- ITS FALSE NEIGHBOUR: 'it returns false'. Refute it at one input. -/
def fnExactRestMoveWrong : ChangeSpec := { name := "fnExactRestMove", fn := fun _ => fun
  | [d1, d2, d3, d4] => { results := [.lit (.bool false)], args := [d1, d2, d3, d4] }
  | _ => none }
def FnExactRestMoveWrongFalsely : Prop := fnExactRestMoveRow.holds Try.pinned (OpenSpec.ofChange fnExactRestMoveWrong)

/-- 'laws.FnExactRestLift': WHATEVER THE INPUT: true; the input reads as it did. -/
def fnExactRestLiftSpec : ChangeSpec := { name := "fnExactRestLift", fn := fun _ => fun
  | [d1, d2] => { results := [.lit (.bool true)], args := [d1, d2] }
  | _ => none }
def fnExactRestLiftRow : OpenClaim := { program := "ytlggihnlhlalmaa", sum := "5ed994772f1b20696493f7bcd2d902f0b549fe201be67609d937b087a2b8678f", func := "loop.example/tworows/laws.FnExactRestLift", spec := "fnExactRestLift", unfollowed := true, recurses := true, apart := false }
def FnExactRestLiftSaid : Prop := fnExactRestLiftRow.holds Try.pinned (OpenSpec.ofChange fnExactRestLiftSpec)

/-- ITS FALSE NEIGHBOUR: 'it returns false'. Refute it at one input. -/
def fnExactRestLiftWrong : ChangeSpec := { name := "fnExactRestLift", fn := fun _ => fun
  | [d1, d2] => { results := [.lit (.bool false)], args := [d1, d2] }
  | _ => none }
def FnExactRestLiftWrongFalsely : Prop := fnExactRestLiftRow.holds Try.pinned (OpenSpec.ofChange fnExactRestLiftWrong)

/- THE SECOND FORM. 'bulk': how many values and letters a reading holds, each counted each time it is reached (what is shared counts as often as it is met; a slice's spare places count too). A statement '..UptoSaid' is the law's where the arguments, and the package variables that the reading takes, are together of bulk at most 1048576: NARROWER than '..Said'. Prove '..Said' where nothing that the law and all that it calls make is longer than what came in: it says more and counts as full. Else prove '..UptoSaid'. A law counts once. -/
mutual
def uptoBulk {H : Type} : DataW H → Nat
  | .lit (.string bytes) => bytes.length + 1
  | .lit _ => 1
  | .nil => 1
  | .ptr d => uptoBulk d + 1
  | .slice elems spare => uptoBulkAll elems + uptoBulkAll spare + 1
  | .agg parts => uptoBulkAll parts + 1
  | .iface _ d => uptoBulk d + 1
  | .map entries => uptoBulkEntries entries + 1
  | .held _ => 1
def uptoBulkAll {H : Type} : List (DataW H) → Nat
  | [] => 0
  | d :: r => uptoBulk d + uptoBulkAll r
def uptoBulkEntries {H : Type} : List (Lit × DataW H) → Nat
  | [] => 0
  | x :: r => uptoBulkEntry x + uptoBulkEntries r
def uptoBulkEntry {H : Type} : Lit × DataW H → Nat
  | (.string bytes, d) => bytes.length + uptoBulk d + 1
  | (_, d) => uptoBulk d + 1
 end
def uptoSmall : (H : Type) → List (DataW H) → Bool := fun _ ds => decide (uptoBulkAll ds ≤ 1048576)
def OpenSpec.upto (s : _root_.Go.ChangeSpec) : _root_.Go.OpenSpec := { _root_.Go.OpenSpec.ofChange s with cond := some uptoSmall }

/-- 'laws.FnExactRestOf', WHERE WHAT IT READS IS OF BULK AT MOST 1048576: true; the input reads as it did. -/
def fnExactRestOfUptoRow : OpenClaim := { program := "ytlggihnlhlalmaa", sum := "5ed994772f1b20696493f7bcd2d902f0b549fe201be67609d937b087a2b8678f", func := "loop.example/tworows/laws.FnExactRestOf", spec := "fnExactRestOf", apart := false, narrowed := true }
def FnExactRestOfUptoSaid : Prop := fnExactRestOfUptoRow.holds Try.pinned (OpenSpec.upto fnExactRestOfSpec)

/-- 'laws.FnExactRestEven', WHERE WHAT IT READS IS OF BULK AT MOST 1048576: true; the input reads as it did. -/
def fnExactRestEvenUptoRow : OpenClaim := { program := "ytlggihnlhlalmaa", sum := "5ed994772f1b20696493f7bcd2d902f0b549fe201be67609d937b087a2b8678f", func := "loop.example/tworows/laws.FnExactRestEven", spec := "fnExactRestEven", apart := false, narrowed := true }
def FnExactRestEvenUptoSaid : Prop := fnExactRestEvenUptoRow.holds Try.pinned (OpenSpec.upto fnExactRestEvenSpec)

/-- 'laws.FnExactRestCount', WHERE WHAT IT READS IS OF BULK AT MOST 1048576: true; the input reads as it did. -/
def fnExactRestCountUptoRow : OpenClaim := { program := "ytlggihnlhlalmaa", sum := "5ed994772f1b20696493f7bcd2d902f0b549fe201be67609d937b087a2b8678f", func := "loop.example/tworows/laws.FnExactRestCount", spec := "fnExactRestCount", unfollowed := true, recurses := true, apart := false, narrowed := true }
def FnExactRestCountUptoSaid : Prop := fnExactRestCountUptoRow.holds Try.pinned (OpenSpec.upto fnExactRestCountSpec)

/-- 'laws.FnExactRestOrder', WHERE WHAT IT READS IS OF BULK AT MOST 1048576: true; the input reads as it did. -/
def fnExactRestOrderUptoRow : OpenClaim := { program := "ytlggihnlhlalmaa", sum := "5ed994772f1b20696493f7bcd2d902f0b549fe201be67609d937b087a2b8678f", func := "loop.example/tworows/laws.FnExactRestOrder", spec := "fnExactRestOrder", apart := false, narrowed := true }
def FnExactRestOrderUptoSaid : Prop := fnExactRestOrderUptoRow.holds Try.pinned (OpenSpec.upto fnExactRestOrderSpec)

/-- 'laws.FnExactRestPoint', WHERE WHAT IT READS IS OF BULK AT MOST 1048576: true; the input reads as it did. -/
def fnExactRestPointUptoRow : OpenClaim := { program := "ytlggihnlhlalmaa", sum := "5ed994772f1b20696493f7bcd2d902f0b549fe201be67609d937b087a2b8678f", func := "loop.example/tworows/laws.FnExactRestPoint", spec := "fnExactRestPoint", unfollowed := true, recurses := true, apart := false, narrowed := true }
def FnExactRestPointUptoSaid : Prop := fnExactRestPointUptoRow.holds Try.pinned (OpenSpec.upto fnExactRestPointSpec)

/-- 'laws.FnExactRestMove', WHERE WHAT IT READS IS OF BULK AT MOST 1048576: true; the input reads as it did. -/
def fnExactRestMoveUptoRow : OpenClaim := { program := "ytlggihnlhlalmaa", sum := "5ed994772f1b20696493f7bcd2d902f0b549fe201be67609d937b087a2b8678f", func := "loop.example/tworows/laws.FnExactRestMove", spec := "fnExactRestMove", unfollowed := true, recurses := true, apart := false, narrowed := true }
def FnExactRestMoveUptoSaid : Prop := fnExactRestMoveUptoRow.holds Try.pinned (OpenSpec.upto fnExactRestMoveSpec)

/-- 'laws.FnExactRestLift', WHERE WHAT IT READS IS OF BULK AT MOST 1048576: true; the input reads as it did. -/
def fnExactRestLiftUptoRow : OpenClaim := { program := "ytlggihnlhlalmaa", sum := "5ed994772f1b20696493f7bcd2d902f0b549fe201be67609d937b087a2b8678f", func := "loop.example/tworows/laws.FnExactRestLift", spec := "fnExactRestLift", unfollowed := true, recurses := true, apart := false, narrowed := true }
def FnExactRestLiftUptoSaid : Prop := fnExactRestLiftUptoRow.holds Try.pinned (OpenSpec.upto fnExactRestLiftSpec)

end Rows
end Go.Proofs.Ytlggihnlhlalmaa

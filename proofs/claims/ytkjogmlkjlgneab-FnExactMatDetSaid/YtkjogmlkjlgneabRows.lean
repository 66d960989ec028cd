/-
  No cell of these rows narrows 'for every input' (looked for: loops, veiled, ifaces, maps, wideKeys, modest, calm, conditions, laid).
  DERIVED. THE GIVEN ROWS OF THIS SEAT. 10 by the template 'for every input the law returns true; each argument reads behind the call as it read before'; 0 by the template 'total and deterministic' (their statements: YtkjogmlkjlgneabTotals.lean).
  GIVEN WITH THE SEED: the statements are not yours to turn. If you find one false, say at which input.
  Laid BY PROGRAM, IN A SANDBOX (cutbox-rows.mjs): the forced cells as the released guide's own fill.sh prints them over the translation 402285687d03392f… (all of the seat's roots in one cut). By AI agents, Wed Nov 11 2026. No macro, syntax, notation, axiom, sorry.
-/
import Derived.Test.YtkjogmlkjlgneabChecked
import GoSem.Claim
import GoSem.ClaimJoined
import GoSem.ClaimMapViews
import Derived.JoinedTies
import Derived.KernelRfl
namespace Go.Proofs.Ytkjogmlkjlgneab
/- THE CELL 'sum', in the pinned program and in every row, IS THE sha256 OF THE DUMP (.gsa) THAT YtkjogmlkjlgneabProg.lean LOADS. Nothing in Lean hashes anything: it is a label: what it is worth is what the hold of that sum in a sandbox is worth. -/
noncomputable def Try.pinned : Pinned := { name := "ytkjogmlkjlgneab", sum := "402285687d03392f7696f96975ab6527406b86f9572e58bd6f54469e0f6a43af", checked := Try.checked }
namespace Rows
def none {H : Type} : Left H := { results := [], args := [] }

/-- 'laws.FnExactMatIn': WHATEVER THE INPUT: true; the input reads as it did. -/
def fnExactMatInSpec : ChangeSpec := { name := "fnExactMatIn", fn := fun _ => fun
  | [d] => { results := [.lit (.bool true)], args := [d] }
  | _ => none }
def fnExactMatInRow : OpenClaim := { program := "ytkjogmlkjlgneab", sum := "402285687d03392f7696f96975ab6527406b86f9572e58bd6f54469e0f6a43af", func := "loop.example/tworows/laws.FnExactMatIn", spec := "fnExactMatIn", apart := false }
def FnExactMatInSaid : Prop := fnExactMatInRow.holds Try.pinned (OpenSpec.ofChange fnExactMatInSpec)

/-- ITS FALSE NEIGHBOUR: 'it returns false'. Refute it at one input. -/
def fnExactMatInWrong : ChangeSpec := { name := "fnExactMatIn", fn := fun _ => fun
  | [d] => { results := [.lit (.bool false)], args := [d] }
  | _ => none }
def FnExactMatInWrongFalsely : Prop := fnExactMatInRow.holds Try.pinned (OpenSpec.ofChange fnExactMatInWrong)

/-- 'laws.FnExactMatTimes': WHATEVER THE INPUT: true; the input reads as it did. -/
def fnExactMatTimesSpec : ChangeSpec := { name := "fnExactMatTimes", fn := fun _ => fun
  | [d1, d2] => { results := [.lit (.bool true)], args := [d1, d2] }
  | _ => none }
def fnExactMatTimesRow : OpenClaim := { program := "ytkjogmlkjlgneab", sum := "402285687d03392f7696f96975ab6527406b86f9572e58bd6f54469e0f6a43af", func := "loop.example/tworows/laws.FnExactMatTimes", spec := "fnExactMatTimes", apart := false }
def FnExactMatTimesSaid : Prop := fnExactMatTimesRow.holds Try.pinned (OpenSpec.ofChange fnExactMatTimesSpec)

/-- ITS FALSE NEIGHBOUR: 'it returns false'. Refute it at one input. -/
def fnExactMatTimesWrong : ChangeSpec := { name := "fnExactMatTimes", fn := fun _ => fun
  | [d1, d2] => { results := [.lit (.bool false)], args := [d1, d2] }
  | _ => none }
def FnExactMatTimesWrongFalsely : Prop := fnExactMatTimesRow.holds Try.pinned (OpenSpec.ofChange fnExactMatTimesWrong)

/-- 'laws.FnExactMatDet': WHATEVER THE INPUT: true; the input reads as it did. -/
def fnExactMatDetSpec : ChangeSpec := { name := "fnExactMatDet", fn := fun _ => fun
  | [d] => { results := [.lit (.bool true)], args := [d] }
  | _ => none }
def fnExactMatDetRow : OpenClaim := { program := "ytkjogmlkjlgneab", sum := "402285687d03392f7696f96975ab6527406b86f9572e58bd6f54469e0f6a43af", func := "loop.example/tworows/laws.FnExactMatDet", spec := "fnExactMatDet", apart := false }
def FnExactMatDetSaid : Prop := fnExactMatDetRow.holds Try.pinned (OpenSpec.ofChange fnExactMatDetSpec)

/-- ITS FALSE NEIGHBOUR: 'it returns false'. Refute it at one input. -/
def fnExactMatDetWrong : ChangeSpec := { name := "fnExactMatDet", fn := fun _ => fun
  | [d] => { results := [.lit (.bool false)], args := [d] }
  | _ => none }
def FnExactMatDetWrongFalsely : Prop := fnExactMatDetRow.holds Try.pinned (OpenSpec.ofChange fnExactMatDetWrong)

/-- 'laws.FnExactMatTrace': WHATEVER THE INPUT: true; the input reads as it did. -/
def fnExactMatTraceSpec : ChangeSpec := { name := "fnExactMatTrace", fn := fun _ => fun
  | [d] => { results := [.lit (.bool true)], args := [d] }
  | _ => none }
def fnExactMatTraceRow : OpenClaim := { program := "ytkjogmlkjlgneab", sum := "402285687d03392f7696f96975ab6527406b86f9572e58bd6f54469e0f6a43af", func := "loop.example/tworows/laws.FnExactMatTrace", spec := "fnExactMatTrace", apart := false }
def FnExactMatTraceSaid : Prop := fnExactMatTraceRow.holds Try.pinned (OpenSpec.ofChange fnExactMatTraceSpec)

/-- ITS FALSE NEIGHBOUR: 'it returns false'. Refute it at one input. -/
def fnExactMatTraceWrong : ChangeSpec := { name := "fnExactMatTrace", fn := fun _ => fun
  | [d] => { results := [.lit (.bool false)], args := [d] }
  | _ => none }
def FnExactMatTraceWrongFalsely : Prop := fnExactMatTraceRow.holds Try.pinned (OpenSpec.ofChange fnExactMatTraceWrong)

/-- 'laws.FnExactMatTurned': WHATEVER THE INPUT: true; the input reads as it did. -/
def fnExactMatTurnedSpec : ChangeSpec := { name := "fnExactMatTurned", fn := fun _ => fun
  | [d] => { results := [.lit (.bool true)], args := [d] }
  | _ => none }
def fnExactMatTurnedRow : OpenClaim := { program := "ytkjogmlkjlgneab", sum := "402285687d03392f7696f96975ab6527406b86f9572e58bd6f54469e0f6a43af", func := "loop.example/tworows/laws.FnExactMatTurned", spec := "fnExactMatTurned", apart := false }
def FnExactMatTurnedSaid : Prop := fnExactMatTurnedRow.holds Try.pinned (OpenSpec.ofChange fnExactMatTurnedSpec)

/-- ITS FALSE NEIGHBOUR: 'it returns false'. Refute it at one input. -/
def fnExactMatTurnedWrong : ChangeSpec := { name := "fnExactMatTurned", fn := fun _ => fun
  | [d] => { results := [.lit (.bool false)], args := [d] }
  | _ => none }
def FnExactMatTurnedWrongFalsely : Prop := fnExactMatTurnedRow.holds Try.pinned (OpenSpec.ofChange fnExactMatTurnedWrong)

/-- 'laws.FnExactMatBack': WHATEVER THE INPUT: true; the input reads as it did. -/
def fnExactMatBackSpec : ChangeSpec := { name := "fnExactMatBack", fn := fun _ => fun
  | [d] => { results := [.lit (.bool true)], args := [d] }
  | _ => none }
def fnExactMatBackRow : OpenClaim := { program := "ytkjogmlkjlgneab", sum := "402285687d03392f7696f96975ab6527406b86f9572e58bd6f54469e0f6a43af", func := "loop.example/tworows/laws.FnExactMatBack", spec := "fnExactMatBack", apart := false }
def FnExactMatBackSaid : Prop := fnExactMatBackRow.holds Try.pinned (OpenSpec.ofChange fnExactMatBackSpec)

/-- ITS FALSE NEIGHBOUR: 'it returns false'. Refute it at one input. -/
def fnExactMatBackWrong : ChangeSpec := { name := "fnExactMatBack", fn := fun _ => fun
  | [d] => { results := [.lit (.bool false)], args := [d] }
  | _ => none }
def FnExactMatBackWrongFalsely : Prop := fnExactMatBackRow.holds Try.pinned (OpenSpec.ofChange fnExactMatBackWrong)

/-- 'laws.FnExactMatPower': WHATEVER THE INPUT: true; the input reads as it did. -/
def fnExactMatPowerSpec : ChangeSpec := { name := "fnExactMatPower", fn := fun _ => fun
  | [d1, d2] => { results := [.lit (.bool true)], args := [d1, d2] }
  | _ => none }
def fnExactMatPowerRow : OpenClaim := { program := "ytkjogmlkjlgneab", sum := "402285687d03392f7696f96975ab6527406b86f9572e58bd6f54469e0f6a43af", func := "loop.example/tworows/laws.FnExactMatPower", spec := "fnExactMatPower", apart := false }
def FnExactMatPowerSaid : Prop := fnExactMatPowerRow.holds Try.pinned (OpenSpec.ofChange fnExactMatPowerSpec)

/-- ITS FALSE NEIGHBOUR: 'it returns false'. Refute it at one input. -/
def fnExactMatPowerWrong : ChangeSpec := { name := "fnExactMatPower", fn := fun _ => fun
  | [d1, d2] => { results := [.lit (.bool false)], args := [d1, d2] }
  | _ => none }
def FnExactMatPowerWrongFalsely : Prop := fnExactMatPowerRow.holds Try.pinned (OpenSpec.ofChange fnExactMatPowerWrong)

/-- 'laws.FnExactMatMove': WHATEVER THE INPUT: true; the input reads as it did. -/
def fnExactMatMoveSpec : ChangeSpec := { name := "fnExactMatMove", fn := fun _ => fun
  | [d1, d2, d3] => { results := [.lit (.bool true)], args := [d1, d2, d3] }
  | _ => none }
def fnExactMatMoveRow : OpenClaim := { program := "ytkjogmlkjlgneab", sum := "402285687d03392f7696f96975ab6527406b86f9572e58bd6f54469e0f6a43af", func := "loop.example/tworows/laws.FnExactMatMove", spec := "fnExactMatMove", apart := false }
def FnExactMatMoveSaid : Prop := fnExactMatMoveRow.holds Try.pinned (OpenSpec.ofChange fnExactMatMoveSpec)

/-- ITS FALSE NEIGHBOUR: 'it returns false'. Refute it at one input. -/
def fnExactMatMoveWrong : ChangeSpec := { name := "fnExactMatMove", fn := fun _ => fun
  | [d1, d2, d3] => { results := [.lit (.bool false)], args := [d1, d2, d3] }
  | _ => none }
def FnExactMatMoveWrongFalsely : Prop := fnExactMatMoveRow.holds Try.pinned (OpenSpec.ofChange fnExactMatMoveWrong)

/-- 'laws.FnExactMatMirror': WHATEVER THE INPUT: true; the input reads as it did. -/
def fnExactMatMirrorSpec : ChangeSpec := { name := "fnExactMatMirror", fn := fun _ => fun
  | [d] => { results := [.lit (.bool true)], args := [d] }
  | _ => none }
def fnExactMatMirrorRow : OpenClaim := { program := "ytkjogmlkjlgneab", sum := "402285687d03392f7696f96975ab6527406b86f9572e58bd6f54469e0f6a43af", func := "loop.example/tworows/laws.FnExactMatMirror", spec := "fnExactMatMirror", apart := false }
def FnExactMatMirrorSaid : Prop := fnExactMatMirrorRow.holds Try.pinned (OpenSpec.ofChange fnExactMatMirrorSpec)

/-- ITS FALSE NEIGHBOUR: 'it returns false'. Refute it at one input. -/
def fnExactMatMirrorWrong : ChangeSpec := { name := "fnExactMatMirror", fn := fun _ => fun
  | [d] => { results := [.lit (.bool false)], args := [d] }
  | _ => none }
def FnExactMatMirrorWrongFalsely : Prop := fnExactMatMirrorRow.holds Try.pinned (OpenSpec.ofChange fnExactMatMirrorWrong)

/-- 'laws.FnExactMatEven': WHATEVER THE INPUT: true; the input reads as it did. -/
def fnExactMatEvenSpec : ChangeSpec := { name := "fnExactMatEven", fn := fun _ => fun
  | [d] => { results := [.lit (.bool true)], args := [d] }
  | _ => none }
def fnExactMatEvenRow : OpenClaim := { program := "ytkjogmlkjlgneab", sum := "402285687d03392f7696f96975ab6527406b86f9572e58bd6f54469e0f6a43af", func := "loop.example/tworows/laws.FnExactMatEven", spec := "fnExactMatEven", apart := false }
def FnExactMatEvenSaid : Prop := fnExactMatEvenRow.holds Try.pinned (OpenSpec.ofChange fnExactMatEvenSpec)

/-- ITS FALSE NEIGHBOUR: 'it returns false'. Refute it at one input. -/
def fnExactMatEvenWrong : ChangeSpec := { name := "fnExactMatEven", fn := fun _ => fun
  | [d] => { results := [.lit (.bool false)], args := [d] }
  | _ => none }
def FnExactMatEvenWrongFalsely : Prop := fnExactMatEvenRow.holds Try.pinned (OpenSpec.ofChange fnExactMatEvenWrong)

/- THE SECOND FORM. 'bulk': how many values and letters a reading holds, each counted each time it is reached (what is shared counts as often as it is met; a slice's spare places count too). A statement '..UptoSaid' is the law's where the arguments, and the package variables that the reading takes, are together of bulk at most 1048576: NARROWER than '..Said'. Prove '..Said' where nothing that the law and all that it calls make is longer than what came in: it says more and counts as full. Else prove '..UptoSaid'. A law counts once. -/
mutual
def uptoBulk {H : Type} : DataW H → Nat
  | .lit (.string bytes) => bytes.length + 1
  | .lit _ => 1
  | .nil => 1
  | .ptr d => uptoBulk d + 1
  | .slice elems spare => uptoBulkAll elems + uptoBulkAll spare + 1
  | .agg parts => uptoBulkAll parts + 1
  | .iface _ d => uptoBulk d + 1
  | .map entries => uptoBulkEntries entries + 1
  | .held _ => 1
def uptoBulkAll {H : Type} : List (DataW H) → Nat
  | [] => 0
  | d :: r => uptoBulk d + uptoBulkAll r
def uptoBulkEntries {H : Type} : List (Lit × DataW H) → Nat
  | [] => 0
  | x :: r => uptoBulkEntry x + uptoBulkEntries r
def uptoBulkEntry {H : Type} : Lit × DataW H → Nat
  | (.string bytes, d) => bytes.length + uptoBulk d + 1
  | (_, d) => uptoBulk d + 1
 end
def uptoSmall : (H : Type) → List (DataW H) → Bool := fun _ ds => decide (uptoBulkAll ds ≤ 1048576)
def OpenSpec.upto (s : _root_.Go.ChangeSpec) : _root_.Go.OpenSpec := { _root_.Go.OpenSpec.ofChange s with cond := some uptoSmall }

/-- 'laws.FnExactMatIn', WHERE WHAT IT READS IS OF BULK AT MOST 1048576: true; the input reads as it did. -/
def fnExactMatInUptoRow : OpenClaim := { program := "ytkjogmlkjlgneab", sum := "402285687d03392f7696f96975ab6527406b86f9572e58bd6f54469e0f6a43af", func := "loop.example/tworows/laws.FnExactMatIn", spec := "fnExactMatIn", apart := false, narrowed := true }
def FnExactMatInUptoSaid : Prop := fnExactMatInUptoRow.holds Try.pinned (OpenSpec.upto fnExactMatInSpec)

/-- 'laws.FnExactMatTimes', WHERE WHAT IT READS IS OF BULK AT MOST 1048576: true; the input reads as it did. -/
def fnExactMatTimesUptoRow : OpenClaim := { program := "ytkjogmlkjlgneab", sum := "402285687d03392f7696f96975ab6527406b86f9572e58bd6f54469e0f6a43af", func := "loop.example/tworows/laws.FnExactMatTimes", spec := "fnExactMatTimes", apart := false, narrowed := true }
def FnExactMatTimesUptoSaid : Prop := fnExactMatTimesUptoRow.holds Try.pinned (OpenSpec.upto fnExactMatTimesSpec)

/-- 'laws.FnExactMatDet', WHERE WHAT IT READS IS OF BULK AT MOST 1048576: true; the input reads as it did. -/
def fnExactMatDetUptoRow : OpenClaim := { program := "ytkjogmlkjlgneab", sum := "402285687d03392f7696f96975ab6527406b86f9572e58bd6f54469e0f6a43af", func := "loop.example/tworows/laws.FnExactMatDet", spec := "fnExactMatDet", apart := false, narrowed := true }
def FnExactMatDetUptoSaid : Prop := fnExactMatDetUptoRow.holds Try.pinned (OpenSpec.upto fnExactMatDetSpec)

/-- 'laws.FnExactMatTrace', WHERE WHAT IT READS IS OF BULK AT MOST 1048576: true; the input reads as it did. -/
def fnExactMatTraceUptoRow : OpenClaim := { program := "ytkjogmlkjlgneab", sum := "402285687d03392f7696f96975ab6527406b86f9572e58bd6f54469e0f6a43af", func := "loop.example/tworows/laws.FnExactMatTrace", spec := "fnExactMatTrace", apart := false, narrowed := true }
def FnExactMatTraceUptoSaid : Prop := fnExactMatTraceUptoRow.holds Try.pinned (OpenSpec.upto fnExactMatTraceSpec)

/-- 'laws.FnExactMatTurned', WHERE WHAT IT READS IS OF BULK AT MOST 1048576: true; the input reads as it did. -/
def fnExactMatTurnedUptoRow : OpenClaim := { program := "ytkjogmlkjlgneab", sum := "402285687d03392f7696f96975ab6527406b86f9572e58bd6f54469e0f6a43af", func := "loop.example/tworows/laws.FnExactMatTurned", spec := "fnExactMatTurned", apart := false, narrowed := true }
def FnExactMatTurnedUptoSaid : Prop := fnExactMatTurnedUptoRow.holds Try.pinned (OpenSpec.upto fnExactMatTurnedSpec)

/-- 'laws.FnExactMatBack', WHERE WHAT IT READS IS OF BULK AT MOST 1048576: true; the input reads as it did. -/
def fnExactMatBackUptoRow : OpenClaim := { program := "ytkjogmlkjlgneab", sum := "402285687d03392f7696f96975ab6527406b86f9572e58bd6f54469e0f6a43af", func := "loop.example/tworows/laws.FnExactMatBack", spec := "fnExactMatBack", apart := false, narrowed := true }
def FnExactMatBackUptoSaid : Prop := fnExactMatBackUptoRow.holds Try.pinned (OpenSpec.upto fnExactMatBackSpec)

/-- 'laws.FnExactMatPower', WHERE WHAT IT READS IS OF BULK AT MOST 1048576: true; the input reads as it did. -/
def fnExactMatPowerUptoRow : OpenClaim := { program := "ytkjogmlkjlgneab", sum := "402285687d03392f7696f96975ab6527406b86f9572e58bd6f54469e0f6a43af", func := "loop.example/tworows/laws.FnExactMatPower", spec := "fnExactMatPower", apart := false, narrowed := true }
def FnExactMatPowerUptoSaid : Prop := fnExactMatPowerUptoRow.holds Try.pinned (OpenSpec.upto fnExactMatPowerSpec)

/-- 'laws.FnExactMatMove', WHERE WHAT IT READS IS OF BULK AT MOST 1048576: true; the input reads as it did. -/
def fnExactMatMoveUptoRow : OpenClaim := { program := "ytkjogmlkjlgneab", sum := "402285687d03392f7696f96975ab6527406b86f9572e58bd6f54469e0f6a43af", func := "loop.example/tworows/laws.FnExactMatMove", spec := "fnExactMatMove", apart := false, narrowed := true }
def FnExactMatMoveUptoSaid : Prop := fnExactMatMoveUptoRow.holds Try.pinned (OpenSpec.upto fnExactMatMoveSpec)

/-- 'laws.FnExactMatMirror', WHERE WHAT IT READS IS OF BULK AT MOST 1048576: true; the input reads as it did. -/
def fnExactMatMirrorUptoRow : OpenClaim := { program := "ytkjogmlkjlgneab", sum := "402285687d03392f7696f96975ab6527406b86f9572e58bd6f54469e0f6a43af", func := "loop.example/tworows/laws.FnExactMatMirror", spec := "fnExactMatMirror", apart := false, narrowed := true }
def FnExactMatMirrorUptoSaid : Prop := fnExactMatMirrorUptoRow.holds Try.pinned (OpenSpec.upto fnExactMatMirrorSpec)

/-- 'laws.FnExactMatEven', WHERE WHAT IT READS IS OF BULK AT MOST 1048576: true; the input reads as it did. -/
def fnExactMatEvenUptoRow : OpenClaim := { program := "ytkjogmlkjlgneab", sum := "402285687d03392f7696f96975ab6527406b86f9572e58bd6f54469e0f6a43af", func := "loop.example/tworows/laws.FnExactMatEven", spec := "fnExactMatEven", apart := false, narrowed := true }
def FnExactMatEvenUptoSaid : Prop := fnExactMatEvenUptoRow.holds Try.pinned (OpenSpec.upto fnExactMatEvenSpec)

end Rows
end Go.Proofs.Ytkjogmlkjlgneab

/-
  No cell of these rows narrows 'for every input' (looked for: loops, veiled, ifaces, maps, wideKeys, modest, calm, conditions, laid).
  DERIVED. THE GIVEN ROWS OF THIS SEAT. 6 by the template 'for every input the law returns true; each argument reads behind the call as it read before'; 0 by the template 'total and deterministic' (their statements: YtmcpchockjcjhaaTotals.lean).
  GIVEN WITH THE SEED: the statements are not yours to turn. If you find one false, say at which input.
  Laid BY PROGRAM, IN A SANDBOX (cutbox-rows.mjs): the forced cells as the released guide's own fill.sh prints them over the translation b70eb614b315fff3… (all of the seat's roots in one cut). By AI agents, Wed Nov 11 2026. No macro, syntax, notation, axiom, sorry.
-/
import Derived.Test.YtmcpchockjcjhaaChecked
import GoSem.Claim
import GoSem.ClaimJoined
import GoSem.ClaimMapViews
import Derived.JoinedTies
import Derived.KernelRfl
namespace Go.Proofs.Ytmcpchockjcjhaa
/- THE CELL 'sum', in the pinned program and in every row, IS THE sha256 OF THE DUMP (.gsa) THAT YtmcpchockjcjhaaProg.lean LOADS. Nothing in Lean hashes anything: it is a label: what it is worth is what the hold of that sum in a sandbox is worth. -/
noncomputable def Try.pinned : Pinned := { name := "ytmcpchockjcjhaa", sum := "b70eb614b315fff36c905f8c4be3723d983fe98c8dae0c6008fbbe395e78085a", checked := Try.checked }
namespace Rows
def none {H : Type} : Left H := { results := [], args := [] }

/-- 'laws.FnFraction': WHATEVER THE INPUT: true; the input reads as it did. -/
def fnFractionSpec : ChangeSpec := { name := "fnFraction", fn := fun _ => fun
  | [d] => { results := [.lit (.bool true)], args := [d] }
  | _ => none }
def fnFractionRow : OpenClaim := { program := "ytmcpchockjcjhaa", sum := "b70eb614b315fff36c905f8c4be3723d983fe98c8dae0c6008fbbe395e78085a", func := "loop.example/tworows/laws.FnFraction", spec := "fnFraction", unfollowed := true, recurses := true, apart := false }
def FnFractionSaid : Prop := fnFractionRow.holds Try.pinned (OpenSpec.ofChange fnFractionSpec)

/-- ITS FALSE NEIGHBOUR: 'it returns false'. Refute it at one input. -/
def fnFractionWrong : ChangeSpec := { name := "fnFraction", fn := fun _ => fun
  | [d] => { results := [.lit (.bool false)], args := [d] }
  | _ => none }
def FnFractionWrongFalsely : Prop := fnFractionRow.holds Try.pinned (OpenSpec.ofChange fnFractionWrong)

/-- 'laws.FnTo': WHATEVER THE INPUT: true; the input reads as it did. -/
def fnToSpec : ChangeSpec := { name := "fnTo", fn := fun _ => fun
  | [d] => { results := [.lit (.bool true)], args := [d] }
  | _ => none }
def fnToRow : OpenClaim := { program := "ytmcpchockjcjhaa", sum := "b70eb614b315fff36c905f8c4be3723d983fe98c8dae0c6008fbbe395e78085a", func := "loop.example/tworows/laws.FnTo", spec := "fnTo", unfollowed := true, recurses := true, apart := false }
def FnToSaid : Prop := fnToRow.holds Try.pinned (OpenSpec.ofChange fnToSpec)

/-- ITS FALSE NEIGHBOUR: 'it returns false'. Refute it at one input. -/
def fnToWrong : ChangeSpec := { name := "fnTo", fn := fun _ => fun
  | [d] => { results := [.lit (.bool false)], args := [d] }
  | _ => none }
def FnToWrongFalsely : Prop := fnToRow.holds Try.pinned (OpenSpec.ofChange fnToWrong)

/-- 'laws.FnRuns': WHATEVER THE INPUT: true; the input reads as it did. -/
def fnRunsSpec : ChangeSpec := { name := "fnRuns", fn := fun _ => fun
  | [d] => { results := [.lit (.bool true)], args := [d] }
  | _ => none }
def fnRunsRow : OpenClaim := { program := "ytmcpchockjcjhaa", sum := "b70eb614b315fff36c905f8c4be3723d983fe98c8dae0c6008fbbe395e78085a", func := "loop.example/tworows/laws.FnRuns", spec := "fnRuns", unfollowed := true, recurses := true, apart := false }
def FnRunsSaid : Prop := fnRunsRow.holds Try.pinned (OpenSpec.ofChange fnRunsSpec)

/-- ITS FALSE NEIGHBOUR: 'it returns false'. Refute it at one input. -/
def fnRunsWrong : ChangeSpec := { name := "fnRuns", fn := fun _ => fun
  | [d] => { results := [.lit (.bool false)], args := [d] }
  | _ => none }
def FnRunsWrongFalsely : Prop := fnRunsRow.holds Try.pinned (OpenSpec.ofChange fnRunsWrong)

/-- 'laws.FnWord': WHATEVER THE INPUT: true; the input reads as it did. -/
def fnWordSpec : ChangeSpec := { name := "fnWord", fn := fun _ => fun
  | [d] => { results := [.lit (.bool true)], args := [d] }
  | _ => none }
def fnWordRow : OpenClaim := { program := "ytmcpchockjcjhaa", sum := "b70eb614b315fff36c905f8c4be3723d983fe98c8dae0c6008fbbe395e78085a", func := "loop.example/tworows/laws.FnWord", spec := "fnWord", unfollowed := true, recurses := true, apart := false }
def FnWordSaid : Prop := fnWordRow.holds Try.pinned (OpenSpec.ofChange fnWordSpec)

/-- ITS FALSE NEIGHBOUR: 'it returns false'. Refute it at one input. -/
def fnWordWrong : ChangeSpec := { name := "fnWord", fn := fun _ => fun
  | [d] => { results := [.lit (.bool false)], args := [d] }
  | _ => none }
def FnWordWrongFalsely : Prop := fnWordRow.holds Try.pinned (OpenSpec.ofChange fnWordWrong)

/-- 'laws.FnChanged': WHATEVER THE INPUT: true; the input reads as it did. -/
def fnChangedSpec : ChangeSpec := { name := "fnChanged", fn := fun _ => fun
  | [d] => { results := [.lit (.bool true)], args := [d] }
  | _ => none }
def fnChangedRow : OpenClaim := { program := "ytmcpchockjcjhaa", sum := "b70eb614b315fff36c905f8c4be3723d983fe98c8dae0c6008fbbe395e78085a", func := "loop.example/tworows/laws.FnChanged", spec := "fnChanged", unfollowed := true, recurses := true, apart := false }
def FnChangedSaid : Prop := fnChangedRow.holds Try.pinned (OpenSpec.ofChange fnChangedSpec)

/-- ITS FALSE NEIGHBOUR: 'it returns false'. Refute it at one input. -/
def fnChangedWrong : ChangeSpec := { name := "fnChanged", fn := fun _ => fun
  | [d] => { results := [.lit (.bool false)], args := [d] }
  | _ => none }
def FnChangedWrongFalsely : Prop := fnChangedRow.holds Try.pinned (OpenSpec.ofChange fnChangedWrong)

/-- 'laws.FnWordBack': WHATEVER THE INPUT: true; the input reads as it did. -/
def fnWordBackSpec : ChangeSpec := { name := "fnWordBack", fn := fun _ => fun
  | [d] => { results := [.lit (.bool true)], args := [d] }
  | _ => none }
def fnWordBackRow : OpenClaim := { program := "ytmcpchockjcjhaa", sum := "b70eb614b315fff36c905f8c4be3723d983fe98c8dae0c6008fbbe395e78085a", func := "loop.example/tworows/laws.FnWordBack", spec := "fnWordBack", unfollowed := true, recurses := true, apart := false }
def FnWordBackSaid : Prop := fnWordBackRow.holds Try.pinned (OpenSpec.ofChange fnWordBackSpec)

/-- ITS FALSE NEIGHBOUR: 'it returns false'. Refute it at one input. -/
def fnWordBackWrong : ChangeSpec := { name := "fnWordBack", fn := fun _ => fun
  | [d] => { results := [.lit (.bool false)], args := [d] }
  | _ => none }
def FnWordBackWrongFalsely : Prop := fnWordBackRow.holds Try.pinned (OpenSpec.ofChange fnWordBackWrong)

/- THE SECOND FORM. 'bulk': how many values and letters a reading holds, each counted each time it is reached (what is shared counts as often as it is met; a slice's spare places count too). A statement '..UptoSaid' is the law's where the arguments, and the package variables that the reading takes, are together of bulk at most 1048576: NARROWER than '..Said'. Prove '..Said' where nothing that the law and all that it calls make is longer than what came in: it says more and counts as full. Else prove '..UptoSaid'. A law counts once. -/
mutual
def uptoBulk {H : Type} : DataW H → Nat
  | .lit (.string bytes) => bytes.length + 1
  | .lit _ => 1
  | .nil => 1
  | .ptr d => uptoBulk d + 1
  | .slice elems spare => uptoBulkAll elems + uptoBulkAll spare + 1
  | .agg parts => uptoBulkAll parts + 1
  | .iface _ d => uptoBulk d + 1
  | .map entries => uptoBulkEntries entries + 1
  | .held _ => 1
def uptoBulkAll {H : Type} : List (DataW H) → Nat
  | [] => 0
  | d :: r => uptoBulk d + uptoBulkAll r
def uptoBulkEntries {H : Type} : List (Lit × DataW H) → Nat
  | [] => 0
  | x :: r => uptoBulkEntry x + uptoBulkEntries r
def uptoBulkEntry {H : Type} : Lit × DataW H → Nat
  | (.string bytes, d) => bytes.length + uptoBulk d + 1
  | (_, d) => uptoBulk d + 1
 end
def uptoSmall : (H : Type) → List (DataW H) → Bool := fun _ ds => decide (uptoBulkAll ds ≤ 1048576)
def OpenSpec.upto (s : _root_.Go.ChangeSpec) : _root_.Go.OpenSpec := { _root_.Go.OpenSpec.ofChange s with cond := some uptoSmall }

/-- 'laws.FnFraction', WHERE WHAT IT READS IS OF BULK AT MOST 1048576: true; the input reads as it did. -/
def fnFractionUptoRow : OpenClaim := { program := "ytmcpchockjcjhaa", sum := "b70eb614b315fff36c905f8c4be3723d983fe98c8dae0c6008fbbe395e78085a", func := "loop.example/tworows/laws.FnFraction", spec := "fnFraction", unfollowed := true, recurses := true, apart := false, narrowed := true }
def FnFractionUptoSaid : Prop := fnFractionUptoRow.holds Try.pinned (OpenSpec.upto fnFractionSpec)

/-- 'laws.FnTo', WHERE WHAT IT READS IS OF BULK AT MOST 1048576: true; the input reads as it did. -/
def fnToUptoRow : OpenClaim := { program := "ytmcpchockjcjhaa", sum := "b70eb614b315fff36c905f8c4be3723d983fe98c8dae0c6008fbbe395e78085a", func := "loop.example/tworows/laws.FnTo", spec := "fnTo", unfollowed := true, recurses := true, apart := false, narrowed := true }
def FnToUptoSaid : Prop := fnToUptoRow.holds Try.pinned (OpenSpec.upto fnToSpec)

/-- 'laws.FnRuns', WHERE WHAT IT READS IS OF BULK AT MOST 1048576: true; the input reads as it did. -/
def fnRunsUptoRow : OpenClaim := { program := "ytmcpchockjcjhaa", sum := "b70eb614b315fff36c905f8c4be3723d983fe98c8dae0c6008fbbe395e78085a", func := "loop.example/tworows/laws.FnRuns", spec := "fnRuns", unfollowed := true, recurses := true, apart := false, narrowed := true }
def FnRunsUptoSaid : Prop := fnRunsUptoRow.holds Try.pinned (OpenSpec.upto fnRunsSpec)

/-- 'laws.FnWord', WHERE WHAT IT READS IS OF BULK AT MOST 1048576: true; the input reads as it did. -/
def fnWordUptoRow : OpenClaim := { program := "ytmcpchockjcjhaa", sum := "b70eb614b315fff36c905f8c4be3723d983fe98c8dae0c6008fbbe395e78085a", func := "loop.example/tworows/laws.FnWord", spec := "fnWord", unfollowed := true, recurses := true, apart := false, narrowed := true }
def FnWordUptoSaid : Prop := fnWordUptoRow.holds Try.pinned (OpenSpec.upto fnWordSpec)

/-- 'laws.FnChanged', WHERE WHAT IT READS IS OF BULK AT MOST 1048576: true; the input reads as it did. -/
def fnChangedUptoRow : OpenClaim := { program := "ytmcpchockjcjhaa", sum := "b70eb614b315fff36c905f8c4be3723d983fe98c8dae0c6008fbbe395e78085a", func := "loop.example/tworows/laws.FnChanged", spec := "fnChanged", unfollowed := true, recurses := true, apart := false, narrowed := true }
def FnChangedUptoSaid : Prop := fnChangedUptoRow.holds Try.pinned (OpenSpec.upto fnChangedSpec)

/-- 'laws.FnWordBack', WHERE WHAT IT READS IS OF BULK AT MOST 1048576: true; the input reads as it did. -/
def fnWordBackUptoRow : OpenClaim := { program := "ytmcpchockjcjhaa", sum := "b70eb614b315fff36c905f8c4be3723d983fe98c8dae0c6008fbbe395e78085a", func := "loop.example/tworows/laws.FnWordBack", spec := "fnWordBack", unfollowed := true, recurses := true, apart := false, narrowed := true }
def FnWordBackUptoSaid : Prop := fnWordBackUptoRow.holds Try.pinned (OpenSpec.upto fnWordBackSpec)

end Rows
end Go.Proofs.Ytmcpchockjcjhaa

/-
  No cell of these rows narrows 'for every input' (looked for: loops, veiled, ifaces, maps, wideKeys, modest, calm, conditions, laid).
  DERIVED. THE GIVEN ROWS OF THIS SEAT. 7 by the template 'for every input the law returns true; each argument reads behind the call as it read before'; 0 by the template 'total and deterministic' (their statements: YtdeoblkhjkecdaaTotals.lean).
  GIVEN WITH THE SEED: the statements are not yours to turn. If you find one false, say at which input.
  Laid BY PROGRAM, IN A SANDBOX (cutbox-rows.mjs): the forced cells as the released guide's own fill.sh prints them over the translation c135ef49a38a34fc… (all of the seat's roots in one cut). By AI agents, Wed Nov 11 2026. No macro, syntax, notation, axiom, sorry.
-/
import Derived.Test.YtdeoblkhjkecdaaChecked
import GoSem.Claim
import GoSem.ClaimJoined
import GoSem.ClaimMapViews
import Derived.JoinedTies
import Derived.KernelRfl
namespace Go.Proofs.Ytdeoblkhjkecdaa
/- THE CELL 'sum', in the pinned program and in every row, IS THE sha256 OF THE DUMP (.gsa) THAT YtdeoblkhjkecdaaProg.lean LOADS. Nothing in Lean hashes anything: it is a label: what it is worth is what the hold of that sum in a sandbox is worth. -/
noncomputable def Try.pinned : Pinned := { name := "ytdeoblkhjkecdaa", sum := "c135ef49a38a34fc112d7fef5ae4a58ab7b2e1a9fbc5c4b5a53bd9c57ae73d06", checked := Try.checked }
namespace Rows
def none {H : Type} : Left H := { results := [], args := [] }

/-- 'laws.FnExactLatticeForm': WHATEVER THE INPUT: true; the input reads as it did. -/
def fnExactLatticeFormSpec : ChangeSpec := { name := "fnExactLatticeForm", fn := fun _ => fun
  | [d] => { results := [.lit (.bool true)], args := [d] }
  | _ => none }
def fnExactLatticeFormRow : OpenClaim := { program := "ytdeoblkhjkecdaa", sum := "c135ef49a38a34fc112d7fef5ae4a58ab7b2e1a9fbc5c4b5a53bd9c57ae73d06", func := "loop.example/tworows/laws.FnExactLatticeForm", spec := "fnExactLatticeForm", apart := false }
def FnExactLatticeFormSaid : Prop := fnExactLatticeFormRow.holds Try.pinned (OpenSpec.ofChange fnExactLatticeFormSpec)

/-- ITS FALSE NEIGHBOUR: 'it returns false'. Refute it at one input. -/
def fnExactLatticeFormWrong : ChangeSpec := { name := "fnExactLatticeForm", fn := fun _ => fun
  | [d] => { results := [.lit (.bool false)], args := [d] }
  | _ => none }
def FnExactLatticeFormWrongFalsely : Prop := fnExactLatticeFormRow.holds Try.pinned (OpenSpec.ofChange fnExactLatticeFormWrong)

/-- 'laws.FnExactLatticeSame': WHATEVER THE INPUT: true; the input reads as it did. -/
def fnExactLatticeSameSpec : ChangeSpec := { name := "fnExactLatticeSame", fn := fun _ => fun
  | [d1, d2] => { results := [.lit (.bool true)], args := [d1, d2] }
  | _ => none }
def fnExactLatticeSameRow : OpenClaim := { program := "ytdeoblkhjkecdaa", sum := "c135ef49a38a34fc112d7fef5ae4a58ab7b2e1a9fbc5c4b5a53bd9c57ae73d06", func := "loop.example/tworows/laws.FnExactLatticeSame", spec := "fnExactLatticeSame", apart := false }
def FnExactLatticeSameSaid : Prop := fnExactLatticeSameRow.holds Try.pinned (OpenSpec.ofChange fnExactLatticeSameSpec)

/-- ITS FALSE NEIGHBOUR: 'it returns false'. Refute it at one input. -/
def fnExactLatticeSameWrong : ChangeSpec := { name := "fnExactLatticeSame", fn := fun _ => fun
  | [d1, d2] => { results := [.lit (.bool false)], args := [d1, d2] }
  | _ => none }
def FnExactLatticeSameWrongFalsely : Prop := fnExactLatticeSameRow.holds Try.pinned (OpenSpec.ofChange fnExactLatticeSameWrong)

/-- 'laws.FnExactLatticeHas': WHATEVER THE INPUT: true; the input reads as it did. -/
def fnExactLatticeHasSpec : ChangeSpec := { name := "fnExactLatticeHas", fn := fun _ => fun
  | [d1, d2, d3] => { results := [.lit (.bool true)], args := [d1, d2, d3] }
  | _ => none }
def fnExactLatticeHasRow : OpenClaim := { program := "ytdeoblkhjkecdaa", sum := "c135ef49a38a34fc112d7fef5ae4a58ab7b2e1a9fbc5c4b5a53bd9c57ae73d06", func := "loop.example/tworows/laws.FnExactLatticeHas", spec := "fnExactLatticeHas", apart := false }
def FnExactLatticeHasSaid : Prop := fnExactLatticeHasRow.holds Try.pinned (OpenSpec.ofChange fnExactLatticeHasSpec)

/-- ITS FALSE NEIGHBOUR: 'it returns false'. Refute it at one input. -/
def fnExactLatticeHasWrong : ChangeSpec := { name := "fnExactLatticeHas", fn := fun _ => fun
  | [d1, d2, d3] => { results := [.lit (.bool false)], args := [d1, d2, d3] }
  | _ => none }
def FnExactLatticeHasWrongFalsely : Prop := fnExactLatticeHasRow.holds Try.pinned (OpenSpec.ofChange fnExactLatticeHasWrong)

/-- 'laws.FnExactLatticeAll': WHATEVER THE INPUT: true; the input reads as it did. -/
def fnExactLatticeAllSpec : ChangeSpec := { name := "fnExactLatticeAll", fn := fun _ => fun
  | [d] => { results := [.lit (.bool true)], args := [d] }
  | _ => none }
def fnExactLatticeAllRow : OpenClaim := { program := "ytdeoblkhjkecdaa", sum := "c135ef49a38a34fc112d7fef5ae4a58ab7b2e1a9fbc5c4b5a53bd9c57ae73d06", func := "loop.example/tworows/laws.FnExactLatticeAll", spec := "fnExactLatticeAll", apart := false }
def FnExactLatticeAllSaid : Prop := fnExactLatticeAllRow.holds Try.pinned (OpenSpec.ofChange fnExactLatticeAllSpec)

/-- ITS FALSE NEIGHBOUR: 'it returns false'. Refute it at one input. -/
def fnExactLatticeAllWrong : ChangeSpec := { name := "fnExactLatticeAll", fn := fun _ => fun
  | [d] => { results := [.lit (.bool false)], args := [d] }
  | _ => none }
def FnExactLatticeAllWrongFalsely : Prop := fnExactLatticeAllRow.holds Try.pinned (OpenSpec.ofChange fnExactLatticeAllWrong)

/-- 'laws.FnExactLatticeDouble': WHATEVER THE INPUT: true; the input reads as it did. -/
def fnExactLatticeDoubleSpec : ChangeSpec := { name := "fnExactLatticeDouble", fn := fun _ => fun
  | [d] => { results := [.lit (.bool true)], args := [d] }
  | _ => none }
def fnExactLatticeDoubleRow : OpenClaim := { program := "ytdeoblkhjkecdaa", sum := "c135ef49a38a34fc112d7fef5ae4a58ab7b2e1a9fbc5c4b5a53bd9c57ae73d06", func := "loop.example/tworows/laws.FnExactLatticeDouble", spec := "fnExactLatticeDouble", apart := false }
def FnExactLatticeDoubleSaid : Prop := fnExactLatticeDoubleRow.holds Try.pinned (OpenSpec.ofChange fnExactLatticeDoubleSpec)

/-- ITS FALSE NEIGHBOUR: 'it returns false'. Refute it at one input. -/
def fnExactLatticeDoubleWrong : ChangeSpec := { name := "fnExactLatticeDouble", fn := fun _ => fun
  | [d] => { results := [.lit (.bool false)], args := [d] }
  | _ => none }
def FnExactLatticeDoubleWrongFalsely : Prop := fnExactLatticeDoubleRow.holds Try.pinned (OpenSpec.ofChange fnExactLatticeDoubleWrong)

/-- 'laws.FnExactLatticeMeet': WHATEVER THE INPUT: true; the input reads as it did. -/
def fnExactLatticeMeetSpec : ChangeSpec := { name := "fnExactLatticeMeet", fn := fun _ => fun
  | [d1, d2] => { results := [.lit (.bool true)], args := [d1, d2] }
  | _ => none }
def fnExactLatticeMeetRow : OpenClaim := { program := "ytdeoblkhjkecdaa", sum := "c135ef49a38a34fc112d7fef5ae4a58ab7b2e1a9fbc5c4b5a53bd9c57ae73d06", func := "loop.example/tworows/laws.FnExactLatticeMeet", spec := "fnExactLatticeMeet", apart := false }
def FnExactLatticeMeetSaid : Prop := fnExactLatticeMeetRow.holds Try.pinned (OpenSpec.ofChange fnExactLatticeMeetSpec)

/-- ITS FALSE NEIGHBOUR: 'it returns false'. Refute it at one input. -/
def fnExactLatticeMeetWrong : ChangeSpec := { name := "fnExactLatticeMeet", fn := fun _ => fun
  | [d1, d2] => { results := [.lit (.bool false)], args := [d1, d2] }
  | _ => none }
def FnExactLatticeMeetWrongFalsely : Prop := fnExactLatticeMeetRow.holds Try.pinned (OpenSpec.ofChange fnExactLatticeMeetWrong)

/-- 'laws.FnExactLatticeJoin': WHATEVER THE INPUT: true; the input reads as it did. -/
def fnExactLatticeJoinSpec : ChangeSpec := { name := "fnExactLatticeJoin", fn := fun _ => fun
  | [d1, d2] => { results := [.lit (.bool true)], args := [d1, d2] }
  | _ => none }
def fnExactLatticeJoinRow : OpenClaim := { program := "ytdeoblkhjkecdaa", sum := "c135ef49a38a34fc112d7fef5ae4a58ab7b2e1a9fbc5c4b5a53bd9c57ae73d06", func := "loop.example/tworows/laws.FnExactLatticeJoin", spec := "fnExactLatticeJoin", apart := false }
def FnExactLatticeJoinSaid : Prop := fnExactLatticeJoinRow.holds Try.pinned (OpenSpec.ofChange fnExactLatticeJoinSpec)

/-- ITS FALSE NEIGHBOUR: 'it returns false'. Refute it at one input. -/
def fnExactLatticeJoinWrong : ChangeSpec := { name := "fnExactLatticeJoin", fn := fun _ => fun
  | [d1, d2] => { results := [.lit (.bool false)], args := [d1, d2] }
  | _ => none }
def FnExactLatticeJoinWrongFalsely : Prop := fnExactLatticeJoinRow.holds Try.pinned (OpenSpec.ofChange fnExactLatticeJoinWrong)

/- THE SECOND FORM. 'bulk': how many values and letters a reading holds, each counted each time it is reached (what is shared counts as often as it is met; a slice's spare places count too). A statement '..UptoSaid' is the law's where the arguments, and the package variables that the reading takes, are together of bulk at most 1048576: NARROWER than '..Said'. Prove '..Said' where nothing that the law and all that it calls make is longer than what came in: it says more and counts as full. Else prove '..UptoSaid'. A law counts once. -/
mutual
def uptoBulk {H : Type} : DataW H → Nat
  | .lit (.string bytes) => bytes.length + 1
  | .lit _ => 1
  | .nil => 1
  | .ptr d => uptoBulk d + 1
  | .slice elems spare => uptoBulkAll elems + uptoBulkAll spare + 1
  | .agg parts => uptoBulkAll parts + 1
  | .iface _ d => uptoBulk d + 1
  | .map entries => uptoBulkEntries entries + 1
  | .held _ => 1
def uptoBulkAll {H : Type} : List (DataW H) → Nat
  | [] => 0
  | d :: r => uptoBulk d + uptoBulkAll r
def uptoBulkEntries {H : Type} : List (Lit × DataW H) → Nat
  | [] => 0
  | x :: r => uptoBulkEntry x + uptoBulkEntries r
def uptoBulkEntry {H : Type} : Lit × DataW H → Nat
  | (.string bytes, d) => bytes.length + uptoBulk d + 1
  | (_, d) => uptoBulk d + 1
 end
def uptoSmall : (H : Type) → List (DataW H) → Bool := fun _ ds => decide (uptoBulkAll ds ≤ 1048576)
def OpenSpec.upto (s : _root_.Go.ChangeSpec) : _root_.Go.OpenSpec := { _root_.Go.OpenSpec.ofChange s with cond := some uptoSmall }

/-- 'laws.FnExactLatticeForm', WHERE WHAT IT READS IS OF BULK AT MOST 1048576: true; the input reads as it did. -/
def fnExactLatticeFormUptoRow : OpenClaim := { program := "ytdeoblkhjkecdaa", sum := "c135ef49a38a34fc112d7fef5ae4a58ab7b2e1a9fbc5c4b5a53bd9c57ae73d06", func := "loop.example/tworows/laws.FnExactLatticeForm", spec := "fnExactLatticeForm", apart := false, narrowed := true }
def FnExactLatticeFormUptoSaid : Prop := fnExactLatticeFormUptoRow.holds Try.pinned (OpenSpec.upto fnExactLatticeFormSpec)

/-- 'laws.FnExactLatticeSame', WHERE WHAT IT READS IS OF BULK AT MOST 1048576: true; the input reads as it did. -/
def fnExactLatticeSameUptoRow : OpenClaim := { program := "ytdeoblkhjkecdaa", sum := "c135ef49a38a34fc112d7fef5ae4a58ab7b2e1a9fbc5c4b5a53bd9c57ae73d06", func := "loop.example/tworows/laws.FnExactLatticeSame", spec := "fnExactLatticeSame", apart := false, narrowed := true }
def FnExactLatticeSameUptoSaid : Prop := fnExactLatticeSameUptoRow.holds Try.pinned (OpenSpec.upto fnExactLatticeSameSpec)

/-- 'laws.FnExactLatticeHas', WHERE WHAT IT READS IS OF BULK AT MOST 1048576: true; the input reads as it did. -/
def fnExactLatticeHasUptoRow : OpenClaim := { program := "ytdeoblkhjkecdaa", sum := "c135ef49a38a34fc112d7fef5ae4a58ab7b2e1a9fbc5c4b5a53bd9c57ae73d06", func := "loop.example/tworows/laws.FnExactLatticeHas", spec := "fnExactLatticeHas", apart := false, narrowed := true }
def FnExactLatticeHasUptoSaid : Prop := fnExactLatticeHasUptoRow.holds Try.pinned (OpenSpec.upto fnExactLatticeHasSpec)

/-- 'laws.FnExactLatticeAll', WHERE WHAT IT READS IS OF BULK AT MOST 1048576: true; the input reads as it did. -/
def fnExactLatticeAllUptoRow : OpenClaim := { program := "ytdeoblkhjkecdaa", sum := "c135ef49a38a34fc112d7fef5ae4a58ab7b2e1a9fbc5c4b5a53bd9c57ae73d06", func := "loop.example/tworows/laws.FnExactLatticeAll", spec := "fnExactLatticeAll", apart := false, narrowed := true }
def FnExactLatticeAllUptoSaid : Prop := fnExactLatticeAllUptoRow.holds Try.pinned (OpenSpec.upto fnExactLatticeAllSpec)

/-- 'laws.FnExactLatticeDouble', WHERE WHAT IT READS IS OF BULK AT MOST 1048576: true; the input reads as it did. -/
def fnExactLatticeDoubleUptoRow : OpenClaim := { program := "ytdeoblkhjkecdaa", sum := "c135ef49a38a34fc112d7fef5ae4a58ab7b2e1a9fbc5c4b5a53bd9c57ae73d06", func := "loop.example/tworows/laws.FnExactLatticeDouble", spec := "fnExactLatticeDouble", apart := false, narrowed := true }
def FnExactLatticeDoubleUptoSaid : Prop := fnExactLatticeDoubleUptoRow.holds Try.pinned (OpenSpec.upto fnExactLatticeDoubleSpec)

/-- 'laws.FnExactLatticeMeet', WHERE WHAT IT READS IS OF BULK AT MOST 1048576: true; the input reads as it did. -/
def fnExactLatticeMeetUptoRow : OpenClaim := { program := "ytdeoblkhjkecdaa", sum := "c135ef49a38a34fc112d7fef5ae4a58ab7b2e1a9fbc5c4b5a53bd9c57ae73d06", func := "loop.example/tworows/laws.FnExactLatticeMeet", spec := "fnExactLatticeMeet", apart := false, narrowed := true }
def FnExactLatticeMeetUptoSaid : Prop := fnExactLatticeMeetUptoRow.holds Try.pinned (OpenSpec.upto fnExactLatticeMeetSpec)

/-- 'laws.FnExactLatticeJoin', WHERE WHAT IT READS IS OF BULK AT MOST 1048576: true; the input reads as it did. -/
def fnExactLatticeJoinUptoRow : OpenClaim := { program := "ytdeoblkhjkecdaa", sum := "c135ef49a38a34fc112d7fef5ae4a58ab7b2e1a9fbc5c4b5a53bd9c57ae73d06", func := "loop.example/tworows/laws.FnExactLatticeJoin", spec := "fnExactLatticeJoin", apart := false, narrowed := true }
def FnExactLatticeJoinUptoSaid : Prop := fnExactLatticeJoinUptoRow.holds Try.pinned (OpenSpec.upto fnExactLatticeJoinSpec)

end Rows
end Go.Proofs.Ytdeoblkhjkecdaa

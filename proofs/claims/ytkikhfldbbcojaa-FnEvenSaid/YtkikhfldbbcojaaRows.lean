/-
  No cell of these rows narrows 'for every input' (looked for: loops, veiled, ifaces, maps, wideKeys, modest, calm, conditions, laid).
  DERIVED. THE GIVEN ROWS OF THIS SEAT. 3 by the template 'for every input the law returns true; each argument reads behind the call as it read before'; 0 by the template 'total and deterministic' (their statements: YtkikhfldbbcojaaTotals.lean).
  GIVEN WITH THE SEED: the statements are not yours to turn. If you find one false, say at which input.
  Laid BY PROGRAM, IN A SANDBOX (cutbox-rows.mjs): the forced cells as the released guide's own fill.sh prints them over the translation a77b4afc82171fcc… (all of the seat's roots in one cut). By AI agents, Wed Nov 11 2026. No macro, syntax, notation, axiom, sorry.
-/
import Derived.Test.YtkikhfldbbcojaaChecked
import GoSem.Claim
import GoSem.ClaimJoined
import GoSem.ClaimMapViews
import Derived.JoinedTies
import Derived.KernelRfl
namespace Go.Proofs.Ytkikhfldbbcojaa
/- THE CELL 'sum', in the pinned program and in every row, IS THE sha256 OF THE DUMP (.gsa) THAT YtkikhfldbbcojaaProg.lean LOADS. Nothing in Lean hashes anything: it is a label: what it is worth is what the hold of that sum in a sandbox is worth. -/
noncomputable def Try.pinned : Pinned := { name := "ytkikhfldbbcojaa", sum := "a77b4afc82171fccf984cfa132f32c2b531b98422b08daf56e57aca47306e14a", checked := Try.checked }
namespace Rows
def none {H : Type} : Left H := { results := [], args := [] }

/-- 'laws.FnDet': WHATEVER THE INPUT: true; the input reads as it did. -/
def fnDetSpec : ChangeSpec := { name := "fnDet", fn := fun _ => fun
  | [d] => { results := [.lit (.bool true)], args := [d] }
  | _ => none }
def fnDetRow : OpenClaim := { program := "ytkikhfldbbcojaa", sum := "a77b4afc82171fccf984cfa132f32c2b531b98422b08daf56e57aca47306e14a", func := "loop.example/tworows/laws.FnDet", spec := "fnDet", apart := false }
def FnDetSaid : Prop := fnDetRow.holds Try.pinned (OpenSpec.ofChange fnDetSpec)

/-- ITS FALSE NEIGHBOUR: 'it returns false'. Refute it at one input. -/
def fnDetWrong : ChangeSpec := { name := "fnDet", fn := fun _ => fun
  | [d] => { results := [.lit (.bool false)], args := [d] }
  | _ => none }
def FnDetWrongFalsely : Prop := fnDetRow.holds Try.pinned (OpenSpec.ofChange fnDetWrong)

/-- 'laws.FnMatTurned': WHATEVER THE INPUT: true; the input reads as it did. -/
def fnMatTurnedSpec : ChangeSpec := { name := "fnMatTurned", fn := fun _ => fun
  | [d] => { results := [.lit (.bool true)], args := [d] }
  | _ => none }
def fnMatTurnedRow : OpenClaim := { program := "ytkikhfldbbcojaa", sum := "a77b4afc82171fccf984cfa132f32c2b531b98422b08daf56e57aca47306e14a", func := "loop.example/tworows/laws.FnMatTurned", spec := "fnMatTurned", apart := false }
def FnMatTurnedSaid : Prop := fnMatTurnedRow.holds Try.pinned (OpenSpec.ofChange fnMatTurnedSpec)

/-- ITS FALSE NEIGHBOUR: 'it returns false'. Refute it at one input. -/
def fnMatTurnedWrong : ChangeSpec := { name := "fnMatTurned", fn := fun _ => fun
  | [d] => { results := [.lit (.bool false)], args := [d] }
  | _ => none }
def FnMatTurnedWrongFalsely : Prop := fnMatTurnedRow.holds Try.pinned (OpenSpec.ofChange fnMatTurnedWrong)

/-- 'laws.FnEven': WHATEVER THE INPUT: true; the input reads as it did. -/
def fnEvenSpec : ChangeSpec := { name := "fnEven", fn := fun _ => fun
  | [d] => { results := [.lit (.bool true)], args := [d] }
  | _ => none }
def fnEvenRow : OpenClaim := { program := "ytkikhfldbbcojaa", sum := "a77b4afc82171fccf984cfa132f32c2b531b98422b08daf56e57aca47306e14a", func := "loop.example/tworows/laws.FnEven", spec := "fnEven", apart := false }
def FnEvenSaid : Prop := fnEvenRow.holds Try.pinned (OpenSpec.ofChange fnEvenSpec)

/-- ITS FALSE NEIGHBOUR: 'it returns false'. Refute it at one input. -/
def fnEvenWrong : ChangeSpec := { name := "fnEven", fn := fun _ => fun
  | [d] => { results := [.lit (.bool false)], args := [d] }
  | _ => none }
def FnEvenWrongFalsely : Prop := fnEvenRow.holds Try.pinned (OpenSpec.ofChange fnEvenWrong)

/- THE SECOND FORM. 'bulk': how many values and letters a reading holds, each counted each time it is reached (what is shared counts as often as it is met; a slice's spare places count too). A statement '..UptoSaid' is the law's where the arguments, and the package variables that the reading takes, are together of bulk at most 1048576: NARROWER than '..Said'. Prove '..Said' where nothing that the law and all that it calls make is longer than what came in: it says more and counts as full. Else prove '..UptoSaid'. A law counts once. -/
mutual
def uptoBulk {H : Type} : DataW H → Nat
  | .lit (.string bytes) => bytes.length + 1
  | .lit _ => 1
  | .nil => 1
  | .ptr d => uptoBulk d + 1
  | .slice elems spare => uptoBulkAll elems + uptoBulkAll spare + 1
  | .agg parts => uptoBulkAll parts + 1
  | .iface _ d => uptoBulk d + 1
  | .map entries => uptoBulkEntries entries + 1
  | .held _ => 1
def uptoBulkAll {H : Type} : List (DataW H) → Nat
  | [] => 0
  | d :: r => uptoBulk d + uptoBulkAll r
def uptoBulkEntries {H : Type} : List (Lit × DataW H) → Nat
  | [] => 0
  | x :: r => uptoBulkEntry x + uptoBulkEntries r
def uptoBulkEntry {H : Type} : Lit × DataW H → Nat
  | (.string bytes, d) => bytes.length + uptoBulk d + 1
  | (_, d) => uptoBulk d + 1
 end
def uptoSmall : (H : Type) → List (DataW H) → Bool := fun _ ds => decide (uptoBulkAll ds ≤ 1048576)
def OpenSpec.upto (s : _root_.Go.ChangeSpec) : _root_.Go.OpenSpec := { _root_.Go.OpenSpec.ofChange s with cond := some uptoSmall }

/-- 'laws.FnDet', WHERE WHAT IT READS IS OF BULK AT MOST 1048576: true; the input reads as it did. -/
def fnDetUptoRow : OpenClaim := { program := "ytkikhfldbbcojaa", sum := "a77b4afc82171fccf984cfa132f32c2b531b98422b08daf56e57aca47306e14a", func := "loop.example/tworows/laws.FnDet", spec := "fnDet", apart := false, narrowed := true }
def FnDetUptoSaid : Prop := fnDetUptoRow.holds Try.pinned (OpenSpec.upto fnDetSpec)

/-- 'laws.FnMatTurned', WHERE WHAT IT READS IS OF BULK AT MOST 1048576: true; the input reads as it did. -/
def fnMatTurnedUptoRow : OpenClaim := { program := "ytkikhfldbbcojaa", sum := "a77b4afc82171fccf984cfa132f32c2b531b98422b08daf56e57aca47306e14a", func := "loop.example/tworows/laws.FnMatTurned", spec := "fnMatTurned", apart := false, narrowed := true }
def FnMatTurnedUptoSaid : Prop := fnMatTurnedUptoRow.holds Try.pinned (OpenSpec.upto fnMatTurnedSpec)

/-- 'laws.FnEven', WHERE WHAT IT READS IS OF BULK AT MOST 1048576: true; the input reads as it did. -/
def fnEvenUptoRow : OpenClaim := { program := "ytkikhfldbbcojaa", sum := "a77b4afc82171fccf984cfa132f32c2b531b98422b08daf56e57aca47306e14a", func := "loop.example/tworows/laws.FnEven", spec := "fnEven", apart := false, narrowed := true }
def FnEvenUptoSaid : Prop := fnEvenUptoRow.holds Try.pinned (OpenSpec.upto fnEvenSpec)

end Rows
end Go.Proofs.Ytkikhfldbbcojaa

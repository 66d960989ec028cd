/-
  DERIVED. GIVEN WITH THE SEED: THE CARDS: each row of YtpalgnfimelioaaGreatDoorRows.lean that lists a variable, with what it lists TIED to the program's text (the seventh form; the later family's looks); each row that meets fmt, with fmt's text TOLD by the authors' own Lean function (tested against real Go, not proved from fmt's source: count such statements apart). THE CARD IS WHAT COUNTS. Prove the row's statement (the work); the ties are given (YtpalgnfimelioaaGreatDoorTie.lean); close each card by the builder's one call (the guide's Derived/Test/ToyasCard.lean, 'card_holds'). Laid BY PROGRAM, IN A SANDBOX (cutbox-door.mjs). By AI agents, Wed Nov 11 2026. No macro, syntax, notation, axiom, sorry.
-/
import Derived.Test.YtpalgnfimelioaaGreatDoorRows
import GoSem.ClaimSeven
namespace Go.Proofs.YtpalgnfimelioaaGreatDoor
namespace Rows

/-- THE TIED CARD OF 'laws.FnExecuteWord'. -/
def fnExecuteWordCard : Claim7 := { stood := { row := fnExecuteWordRow, standIns := [], harness := (true, "1e51421b8c9d176efb4cf9793c6a93e992455ea221c2303d4fd6697064608690"), looks := true }, kinds := [], alts := [], goes := true, laidByText := true, laidKinds := [.data, .data, .data, .data, .handle, .sentinel, .sentinel, .pinned], laidTests := true, laidLooks := .later }
def FnExecuteWordCardSaid : Prop := Claim7.holds Tryz.pinned (.plain (OpenSpec.ofChange fnExecuteWordSpec)) fnExecuteWordCard

/-- THE TIED CARD OF 'laws.FnExecuteDet'. -/
def fnExecuteDetCard : Claim7 := { stood := { row := fnExecuteDetRow, standIns := [], harness := (true, "1e51421b8c9d176efb4cf9793c6a93e992455ea221c2303d4fd6697064608690"), looks := true }, kinds := [], alts := [], goes := true, laidByText := true, laidKinds := [.data, .data, .data, .data, .handle, .sentinel, .sentinel, .pinned], laidTests := true, laidLooks := .later }
def FnExecuteDetCardSaid : Prop := Claim7.holds Tryz.pinned (.plain (OpenSpec.ofChange fnExecuteDetSpec)) fnExecuteDetCard

/-- THE SECOND FORM's CARD OF 'laws.FnExecuteWord'. -/
def fnExecuteWordUptoCard : Claim7 := { stood := { row := fnExecuteWordUptoRow, standIns := [], harness := (true, "1e51421b8c9d176efb4cf9793c6a93e992455ea221c2303d4fd6697064608690"), looks := true }, kinds := [], alts := [], goes := true, laidByText := true, laidKinds := [.data, .data, .data, .data, .handle, .sentinel, .sentinel, .pinned], laidTests := true, laidLooks := .later }
def FnExecuteWordUptoCardSaid : Prop := Claim7.holds Tryz.pinned (.plain (OpenSpec.upto fnExecuteWordSpec)) fnExecuteWordUptoCard

/-- THE SECOND FORM's CARD OF 'laws.FnExecuteDet'. -/
def fnExecuteDetUptoCard : Claim7 := { stood := { row := fnExecuteDetUptoRow, standIns := [], harness := (true, "1e51421b8c9d176efb4cf9793c6a93e992455ea221c2303d4fd6697064608690"), looks := true }, kinds := [], alts := [], goes := true, laidByText := true, laidKinds := [.data, .data, .data, .data, .handle, .sentinel, .sentinel, .pinned], laidTests := true, laidLooks := .later }
def FnExecuteDetUptoCardSaid : Prop := Claim7.holds Tryz.pinned (.plain (OpenSpec.upto fnExecuteDetSpec)) fnExecuteDetUptoCard
end Rows
end Go.Proofs.YtpalgnfimelioaaGreatDoor

/-
  DERIVED. GIVEN WITH THE SEED: THE CARDS: each row of YtjeplhmfcofgiaaDoorRows.lean that lists a variable, with what it lists TIED to the program's text (the seventh form; the later family's looks); each row that meets fmt, with fmt's text TOLD by the authors' own Lean function (tested against real Go, not proved from fmt's source: count such statements apart). THE CARD IS WHAT COUNTS. Prove the row's statement (the work); the ties are given (YtjeplhmfcofgiaaDoorTie.lean); close each card by the builder's one call (the guide's Derived/Test/ToyasCard.lean, 'card_holds'). Laid BY PROGRAM, IN A SANDBOX (cutbox-door.mjs). By AI agents, Wed Nov 11 2026. No macro, syntax, notation, axiom, sorry.
-/
import Derived.Test.YtjeplhmfcofgiaaDoorRows
import GoSem.ClaimSeven
namespace Go.Proofs.YtjeplhmfcofgiaaDoor
namespace Rows

/-- THE TIED CARD OF 'laws.FnExactTurnOf'. -/
def fnExactTurnOfCard : Claim7 := { stood := { row := fnExactTurnOfRow, standIns := [], harness := (true, "4798eee84a5e49dcb2efa06b5c93a29eb3cbeac339d18cec9ff3cfde8cd6f882"), looks := true }, kinds := [], alts := [], laidByText := true, laidKinds := [.handle], laidTests := true, laidLooks := .later }
def FnExactTurnOfCardSaid : Prop := Claim7.holds Tryd.pinned (.plain (OpenSpec.ofChange fnExactTurnOfSpec)) fnExactTurnOfCard

/-- THE TIED CARD OF 'laws.FnExactTurnList'. -/
def fnExactTurnListCard : Claim7 := { stood := { row := fnExactTurnListRow, standIns := [], harness := (true, "4798eee84a5e49dcb2efa06b5c93a29eb3cbeac339d18cec9ff3cfde8cd6f882"), looks := true }, kinds := [], alts := [], laidByText := true, laidKinds := [.handle], laidTests := true, laidLooks := .later }
def FnExactTurnListCardSaid : Prop := Claim7.holds Tryd.pinned (.plain (OpenSpec.ofChange fnExactTurnListSpec)) fnExactTurnListCard

/-- THE TIED CARD OF 'laws.FnExactTurnTrace'. -/
def fnExactTurnTraceCard : Claim7 := { stood := { row := fnExactTurnTraceRow, standIns := [], harness := (true, "4798eee84a5e49dcb2efa06b5c93a29eb3cbeac339d18cec9ff3cfde8cd6f882"), looks := true }, kinds := [], alts := [], laidByText := true, laidKinds := [.handle], laidTests := true, laidLooks := .later }
def FnExactTurnTraceCardSaid : Prop := Claim7.holds Tryd.pinned (.plain (OpenSpec.ofChange fnExactTurnTraceSpec)) fnExactTurnTraceCard

/-- THE TIED CARD OF 'laws.FnExactTurnRound'. -/
def fnExactTurnRoundCard : Claim7 := { stood := { row := fnExactTurnRoundRow, standIns := [], harness := (true, "4798eee84a5e49dcb2efa06b5c93a29eb3cbeac339d18cec9ff3cfde8cd6f882"), looks := true }, kinds := [], alts := [], laidByText := true, laidKinds := [.handle], laidTests := true, laidLooks := .later }
def FnExactTurnRoundCardSaid : Prop := Claim7.holds Tryd.pinned (.plain (OpenSpec.ofChange fnExactTurnRoundSpec)) fnExactTurnRoundCard

/-- THE SECOND FORM's CARD OF 'laws.FnExactTurnOf'. -/
def fnExactTurnOfUptoCard : Claim7 := { stood := { row := fnExactTurnOfUptoRow, standIns := [], harness := (true, "4798eee84a5e49dcb2efa06b5c93a29eb3cbeac339d18cec9ff3cfde8cd6f882"), looks := true }, kinds := [], alts := [], laidByText := true, laidKinds := [.handle], laidTests := true, laidLooks := .later }
def FnExactTurnOfUptoCardSaid : Prop := Claim7.holds Tryd.pinned (.plain (OpenSpec.upto fnExactTurnOfSpec)) fnExactTurnOfUptoCard

/-- THE SECOND FORM's CARD OF 'laws.FnExactTurnList'. -/
def fnExactTurnListUptoCard : Claim7 := { stood := { row := fnExactTurnListUptoRow, standIns := [], harness := (true, "4798eee84a5e49dcb2efa06b5c93a29eb3cbeac339d18cec9ff3cfde8cd6f882"), looks := true }, kinds := [], alts := [], laidByText := true, laidKinds := [.handle], laidTests := true, laidLooks := .later }
def FnExactTurnListUptoCardSaid : Prop := Claim7.holds Tryd.pinned (.plain (OpenSpec.upto fnExactTurnListSpec)) fnExactTurnListUptoCard

/-- THE SECOND FORM's CARD OF 'laws.FnExactTurnTrace'. -/
def fnExactTurnTraceUptoCard : Claim7 := { stood := { row := fnExactTurnTraceUptoRow, standIns := [], harness := (true, "4798eee84a5e49dcb2efa06b5c93a29eb3cbeac339d18cec9ff3cfde8cd6f882"), looks := true }, kinds := [], alts := [], laidByText := true, laidKinds := [.handle], laidTests := true, laidLooks := .later }
def FnExactTurnTraceUptoCardSaid : Prop := Claim7.holds Tryd.pinned (.plain (OpenSpec.upto fnExactTurnTraceSpec)) fnExactTurnTraceUptoCard

/-- THE SECOND FORM's CARD OF 'laws.FnExactTurnRound'. -/
def fnExactTurnRoundUptoCard : Claim7 := { stood := { row := fnExactTurnRoundUptoRow, standIns := [], harness := (true, "4798eee84a5e49dcb2efa06b5c93a29eb3cbeac339d18cec9ff3cfde8cd6f882"), looks := true }, kinds := [], alts := [], laidByText := true, laidKinds := [.handle], laidTests := true, laidLooks := .later }
def FnExactTurnRoundUptoCardSaid : Prop := Claim7.holds Tryd.pinned (.plain (OpenSpec.upto fnExactTurnRoundSpec)) fnExactTurnRoundUptoCard
end Rows
end Go.Proofs.YtjeplhmfcofgiaaDoor

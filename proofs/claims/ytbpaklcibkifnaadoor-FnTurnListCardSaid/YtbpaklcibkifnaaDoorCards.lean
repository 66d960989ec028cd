/-
  DERIVED. GIVEN WITH THE SEED: THE CARDS: each row of YtbpaklcibkifnaaDoorRows.lean that lists a variable, with what it lists TIED to the program's text (the seventh form; the later family's looks); each row that meets fmt, with fmt's text TOLD by the authors' own Lean function (tested against real Go, not proved from fmt's source: count such statements apart). THE CARD IS WHAT COUNTS. Prove the row's statement (the work); the ties are given (YtbpaklcibkifnaaDoorTie.lean); close each card by the builder's one call (the guide's Derived/Test/ToyasCard.lean, 'card_holds'). Laid BY PROGRAM, IN A SANDBOX (cutbox-door.mjs). By AI agents, Wed Nov 11 2026. No macro, syntax, notation, axiom, sorry.
-/
import Derived.Test.YtbpaklcibkifnaaDoorRows
import GoSem.ClaimSeven
namespace Go.Proofs.YtbpaklcibkifnaaDoor
namespace Rows

/-- THE TIED CARD OF 'laws.FnTurnOf'. -/
def fnTurnOfCard : Claim7 := { stood := { row := fnTurnOfRow, standIns := [], harness := (true, "b01d1156b122bba10f09ecd113c0200816e15003da0a50e83e4a91a725f3ecd4"), looks := true }, kinds := [], alts := [], laidByText := true, laidKinds := [.handle], laidTests := true, laidLooks := .later }
def FnTurnOfCardSaid : Prop := Claim7.holds Tryd.pinned (.plain (OpenSpec.ofChange fnTurnOfSpec)) fnTurnOfCard

/-- THE TIED CARD OF 'laws.FnTurnList'. -/
def fnTurnListCard : Claim7 := { stood := { row := fnTurnListRow, standIns := [], harness := (true, "b01d1156b122bba10f09ecd113c0200816e15003da0a50e83e4a91a725f3ecd4"), looks := true }, kinds := [], alts := [], laidByText := true, laidKinds := [.handle], laidTests := true, laidLooks := .later }
def FnTurnListCardSaid : Prop := Claim7.holds Tryd.pinned (.plain (OpenSpec.ofChange fnTurnListSpec)) fnTurnListCard

/-- THE TIED CARD OF 'laws.FnTurnTrace'. -/
def fnTurnTraceCard : Claim7 := { stood := { row := fnTurnTraceRow, standIns := [], harness := (true, "b01d1156b122bba10f09ecd113c0200816e15003da0a50e83e4a91a725f3ecd4"), looks := true }, kinds := [], alts := [], laidByText := true, laidKinds := [.handle], laidTests := true, laidLooks := .later }
def FnTurnTraceCardSaid : Prop := Claim7.holds Tryd.pinned (.plain (OpenSpec.ofChange fnTurnTraceSpec)) fnTurnTraceCard

/-- THE TIED CARD OF 'laws.FnRound'. -/
def fnRoundCard : Claim7 := { stood := { row := fnRoundRow, standIns := [], harness := (true, "b01d1156b122bba10f09ecd113c0200816e15003da0a50e83e4a91a725f3ecd4"), looks := true }, kinds := [], alts := [], laidByText := true, laidKinds := [.handle], laidTests := true, laidLooks := .later }
def FnRoundCardSaid : Prop := Claim7.holds Tryd.pinned (.plain (OpenSpec.ofChange fnRoundSpec)) fnRoundCard

/-- THE SECOND FORM's CARD OF 'laws.FnTurnOf'. -/
def fnTurnOfUptoCard : Claim7 := { stood := { row := fnTurnOfUptoRow, standIns := [], harness := (true, "b01d1156b122bba10f09ecd113c0200816e15003da0a50e83e4a91a725f3ecd4"), looks := true }, kinds := [], alts := [], laidByText := true, laidKinds := [.handle], laidTests := true, laidLooks := .later }
def FnTurnOfUptoCardSaid : Prop := Claim7.holds Tryd.pinned (.plain (OpenSpec.upto fnTurnOfSpec)) fnTurnOfUptoCard

/-- THE SECOND FORM's CARD OF 'laws.FnTurnList'. -/
def fnTurnListUptoCard : Claim7 := { stood := { row := fnTurnListUptoRow, standIns := [], harness := (true, "b01d1156b122bba10f09ecd113c0200816e15003da0a50e83e4a91a725f3ecd4"), looks := true }, kinds := [], alts := [], laidByText := true, laidKinds := [.handle], laidTests := true, laidLooks := .later }
def FnTurnListUptoCardSaid : Prop := Claim7.holds Tryd.pinned (.plain (OpenSpec.upto fnTurnListSpec)) fnTurnListUptoCard

/-- THE SECOND FORM's CARD OF 'laws.FnTurnTrace'. -/
def fnTurnTraceUptoCard : Claim7 := { stood := { row := fnTurnTraceUptoRow, standIns := [], harness := (true, "b01d1156b122bba10f09ecd113c0200816e15003da0a50e83e4a91a725f3ecd4"), looks := true }, kinds := [], alts := [], laidByText := true, laidKinds := [.handle], laidTests := true, laidLooks := .later }
def FnTurnTraceUptoCardSaid : Prop := Claim7.holds Tryd.pinned (.plain (OpenSpec.upto fnTurnTraceSpec)) fnTurnTraceUptoCard

/-- THE SECOND FORM's CARD OF 'laws.FnRound'. -/
def fnRoundUptoCard : Claim7 := { stood := { row := fnRoundUptoRow, standIns := [], harness := (true, "b01d1156b122bba10f09ecd113c0200816e15003da0a50e83e4a91a725f3ecd4"), looks := true }, kinds := [], alts := [], laidByText := true, laidKinds := [.handle], laidTests := true, laidLooks := .later }
def FnRoundUptoCardSaid : Prop := Claim7.holds Tryd.pinned (.plain (OpenSpec.upto fnRoundSpec)) fnRoundUptoCard
end Rows
end Go.Proofs.YtbpaklcibkifnaaDoor

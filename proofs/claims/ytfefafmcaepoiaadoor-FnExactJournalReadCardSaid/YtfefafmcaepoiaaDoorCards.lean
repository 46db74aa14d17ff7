/-
  DERIVED. GIVEN WITH THE SEED: THE CARDS: each row of YtfefafmcaepoiaaDoorRows.lean that lists a variable, with what it lists TIED to the program's text (the seventh form; the later family's looks); each row that meets fmt, with fmt's text TOLD by the authors' own Lean function (tested against real Go, not proved from fmt's source: count such statements apart). THE CARD IS WHAT COUNTS. Prove the row's statement (the work); the ties are given (YtfefafmcaepoiaaDoorTie.lean); close each card by the builder's one call (the guide's Derived/Test/ToyasCard.lean, 'card_holds'). Laid BY PROGRAM, IN A SANDBOX (cutbox-door.mjs). By AI agents, Wed Nov 11 2026. No macro, syntax, notation, axiom, sorry.
-/
import Derived.Test.YtfefafmcaepoiaaDoorRows
import GoSem.ClaimSeven
namespace Go.Proofs.YtfefafmcaepoiaaDoor
namespace Rows

/-- THE TIED CARD OF 'laws.FnExactJournalRead'. -/
def fnExactJournalReadCard : Claim7 := { stood := { row := fnExactJournalReadRow, standIns := [], harness := (true, "bc7151db616a863e956f9d5571b9448a7abfd5d1c8aca7964cface6d145323ce"), looks := true }, kinds := [], alts := [], laidByText := true, laidKinds := [.sentinel, .sentinel, .sentinel, .sentinel, .sentinel], laidTests := true, laidLooks := .later }
def FnExactJournalReadCardSaid : Prop := Claim7.holds Tryd.pinned (.plain (OpenSpec.ofChange fnExactJournalReadSpec)) fnExactJournalReadCard

/-- THE TIED CARD OF 'laws.FnExactJournalDrop'. -/
def fnExactJournalDropCard : Claim7 := { stood := { row := fnExactJournalDropRow, standIns := [], harness := (true, "bc7151db616a863e956f9d5571b9448a7abfd5d1c8aca7964cface6d145323ce"), looks := true }, kinds := [], alts := [], laidByText := true, laidKinds := [.sentinel, .sentinel, .sentinel, .sentinel, .sentinel], laidTests := true, laidLooks := .later }
def FnExactJournalDropCardSaid : Prop := Claim7.holds Tryd.pinned (.plain (OpenSpec.ofChange fnExactJournalDropSpec)) fnExactJournalDropCard

/-- THE SECOND FORM's CARD OF 'laws.FnExactJournalRead'. -/
def fnExactJournalReadUptoCard : Claim7 := { stood := { row := fnExactJournalReadUptoRow, standIns := [], harness := (true, "bc7151db616a863e956f9d5571b9448a7abfd5d1c8aca7964cface6d145323ce"), looks := true }, kinds := [], alts := [], laidByText := true, laidKinds := [.sentinel, .sentinel, .sentinel, .sentinel, .sentinel], laidTests := true, laidLooks := .later }
def FnExactJournalReadUptoCardSaid : Prop := Claim7.holds Tryd.pinned (.plain (OpenSpec.upto fnExactJournalReadSpec)) fnExactJournalReadUptoCard

/-- THE SECOND FORM's CARD OF 'laws.FnExactJournalDrop'. -/
def fnExactJournalDropUptoCard : Claim7 := { stood := { row := fnExactJournalDropUptoRow, standIns := [], harness := (true, "bc7151db616a863e956f9d5571b9448a7abfd5d1c8aca7964cface6d145323ce"), looks := true }, kinds := [], alts := [], laidByText := true, laidKinds := [.sentinel, .sentinel, .sentinel, .sentinel, .sentinel], laidTests := true, laidLooks := .later }
def FnExactJournalDropUptoCardSaid : Prop := Claim7.holds Tryd.pinned (.plain (OpenSpec.upto fnExactJournalDropSpec)) fnExactJournalDropUptoCard
end Rows
end Go.Proofs.YtfefafmcaepoiaaDoor

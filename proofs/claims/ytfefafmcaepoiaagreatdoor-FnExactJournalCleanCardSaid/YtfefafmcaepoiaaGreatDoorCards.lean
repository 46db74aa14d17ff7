/-
  DERIVED. GIVEN WITH THE SEED: THE CARDS: each row of YtfefafmcaepoiaaGreatDoorRows.lean that lists a variable, with what it lists TIED to the program's text (the seventh form; the later family's looks); each row that meets fmt, with fmt's text TOLD by the authors' own Lean function (tested against real Go, not proved from fmt's source: count such statements apart). THE CARD IS WHAT COUNTS. Prove the row's statement (the work); the ties are given (YtfefafmcaepoiaaGreatDoorTie.lean); close each card by the builder's one call (the guide's Derived/Test/ToyasCard.lean, 'card_holds'). Laid BY PROGRAM, IN A SANDBOX (cutbox-door.mjs). By AI agents, Wed Nov 11 2026. No macro, syntax, notation, axiom, sorry.
-/
import Derived.Test.YtfefafmcaepoiaaGreatDoorRows
import GoSem.ClaimSeven
namespace Go.Proofs.YtfefafmcaepoiaaGreatDoor
namespace Rows

/-- THE TIED CARD OF 'laws.FnExactJournalAdd'. -/
def fnExactJournalAddCard : Claim7 := { stood := { row := fnExactJournalAddRow, standIns := [], harness := (true, "9960613572f33c0c94eec84dde44109c8333c10a457c46380d86f57432a813d1"), looks := true }, kinds := [], alts := [], laidByText := true, laidKinds := [.sentinel, .sentinel, .sentinel, .sentinel, .sentinel], laidTests := true, laidLooks := .later }
def FnExactJournalAddCardSaid : Prop := Claim7.holds Tryz.pinned (.plain (OpenSpec.ofChange fnExactJournalAddSpec)) fnExactJournalAddCard

/-- THE TIED CARD OF 'laws.FnExactJournalClean'. -/
def fnExactJournalCleanCard : Claim7 := { stood := { row := fnExactJournalCleanRow, standIns := [], harness := (true, "9960613572f33c0c94eec84dde44109c8333c10a457c46380d86f57432a813d1"), looks := true }, kinds := [], alts := [], laidByText := true, laidKinds := [.sentinel, .sentinel, .sentinel, .sentinel, .sentinel], laidTests := true, laidLooks := .later }
def FnExactJournalCleanCardSaid : Prop := Claim7.holds Tryz.pinned (.plain (OpenSpec.ofChange fnExactJournalCleanSpec)) fnExactJournalCleanCard

/-- THE SECOND FORM's CARD OF 'laws.FnExactJournalAdd'. -/
def fnExactJournalAddUptoCard : Claim7 := { stood := { row := fnExactJournalAddUptoRow, standIns := [], harness := (true, "9960613572f33c0c94eec84dde44109c8333c10a457c46380d86f57432a813d1"), looks := true }, kinds := [], alts := [], laidByText := true, laidKinds := [.sentinel, .sentinel, .sentinel, .sentinel, .sentinel], laidTests := true, laidLooks := .later }
def FnExactJournalAddUptoCardSaid : Prop := Claim7.holds Tryz.pinned (.plain (OpenSpec.upto fnExactJournalAddSpec)) fnExactJournalAddUptoCard

/-- THE SECOND FORM's CARD OF 'laws.FnExactJournalClean'. -/
def fnExactJournalCleanUptoCard : Claim7 := { stood := { row := fnExactJournalCleanUptoRow, standIns := [], harness := (true, "9960613572f33c0c94eec84dde44109c8333c10a457c46380d86f57432a813d1"), looks := true }, kinds := [], alts := [], laidByText := true, laidKinds := [.sentinel, .sentinel, .sentinel, .sentinel, .sentinel], laidTests := true, laidLooks := .later }
def FnExactJournalCleanUptoCardSaid : Prop := Claim7.holds Tryz.pinned (.plain (OpenSpec.upto fnExactJournalCleanSpec)) fnExactJournalCleanUptoCard
end Rows
end Go.Proofs.YtfefafmcaepoiaaGreatDoor

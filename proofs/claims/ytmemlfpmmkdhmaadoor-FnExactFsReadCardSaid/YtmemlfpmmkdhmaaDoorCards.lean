/-
  DERIVED. GIVEN WITH THE SEED: THE CARDS: each row of YtmemlfpmmkdhmaaDoorRows.lean that lists a variable, with what it lists TIED to the program's text (the seventh form; the later family's looks); each row that meets fmt, with fmt's text TOLD by the authors' own Lean function (tested against real Go, not proved from fmt's source: count such statements apart). THE CARD IS WHAT COUNTS. Prove the row's statement (the work); the ties are given (YtmemlfpmmkdhmaaDoorTie.lean); close each card by the builder's one call (the guide's Derived/Test/ToyasCard.lean, 'card_holds'). Laid BY PROGRAM, IN A SANDBOX (cutbox-door.mjs). By AI agents, Wed Nov 11 2026. No macro, syntax, notation, axiom, sorry.
-/
import Derived.Test.YtmemlfpmmkdhmaaDoorRows
import GoSem.ClaimSeven
namespace Go.Proofs.YtmemlfpmmkdhmaaDoor
namespace Rows

/-- THE TIED CARD OF 'laws.FnExactFsRead'. -/
def fnExactFsReadCard : Claim7 := { stood := { row := fnExactFsReadRow, standIns := [], harness := (true, "7ee41d1b39036c6d3333a3b20998ec43f2850097a4669b03a4d197092e3ace9f"), looks := true }, kinds := [], alts := [], laidByText := true, laidKinds := [.sentinel, .sentinel, .sentinel, .sentinel, .sentinel], laidTests := true, laidLooks := .later }
def FnExactFsReadCardSaid : Prop := Claim7.holds Tryd.pinned (.plain (OpenSpec.ofChange fnExactFsReadSpec)) fnExactFsReadCard

/-- THE SECOND FORM's CARD OF 'laws.FnExactFsRead'. -/
def fnExactFsReadUptoCard : Claim7 := { stood := { row := fnExactFsReadUptoRow, standIns := [], harness := (true, "7ee41d1b39036c6d3333a3b20998ec43f2850097a4669b03a4d197092e3ace9f"), looks := true }, kinds := [], alts := [], laidByText := true, laidKinds := [.sentinel, .sentinel, .sentinel, .sentinel, .sentinel], laidTests := true, laidLooks := .later }
def FnExactFsReadUptoCardSaid : Prop := Claim7.holds Tryd.pinned (.plain (OpenSpec.upto fnExactFsReadSpec)) fnExactFsReadUptoCard
end Rows
end Go.Proofs.YtmemlfpmmkdhmaaDoor

/-
  DERIVED. GIVEN WITH THE SEED: THE CARDS: each row of YtnoanlhbfgnipaaDoorRows.lean that lists a variable, with what it lists TIED to the program's text (the seventh form; the later family's looks); each row that meets fmt, with fmt's text TOLD by the authors' own Lean function (tested against real Go, not proved from fmt's source: count such statements apart). THE CARD IS WHAT COUNTS. Prove the row's statement (the work); the ties are given (YtnoanlhbfgnipaaDoorTie.lean); close each card by the builder's one call (the guide's Derived/Test/ToyasCard.lean, 'card_holds'). Laid BY PROGRAM, IN A SANDBOX (cutbox-door.mjs). By AI agents, Wed Nov 11 2026. No macro, syntax, notation, axiom, sorry.
-/
import Derived.Test.YtnoanlhbfgnipaaDoorRows
import GoSem.ClaimSeven
namespace Go.Proofs.YtnoanlhbfgnipaaDoor
namespace Rows

/-- THE TIED CARD OF 'laws.FnFs'. -/
def fnFsCard : Claim7 := { stood := { row := fnFsRow, standIns := [], harness := (true, "a944b3900781d3e0732d07a6e5ea55ebb59351ad89e0ae4c192fdbad2438e8cf"), looks := true }, kinds := [], alts := [], laidByText := true, laidKinds := [.sentinel, .sentinel, .sentinel, .sentinel, .sentinel], laidTests := true, laidLooks := .later }
def FnFsCardSaid : Prop := Claim7.holds Tryd.pinned (.plain (OpenSpec.ofChange fnFsSpec)) fnFsCard

/-- THE TIED CARD OF 'laws.FnFsCrash'. -/
def fnFsCrashCard : Claim7 := { stood := { row := fnFsCrashRow, standIns := [], harness := (true, "a944b3900781d3e0732d07a6e5ea55ebb59351ad89e0ae4c192fdbad2438e8cf"), looks := true }, kinds := [], alts := [], laidByText := true, laidKinds := [.sentinel, .sentinel, .sentinel, .sentinel, .sentinel], laidTests := true, laidLooks := .later }
def FnFsCrashCardSaid : Prop := Claim7.holds Tryd.pinned (.plain (OpenSpec.ofChange fnFsCrashSpec)) fnFsCrashCard

/-- THE TIED CARD OF 'laws.FnRec'. -/
def fnRecCard : Claim7 := { stood := { row := fnRecRow, standIns := [], harness := (true, "a944b3900781d3e0732d07a6e5ea55ebb59351ad89e0ae4c192fdbad2438e8cf"), looks := true }, kinds := [], alts := [], laidByText := true, laidKinds := [.handle], laidTests := true, laidLooks := .later }
def FnRecCardSaid : Prop := Claim7.holds Tryd.pinned (.plain (OpenSpec.ofChange fnRecSpec)) fnRecCard

/-- THE TIED CARD OF 'laws.FnExactFsAppend'. -/
def fnExactFsAppendCard : Claim7 := { stood := { row := fnExactFsAppendRow, standIns := [], harness := (true, "a944b3900781d3e0732d07a6e5ea55ebb59351ad89e0ae4c192fdbad2438e8cf"), looks := true }, kinds := [], alts := [], laidByText := true, laidKinds := [.sentinel, .sentinel, .sentinel, .sentinel, .sentinel], laidTests := true, laidLooks := .later }
def FnExactFsAppendCardSaid : Prop := Claim7.holds Tryd.pinned (.plain (OpenSpec.ofChange fnExactFsAppendSpec)) fnExactFsAppendCard

/-- THE TIED CARD OF 'laws.FnExactFsCut'. -/
def fnExactFsCutCard : Claim7 := { stood := { row := fnExactFsCutRow, standIns := [], harness := (true, "a944b3900781d3e0732d07a6e5ea55ebb59351ad89e0ae4c192fdbad2438e8cf"), looks := true }, kinds := [], alts := [], laidByText := true, laidKinds := [.sentinel, .sentinel, .sentinel, .sentinel, .sentinel], laidTests := true, laidLooks := .later }
def FnExactFsCutCardSaid : Prop := Claim7.holds Tryd.pinned (.plain (OpenSpec.ofChange fnExactFsCutSpec)) fnExactFsCutCard

/-- THE TIED CARD OF 'laws.FnExactFsSync'. -/
def fnExactFsSyncCard : Claim7 := { stood := { row := fnExactFsSyncRow, standIns := [], harness := (true, "a944b3900781d3e0732d07a6e5ea55ebb59351ad89e0ae4c192fdbad2438e8cf"), looks := true }, kinds := [], alts := [], laidByText := true, laidKinds := [.sentinel, .sentinel, .sentinel, .sentinel, .sentinel], laidTests := true, laidLooks := .later }
def FnExactFsSyncCardSaid : Prop := Claim7.holds Tryd.pinned (.plain (OpenSpec.ofChange fnExactFsSyncSpec)) fnExactFsSyncCard

/-- THE TIED CARD OF 'laws.FnExactFsRename'. -/
def fnExactFsRenameCard : Claim7 := { stood := { row := fnExactFsRenameRow, standIns := [], harness := (true, "a944b3900781d3e0732d07a6e5ea55ebb59351ad89e0ae4c192fdbad2438e8cf"), looks := true }, kinds := [], alts := [], laidByText := true, laidKinds := [.sentinel, .sentinel, .sentinel, .sentinel, .sentinel], laidTests := true, laidLooks := .later }
def FnExactFsRenameCardSaid : Prop := Claim7.holds Tryd.pinned (.plain (OpenSpec.ofChange fnExactFsRenameSpec)) fnExactFsRenameCard

/-- THE TIED CARD OF 'laws.FnExactFsRemove'. -/
def fnExactFsRemoveCard : Claim7 := { stood := { row := fnExactFsRemoveRow, standIns := [], harness := (true, "a944b3900781d3e0732d07a6e5ea55ebb59351ad89e0ae4c192fdbad2438e8cf"), looks := true }, kinds := [], alts := [], laidByText := true, laidKinds := [.sentinel, .sentinel, .sentinel, .sentinel, .sentinel], laidTests := true, laidLooks := .later }
def FnExactFsRemoveCardSaid : Prop := Claim7.holds Tryd.pinned (.plain (OpenSpec.ofChange fnExactFsRemoveSpec)) fnExactFsRemoveCard

/-- THE SECOND FORM's CARD OF 'laws.FnFs'. -/
def fnFsUptoCard : Claim7 := { stood := { row := fnFsUptoRow, standIns := [], harness := (true, "a944b3900781d3e0732d07a6e5ea55ebb59351ad89e0ae4c192fdbad2438e8cf"), looks := true }, kinds := [], alts := [], laidByText := true, laidKinds := [.sentinel, .sentinel, .sentinel, .sentinel, .sentinel], laidTests := true, laidLooks := .later }
def FnFsUptoCardSaid : Prop := Claim7.holds Tryd.pinned (.plain (OpenSpec.upto fnFsSpec)) fnFsUptoCard

/-- THE SECOND FORM's CARD OF 'laws.FnFsCrash'. -/
def fnFsCrashUptoCard : Claim7 := { stood := { row := fnFsCrashUptoRow, standIns := [], harness := (true, "a944b3900781d3e0732d07a6e5ea55ebb59351ad89e0ae4c192fdbad2438e8cf"), looks := true }, kinds := [], alts := [], laidByText := true, laidKinds := [.sentinel, .sentinel, .sentinel, .sentinel, .sentinel], laidTests := true, laidLooks := .later }
def FnFsCrashUptoCardSaid : Prop := Claim7.holds Tryd.pinned (.plain (OpenSpec.upto fnFsCrashSpec)) fnFsCrashUptoCard

/-- THE SECOND FORM's CARD OF 'laws.FnRec'. -/
def fnRecUptoCard : Claim7 := { stood := { row := fnRecUptoRow, standIns := [], harness := (true, "a944b3900781d3e0732d07a6e5ea55ebb59351ad89e0ae4c192fdbad2438e8cf"), looks := true }, kinds := [], alts := [], laidByText := true, laidKinds := [.handle], laidTests := true, laidLooks := .later }
def FnRecUptoCardSaid : Prop := Claim7.holds Tryd.pinned (.plain (OpenSpec.upto fnRecSpec)) fnRecUptoCard

/-- THE SECOND FORM's CARD OF 'laws.FnExactFsAppend'. -/
def fnExactFsAppendUptoCard : Claim7 := { stood := { row := fnExactFsAppendUptoRow, standIns := [], harness := (true, "a944b3900781d3e0732d07a6e5ea55ebb59351ad89e0ae4c192fdbad2438e8cf"), looks := true }, kinds := [], alts := [], laidByText := true, laidKinds := [.sentinel, .sentinel, .sentinel, .sentinel, .sentinel], laidTests := true, laidLooks := .later }
def FnExactFsAppendUptoCardSaid : Prop := Claim7.holds Tryd.pinned (.plain (OpenSpec.upto fnExactFsAppendSpec)) fnExactFsAppendUptoCard

/-- THE SECOND FORM's CARD OF 'laws.FnExactFsCut'. -/
def fnExactFsCutUptoCard : Claim7 := { stood := { row := fnExactFsCutUptoRow, standIns := [], harness := (true, "a944b3900781d3e0732d07a6e5ea55ebb59351ad89e0ae4c192fdbad2438e8cf"), looks := true }, kinds := [], alts := [], laidByText := true, laidKinds := [.sentinel, .sentinel, .sentinel, .sentinel, .sentinel], laidTests := true, laidLooks := .later }
def FnExactFsCutUptoCardSaid : Prop := Claim7.holds Tryd.pinned (.plain (OpenSpec.upto fnExactFsCutSpec)) fnExactFsCutUptoCard

/-- THE SECOND FORM's CARD OF 'laws.FnExactFsSync'. -/
def fnExactFsSyncUptoCard : Claim7 := { stood := { row := fnExactFsSyncUptoRow, standIns := [], harness := (true, "a944b3900781d3e0732d07a6e5ea55ebb59351ad89e0ae4c192fdbad2438e8cf"), looks := true }, kinds := [], alts := [], laidByText := true, laidKinds := [.sentinel, .sentinel, .sentinel, .sentinel, .sentinel], laidTests := true, laidLooks := .later }
def FnExactFsSyncUptoCardSaid : Prop := Claim7.holds Tryd.pinned (.plain (OpenSpec.upto fnExactFsSyncSpec)) fnExactFsSyncUptoCard

/-- THE SECOND FORM's CARD OF 'laws.FnExactFsRename'. -/
def fnExactFsRenameUptoCard : Claim7 := { stood := { row := fnExactFsRenameUptoRow, standIns := [], harness := (true, "a944b3900781d3e0732d07a6e5ea55ebb59351ad89e0ae4c192fdbad2438e8cf"), looks := true }, kinds := [], alts := [], laidByText := true, laidKinds := [.sentinel, .sentinel, .sentinel, .sentinel, .sentinel], laidTests := true, laidLooks := .later }
def FnExactFsRenameUptoCardSaid : Prop := Claim7.holds Tryd.pinned (.plain (OpenSpec.upto fnExactFsRenameSpec)) fnExactFsRenameUptoCard

/-- THE SECOND FORM's CARD OF 'laws.FnExactFsRemove'. -/
def fnExactFsRemoveUptoCard : Claim7 := { stood := { row := fnExactFsRemoveUptoRow, standIns := [], harness := (true, "a944b3900781d3e0732d07a6e5ea55ebb59351ad89e0ae4c192fdbad2438e8cf"), looks := true }, kinds := [], alts := [], laidByText := true, laidKinds := [.sentinel, .sentinel, .sentinel, .sentinel, .sentinel], laidTests := true, laidLooks := .later }
def FnExactFsRemoveUptoCardSaid : Prop := Claim7.holds Tryd.pinned (.plain (OpenSpec.upto fnExactFsRemoveSpec)) fnExactFsRemoveUptoCard
end Rows
end Go.Proofs.YtnoanlhbfgnipaaDoor

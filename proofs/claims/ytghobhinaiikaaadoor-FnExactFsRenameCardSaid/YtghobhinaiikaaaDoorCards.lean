/-
  DERIVED. GIVEN WITH THE SEED: THE CARDS: each row of YtghobhinaiikaaaDoorRows.lean that lists a variable, with what it lists TIED to the program's text (the seventh form; the later family's looks); each row that meets fmt, with fmt's text TOLD by the authors' own Lean function (tested against real Go, not proved from fmt's source: count such statements apart). THE CARD IS WHAT COUNTS. Prove the row's statement (the work); the ties are given (YtghobhinaiikaaaDoorTie.lean); close each card by the builder's one call (the guide's Derived/Test/ToyasCard.lean, 'card_holds'). Laid BY PROGRAM, IN A SANDBOX (cutbox-door.mjs). By AI agents, Wed Nov 11 2026. No macro, syntax, notation, axiom, sorry.
-/
import Derived.Test.YtghobhinaiikaaaDoorRows
import GoSem.ClaimSeven
namespace Go.Proofs.YtghobhinaiikaaaDoor
namespace Rows

/-- THE TIED CARD OF 'laws.FnExactFsRename'. -/
def fnExactFsRenameCard : Claim7 := { stood := { row := fnExactFsRenameRow, standIns := [], harness := (true, "1074ab74f720e6ca8f63faecd5f4377d7793d104219f00cf6d53a0df1e9e34cc"), looks := true }, kinds := [], alts := [], laidByText := true, laidKinds := [.sentinel, .sentinel, .sentinel, .sentinel, .sentinel], laidTests := true, laidLooks := .later }
def FnExactFsRenameCardSaid : Prop := Claim7.holds Tryd.pinned (.plain (OpenSpec.ofChange fnExactFsRenameSpec)) fnExactFsRenameCard

/-- THE TIED CARD OF 'laws.FnExactFsRemove'. -/
def fnExactFsRemoveCard : Claim7 := { stood := { row := fnExactFsRemoveRow, standIns := [], harness := (true, "1074ab74f720e6ca8f63faecd5f4377d7793d104219f00cf6d53a0df1e9e34cc"), looks := true }, kinds := [], alts := [], laidByText := true, laidKinds := [.sentinel, .sentinel, .sentinel, .sentinel, .sentinel], laidTests := true, laidLooks := .later }
def FnExactFsRemoveCardSaid : Prop := Claim7.holds Tryd.pinned (.plain (OpenSpec.ofChange fnExactFsRemoveSpec)) fnExactFsRemoveCard

/-- THE TIED CARD OF 'laws.FnExactFsCut'. -/
def fnExactFsCutCard : Claim7 := { stood := { row := fnExactFsCutRow, standIns := [], harness := (true, "1074ab74f720e6ca8f63faecd5f4377d7793d104219f00cf6d53a0df1e9e34cc"), looks := true }, kinds := [], alts := [], laidByText := true, laidKinds := [.sentinel, .sentinel, .sentinel, .sentinel, .sentinel], laidTests := true, laidLooks := .later }
def FnExactFsCutCardSaid : Prop := Claim7.holds Tryd.pinned (.plain (OpenSpec.ofChange fnExactFsCutSpec)) fnExactFsCutCard

/-- THE TIED CARD OF 'laws.FnExactFsSync'. -/
def fnExactFsSyncCard : Claim7 := { stood := { row := fnExactFsSyncRow, standIns := [], harness := (true, "1074ab74f720e6ca8f63faecd5f4377d7793d104219f00cf6d53a0df1e9e34cc"), looks := true }, kinds := [], alts := [], laidByText := true, laidKinds := [.sentinel, .sentinel, .sentinel, .sentinel, .sentinel], laidTests := true, laidLooks := .later }
def FnExactFsSyncCardSaid : Prop := Claim7.holds Tryd.pinned (.plain (OpenSpec.ofChange fnExactFsSyncSpec)) fnExactFsSyncCard

/-- THE SECOND FORM's CARD OF 'laws.FnExactFsRename'. -/
def fnExactFsRenameUptoCard : Claim7 := { stood := { row := fnExactFsRenameUptoRow, standIns := [], harness := (true, "1074ab74f720e6ca8f63faecd5f4377d7793d104219f00cf6d53a0df1e9e34cc"), looks := true }, kinds := [], alts := [], laidByText := true, laidKinds := [.sentinel, .sentinel, .sentinel, .sentinel, .sentinel], laidTests := true, laidLooks := .later }
def FnExactFsRenameUptoCardSaid : Prop := Claim7.holds Tryd.pinned (.plain (OpenSpec.upto fnExactFsRenameSpec)) fnExactFsRenameUptoCard

/-- THE SECOND FORM's CARD OF 'laws.FnExactFsRemove'. -/
def fnExactFsRemoveUptoCard : Claim7 := { stood := { row := fnExactFsRemoveUptoRow, standIns := [], harness := (true, "1074ab74f720e6ca8f63faecd5f4377d7793d104219f00cf6d53a0df1e9e34cc"), looks := true }, kinds := [], alts := [], laidByText := true, laidKinds := [.sentinel, .sentinel, .sentinel, .sentinel, .sentinel], laidTests := true, laidLooks := .later }
def FnExactFsRemoveUptoCardSaid : Prop := Claim7.holds Tryd.pinned (.plain (OpenSpec.upto fnExactFsRemoveSpec)) fnExactFsRemoveUptoCard

/-- THE SECOND FORM's CARD OF 'laws.FnExactFsCut'. -/
def fnExactFsCutUptoCard : Claim7 := { stood := { row := fnExactFsCutUptoRow, standIns := [], harness := (true, "1074ab74f720e6ca8f63faecd5f4377d7793d104219f00cf6d53a0df1e9e34cc"), looks := true }, kinds := [], alts := [], laidByText := true, laidKinds := [.sentinel, .sentinel, .sentinel, .sentinel, .sentinel], laidTests := true, laidLooks := .later }
def FnExactFsCutUptoCardSaid : Prop := Claim7.holds Tryd.pinned (.plain (OpenSpec.upto fnExactFsCutSpec)) fnExactFsCutUptoCard

/-- THE SECOND FORM's CARD OF 'laws.FnExactFsSync'. -/
def fnExactFsSyncUptoCard : Claim7 := { stood := { row := fnExactFsSyncUptoRow, standIns := [], harness := (true, "1074ab74f720e6ca8f63faecd5f4377d7793d104219f00cf6d53a0df1e9e34cc"), looks := true }, kinds := [], alts := [], laidByText := true, laidKinds := [.sentinel, .sentinel, .sentinel, .sentinel, .sentinel], laidTests := true, laidLooks := .later }
def FnExactFsSyncUptoCardSaid : Prop := Claim7.holds Tryd.pinned (.plain (OpenSpec.upto fnExactFsSyncSpec)) fnExactFsSyncUptoCard
end Rows
end Go.Proofs.YtghobhinaiikaaaDoor

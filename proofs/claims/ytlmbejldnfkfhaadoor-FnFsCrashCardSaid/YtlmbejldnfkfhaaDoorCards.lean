/-
  DERIVED. GIVEN WITH THE SEED: THE CARDS: each row of YtlmbejldnfkfhaaDoorRows.lean that lists a variable, with what it lists TIED to the program's text (the seventh form; the later family's looks); each row that meets fmt, with fmt's text TOLD by the authors' own Lean function (tested against real Go, not proved from fmt's source: count such statements apart). THE CARD IS WHAT COUNTS. Prove the row's statement (the work); the ties are given (YtlmbejldnfkfhaaDoorTie.lean); close each card by the builder's one call (the guide's Derived/Test/ToyasCard.lean, 'card_holds'). Laid BY PROGRAM, IN A SANDBOX (cutbox-door.mjs). By AI agents, Wed Nov 11 2026. No macro, syntax, notation, axiom, sorry.
-/
import Derived.Test.YtlmbejldnfkfhaaDoorRows
import GoSem.ClaimSeven
namespace Go.Proofs.YtlmbejldnfkfhaaDoor
namespace Rows

/-- THE TIED CARD OF 'laws.FnFsCrash'. -/
def fnFsCrashCard : Claim7 := { stood := { row := fnFsCrashRow, standIns := [], harness := (true, "8ff0017d79d1d26287780b2fa41accb72124b14f6405c83b5f4120fa9a09ba10"), looks := true }, kinds := [], alts := [], laidByText := true, laidKinds := [.sentinel, .sentinel, .sentinel, .sentinel, .sentinel], laidTests := true, laidLooks := .later }
def FnFsCrashCardSaid : Prop := Claim7.holds Tryd.pinned (.plain (OpenSpec.ofChange fnFsCrashSpec)) fnFsCrashCard

/-- THE TIED CARD OF 'laws.FnRec'. -/
def fnRecCard : Claim7 := { stood := { row := fnRecRow, standIns := [], harness := (true, "8ff0017d79d1d26287780b2fa41accb72124b14f6405c83b5f4120fa9a09ba10"), looks := true }, kinds := [], alts := [], laidByText := true, laidKinds := [.handle], laidTests := true, laidLooks := .later }
def FnRecCardSaid : Prop := Claim7.holds Tryd.pinned (.plain (OpenSpec.ofChange fnRecSpec)) fnRecCard

/-- THE TIED CARD OF 'laws.FnExactFsAppend'. -/
def fnExactFsAppendCard : Claim7 := { stood := { row := fnExactFsAppendRow, standIns := [], harness := (true, "8ff0017d79d1d26287780b2fa41accb72124b14f6405c83b5f4120fa9a09ba10"), looks := true }, kinds := [], alts := [], laidByText := true, laidKinds := [.sentinel, .sentinel, .sentinel, .sentinel, .sentinel], laidTests := true, laidLooks := .later }
def FnExactFsAppendCardSaid : Prop := Claim7.holds Tryd.pinned (.plain (OpenSpec.ofChange fnExactFsAppendSpec)) fnExactFsAppendCard

/-- THE TIED CARD OF 'laws.FnExactFsCut'. -/
def fnExactFsCutCard : Claim7 := { stood := { row := fnExactFsCutRow, standIns := [], harness := (true, "8ff0017d79d1d26287780b2fa41accb72124b14f6405c83b5f4120fa9a09ba10"), looks := true }, kinds := [], alts := [], laidByText := true, laidKinds := [.sentinel, .sentinel, .sentinel, .sentinel, .sentinel], laidTests := true, laidLooks := .later }
def FnExactFsCutCardSaid : Prop := Claim7.holds Tryd.pinned (.plain (OpenSpec.ofChange fnExactFsCutSpec)) fnExactFsCutCard

/-- THE TIED CARD OF 'laws.FnExactFsSync'. -/
def fnExactFsSyncCard : Claim7 := { stood := { row := fnExactFsSyncRow, standIns := [], harness := (true, "8ff0017d79d1d26287780b2fa41accb72124b14f6405c83b5f4120fa9a09ba10"), looks := true }, kinds := [], alts := [], laidByText := true, laidKinds := [.sentinel, .sentinel, .sentinel, .sentinel, .sentinel], laidTests := true, laidLooks := .later }
def FnExactFsSyncCardSaid : Prop := Claim7.holds Tryd.pinned (.plain (OpenSpec.ofChange fnExactFsSyncSpec)) fnExactFsSyncCard

/-- THE TIED CARD OF 'laws.FnExactFsRename'. -/
def fnExactFsRenameCard : Claim7 := { stood := { row := fnExactFsRenameRow, standIns := [], harness := (true, "8ff0017d79d1d26287780b2fa41accb72124b14f6405c83b5f4120fa9a09ba10"), looks := true }, kinds := [], alts := [], laidByText := true, laidKinds := [.sentinel, .sentinel, .sentinel, .sentinel, .sentinel], laidTests := true, laidLooks := .later }
def FnExactFsRenameCardSaid : Prop := Claim7.holds Tryd.pinned (.plain (OpenSpec.ofChange fnExactFsRenameSpec)) fnExactFsRenameCard

/-- THE TIED CARD OF 'laws.FnExactFsRemove'. -/
def fnExactFsRemoveCard : Claim7 := { stood := { row := fnExactFsRemoveRow, standIns := [], harness := (true, "8ff0017d79d1d26287780b2fa41accb72124b14f6405c83b5f4120fa9a09ba10"), looks := true }, kinds := [], alts := [], laidByText := true, laidKinds := [.sentinel, .sentinel, .sentinel, .sentinel, .sentinel], laidTests := true, laidLooks := .later }
def FnExactFsRemoveCardSaid : Prop := Claim7.holds Tryd.pinned (.plain (OpenSpec.ofChange fnExactFsRemoveSpec)) fnExactFsRemoveCard

/-- THE SECOND FORM's CARD OF 'laws.FnFsCrash'. -/
def fnFsCrashUptoCard : Claim7 := { stood := { row := fnFsCrashUptoRow, standIns := [], harness := (true, "8ff0017d79d1d26287780b2fa41accb72124b14f6405c83b5f4120fa9a09ba10"), looks := true }, kinds := [], alts := [], laidByText := true, laidKinds := [.sentinel, .sentinel, .sentinel, .sentinel, .sentinel], laidTests := true, laidLooks := .later }
def FnFsCrashUptoCardSaid : Prop := Claim7.holds Tryd.pinned (.plain (OpenSpec.upto fnFsCrashSpec)) fnFsCrashUptoCard

/-- THE SECOND FORM's CARD OF 'laws.FnRec'. -/
def fnRecUptoCard : Claim7 := { stood := { row := fnRecUptoRow, standIns := [], harness := (true, "8ff0017d79d1d26287780b2fa41accb72124b14f6405c83b5f4120fa9a09ba10"), looks := true }, kinds := [], alts := [], laidByText := true, laidKinds := [.handle], laidTests := true, laidLooks := .later }
def FnRecUptoCardSaid : Prop := Claim7.holds Tryd.pinned (.plain (OpenSpec.upto fnRecSpec)) fnRecUptoCard

/-- THE SECOND FORM's CARD OF 'laws.FnExactFsAppend'. -/
def fnExactFsAppendUptoCard : Claim7 := { stood := { row := fnExactFsAppendUptoRow, standIns := [], harness := (true, "8ff0017d79d1d26287780b2fa41accb72124b14f6405c83b5f4120fa9a09ba10"), looks := true }, kinds := [], alts := [], laidByText := true, laidKinds := [.sentinel, .sentinel, .sentinel, .sentinel, .sentinel], laidTests := true, laidLooks := .later }
def FnExactFsAppendUptoCardSaid : Prop := Claim7.holds Tryd.pinned (.plain (OpenSpec.upto fnExactFsAppendSpec)) fnExactFsAppendUptoCard

/-- THE SECOND FORM's CARD OF 'laws.FnExactFsCut'. -/
def fnExactFsCutUptoCard : Claim7 := { stood := { row := fnExactFsCutUptoRow, standIns := [], harness := (true, "8ff0017d79d1d26287780b2fa41accb72124b14f6405c83b5f4120fa9a09ba10"), looks := true }, kinds := [], alts := [], laidByText := true, laidKinds := [.sentinel, .sentinel, .sentinel, .sentinel, .sentinel], laidTests := true, laidLooks := .later }
def FnExactFsCutUptoCardSaid : Prop := Claim7.holds Tryd.pinned (.plain (OpenSpec.upto fnExactFsCutSpec)) fnExactFsCutUptoCard

/-- THE SECOND FORM's CARD OF 'laws.FnExactFsSync'. -/
def fnExactFsSyncUptoCard : Claim7 := { stood := { row := fnExactFsSyncUptoRow, standIns := [], harness := (true, "8ff0017d79d1d26287780b2fa41accb72124b14f6405c83b5f4120fa9a09ba10"), looks := true }, kinds := [], alts := [], laidByText := true, laidKinds := [.sentinel, .sentinel, .sentinel, .sentinel, .sentinel], laidTests := true, laidLooks := .later }
def FnExactFsSyncUptoCardSaid : Prop := Claim7.holds Tryd.pinned (.plain (OpenSpec.upto fnExactFsSyncSpec)) fnExactFsSyncUptoCard

/-- THE SECOND FORM's CARD OF 'laws.FnExactFsRename'. -/
def fnExactFsRenameUptoCard : Claim7 := { stood := { row := fnExactFsRenameUptoRow, standIns := [], harness := (true, "8ff0017d79d1d26287780b2fa41accb72124b14f6405c83b5f4120fa9a09ba10"), looks := true }, kinds := [], alts := [], laidByText := true, laidKinds := [.sentinel, .sentinel, .sentinel, .sentinel, .sentinel], laidTests := true, laidLooks := .later }
def FnExactFsRenameUptoCardSaid : Prop := Claim7.holds Tryd.pinned (.plain (OpenSpec.upto fnExactFsRenameSpec)) fnExactFsRenameUptoCard

/-- THE SECOND FORM's CARD OF 'laws.FnExactFsRemove'. -/
def fnExactFsRemoveUptoCard : Claim7 := { stood := { row := fnExactFsRemoveUptoRow, standIns := [], harness := (true, "8ff0017d79d1d26287780b2fa41accb72124b14f6405c83b5f4120fa9a09ba10"), looks := true }, kinds := [], alts := [], laidByText := true, laidKinds := [.sentinel, .sentinel, .sentinel, .sentinel, .sentinel], laidTests := true, laidLooks := .later }
def FnExactFsRemoveUptoCardSaid : Prop := Claim7.holds Tryd.pinned (.plain (OpenSpec.upto fnExactFsRemoveSpec)) fnExactFsRemoveUptoCard
end Rows
end Go.Proofs.YtlmbejldnfkfhaaDoor

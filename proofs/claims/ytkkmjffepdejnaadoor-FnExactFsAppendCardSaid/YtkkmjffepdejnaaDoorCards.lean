/-
  DERIVED. GIVEN WITH THE SEED: THE CARDS: each row of YtkkmjffepdejnaaDoorRows.lean that lists a variable, with what it lists TIED to the program's text (the seventh form; the later family's looks); each row that meets fmt, with fmt's text TOLD by the authors' own Lean function (tested against real Go, not proved from fmt's source: count such statements apart). THE CARD IS WHAT COUNTS. Prove the row's statement (the work); the ties are given (YtkkmjffepdejnaaDoorTie.lean); close each card by the builder's one call (the guide's Derived/Test/ToyasCard.lean, 'card_holds'). Laid BY PROGRAM, IN A SANDBOX (cutbox-door.mjs). By AI agents, Wed Nov 11 2026. No macro, syntax, notation, axiom, sorry.
-/
import Derived.Test.YtkkmjffepdejnaaDoorRows
import GoSem.ClaimSeven
namespace Go.Proofs.YtkkmjffepdejnaaDoor
namespace Rows

/-- THE TIED CARD OF 'laws.FnFs'. -/
def fnFsCard : Claim7 := { stood := { row := fnFsRow, standIns := [], harness := (true, "585c7624ec16627d91ffa422d029d8498587ca04f6fd0fc2c2153e286f50a1b4"), looks := true }, kinds := [], alts := [], laidByText := true, laidKinds := [.sentinel, .sentinel, .sentinel, .sentinel, .sentinel], laidTests := true, laidLooks := .later }
def FnFsCardSaid : Prop := Claim7.holds Tryd.pinned (.plain (OpenSpec.ofChange fnFsSpec)) fnFsCard

/-- THE TIED CARD OF 'laws.FnFsCrash'. -/
def fnFsCrashCard : Claim7 := { stood := { row := fnFsCrashRow, standIns := [], harness := (true, "585c7624ec16627d91ffa422d029d8498587ca04f6fd0fc2c2153e286f50a1b4"), looks := true }, kinds := [], alts := [], laidByText := true, laidKinds := [.sentinel, .sentinel, .sentinel, .sentinel, .sentinel], laidTests := true, laidLooks := .later }
def FnFsCrashCardSaid : Prop := Claim7.holds Tryd.pinned (.plain (OpenSpec.ofChange fnFsCrashSpec)) fnFsCrashCard

/-- THE TIED CARD OF 'laws.FnRec'. -/
def fnRecCard : Claim7 := { stood := { row := fnRecRow, standIns := [], harness := (true, "585c7624ec16627d91ffa422d029d8498587ca04f6fd0fc2c2153e286f50a1b4"), looks := true }, kinds := [], alts := [], laidByText := true, laidKinds := [.handle], laidTests := true, laidLooks := .later }
def FnRecCardSaid : Prop := Claim7.holds Tryd.pinned (.plain (OpenSpec.ofChange fnRecSpec)) fnRecCard

/-- THE TIED CARD OF 'laws.FnExactFsAppend'. -/
def fnExactFsAppendCard : Claim7 := { stood := { row := fnExactFsAppendRow, standIns := [], harness := (true, "585c7624ec16627d91ffa422d029d8498587ca04f6fd0fc2c2153e286f50a1b4"), looks := true }, kinds := [], alts := [], laidByText := true, laidKinds := [.sentinel, .sentinel, .sentinel, .sentinel, .sentinel], laidTests := true, laidLooks := .later }
def FnExactFsAppendCardSaid : Prop := Claim7.holds Tryd.pinned (.plain (OpenSpec.ofChange fnExactFsAppendSpec)) fnExactFsAppendCard

/-- THE SECOND FORM's CARD OF 'laws.FnFs'. -/
def fnFsUptoCard : Claim7 := { stood := { row := fnFsUptoRow, standIns := [], harness := (true, "585c7624ec16627d91ffa422d029d8498587ca04f6fd0fc2c2153e286f50a1b4"), looks := true }, kinds := [], alts := [], laidByText := true, laidKinds := [.sentinel, .sentinel, .sentinel, .sentinel, .sentinel], laidTests := true, laidLooks := .later }
def FnFsUptoCardSaid : Prop := Claim7.holds Tryd.pinned (.plain (OpenSpec.upto fnFsSpec)) fnFsUptoCard

/-- THE SECOND FORM's CARD OF 'laws.FnFsCrash'. -/
def fnFsCrashUptoCard : Claim7 := { stood := { row := fnFsCrashUptoRow, standIns := [], harness := (true, "585c7624ec16627d91ffa422d029d8498587ca04f6fd0fc2c2153e286f50a1b4"), looks := true }, kinds := [], alts := [], laidByText := true, laidKinds := [.sentinel, .sentinel, .sentinel, .sentinel, .sentinel], laidTests := true, laidLooks := .later }
def FnFsCrashUptoCardSaid : Prop := Claim7.holds Tryd.pinned (.plain (OpenSpec.upto fnFsCrashSpec)) fnFsCrashUptoCard

/-- THE SECOND FORM's CARD OF 'laws.FnRec'. -/
def fnRecUptoCard : Claim7 := { stood := { row := fnRecUptoRow, standIns := [], harness := (true, "585c7624ec16627d91ffa422d029d8498587ca04f6fd0fc2c2153e286f50a1b4"), looks := true }, kinds := [], alts := [], laidByText := true, laidKinds := [.handle], laidTests := true, laidLooks := .later }
def FnRecUptoCardSaid : Prop := Claim7.holds Tryd.pinned (.plain (OpenSpec.upto fnRecSpec)) fnRecUptoCard

/-- THE SECOND FORM's CARD OF 'laws.FnExactFsAppend'. -/
def fnExactFsAppendUptoCard : Claim7 := { stood := { row := fnExactFsAppendUptoRow, standIns := [], harness := (true, "585c7624ec16627d91ffa422d029d8498587ca04f6fd0fc2c2153e286f50a1b4"), looks := true }, kinds := [], alts := [], laidByText := true, laidKinds := [.sentinel, .sentinel, .sentinel, .sentinel, .sentinel], laidTests := true, laidLooks := .later }
def FnExactFsAppendUptoCardSaid : Prop := Claim7.holds Tryd.pinned (.plain (OpenSpec.upto fnExactFsAppendSpec)) fnExactFsAppendUptoCard
end Rows
end Go.Proofs.YtkkmjffepdejnaaDoor

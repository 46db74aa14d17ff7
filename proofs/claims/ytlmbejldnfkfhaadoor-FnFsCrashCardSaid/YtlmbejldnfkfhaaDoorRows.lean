/-
  NARROWER THAN 'FOR EVERY INPUT', by the rows' own cells (each row's printed sentence says how): FnFsCrash: ifaces, laid · FnRec: laid · FnExactFsAppend: ifaces, laid · FnExactFsCut: ifaces, laid · FnExactFsSync: ifaces, laid · FnExactFsRename: ifaces, laid · FnExactFsRemove: ifaces, laid.
  DERIVED. THE GIVEN ROWS OF THIS SEAT. 7 by the template 'for every input the law returns true; each argument reads behind the call as it read before'; 0 by the template 'total and deterministic' (their statements: YtlmbejldnfkfhaaDoorTotals.lean).
  GIVEN WITH THE SEED: the statements are not yours to turn. If you find one false, say at which input.
  Laid BY PROGRAM, IN A SANDBOX (cutbox-rows.mjs): the forced cells as the released guide's own fill.sh prints them over the translation 136b46985f9b82bc… (all of the seat's roots in one cut). By AI agents, Wed Nov 11 2026. No macro, syntax, notation, axiom, sorry.
-/
import Derived.Test.YtlmbejldnfkfhaaDoorChecked
import GoSem.Claim
import GoSem.ClaimJoined
import GoSem.ClaimMapViews
import Derived.JoinedTies
import Derived.KernelRfl
namespace Go.Proofs.YtlmbejldnfkfhaaDoor
/- THE CELL 'sum', in the pinned program and in every row, IS THE sha256 OF THE DUMP (.gsa) THAT YtlmbejldnfkfhaaDoorProg.lean LOADS. Nothing in Lean hashes anything: it is a label: what it is worth is what the hold of that sum in a sandbox is worth. -/
noncomputable def Tryd.pinned : Pinned := { name := "ytlmbejldnfkfhaadoor", sum := "136b46985f9b82bca32855116a4a84ceecac047f85dea0347fc7393a51d83f40", checked := Tryd.checked }
namespace Rows
def none {H : Type} : Left H := { results := [], args := [] }

/- WHAT THE LISTED PACKAGE-LEVEL VARIABLES READ AS WHEN THE CALL BEGINS. Each datum BY PROGRAM (the guide's laid-datum.mjs) off the statement by which the dump's own 'gosem.cut.vars' lays the variable. In a bare row this is a premise. The card (YtlmbejldnfkfhaaDoorCards.lean) ties it to the program's text. -/
def laid_loop_example_g00446_impl_errTooLong {H : Type} : DataW H := .iface "*errors.errorString" (.ptr (.agg [.lit (.string [97, 32, 116, 101, 120, 116, 32, 105, 115, 32, 116, 111, 111, 32, 108, 111, 110, 103])]))
def laid_loop_example_g00446_impl_errNotRight {H : Type} : DataW H := .iface "*errors.errorString" (.ptr (.agg [.lit (.string [116, 104, 101, 32, 102, 105, 108, 101, 115, 32, 111, 114, 32, 97, 32, 110, 97, 109, 101, 32, 97, 114, 101, 32, 110, 111, 116, 32, 114, 105, 103, 104, 116])]))
def laid_loop_example_g00446_impl_errNoFile {H : Type} : DataW H := .iface "*errors.errorString" (.ptr (.agg [.lit (.string [116, 104, 101, 114, 101, 32, 105, 115, 32, 110, 111, 32, 102, 105, 108, 101, 32, 111, 102, 32, 116, 104, 97, 116, 32, 110, 97, 109, 101])]))
def laid_loop_example_g00446_impl_errOutside {H : Type} : DataW H := .iface "*errors.errorString" (.ptr (.agg [.lit (.string [116, 104, 101, 32, 102, 105, 108, 101, 32, 100, 111, 101, 115, 32, 110, 111, 116, 32, 104, 97, 118, 101, 32, 116, 104, 97, 116, 32, 115, 105, 122, 101])]))
def laid_loop_example_g00446_impl_errNoRoom {H : Type} : DataW H := .iface "*errors.errorString" (.ptr (.agg [.lit (.string [116, 104, 101, 114, 101, 32, 105, 115, 32, 110, 111, 32, 114, 111, 111, 109, 32, 102, 111, 114, 32, 105, 116])]))
def laid_errors_errorType {H : Type} : DataW H := .iface "internal/reflectlite.rtype" (.agg [.ptr (.lit (.string [101, 114, 114, 111, 114]))])

/-- 'laws.FnFsCrash': WHATEVER THE INPUT: true; the input reads as it did. -/
def fnFsCrashSpec : ChangeSpec := { name := "fnFsCrash", vars := ["loop.example/g00446/impl.errTooLong", "loop.example/g00446/impl.errNotRight", "loop.example/g00446/impl.errNoFile", "loop.example/g00446/impl.errOutside", "loop.example/g00446/impl.errNoRoom"], fn := fun _ => fun
  | [d1, d2, g1, g2, g3, g4, g5] => { results := [.lit (.bool true)], args := [d1, d2], vars := [g1, g2, g3, g4, g5] }
  | _ => none }
def fnFsCrashRow : OpenClaim := { program := "ytlmbejldnfkfhaadoor", sum := "136b46985f9b82bca32855116a4a84ceecac047f85dea0347fc7393a51d83f40", func := "loop.example/g00446/laws.FnFsCrash", spec := "fnFsCrash", inPlace := ["internal/reflectlite.TypeOf"], unfollowed := true, recurses := true, named := ["loop.example/g00446/impl.errTooLong", "loop.example/g00446/impl.errNotRight", "loop.example/g00446/impl.errNoFile", "loop.example/g00446/impl.errOutside", "loop.example/g00446/impl.errNoRoom"], ifaces := true, apart := false, laid := [("loop.example/g00446/impl.errTooLong", laid_loop_example_g00446_impl_errTooLong), ("loop.example/g00446/impl.errNotRight", laid_loop_example_g00446_impl_errNotRight), ("loop.example/g00446/impl.errNoFile", laid_loop_example_g00446_impl_errNoFile), ("loop.example/g00446/impl.errOutside", laid_loop_example_g00446_impl_errOutside), ("loop.example/g00446/impl.errNoRoom", laid_loop_example_g00446_impl_errNoRoom)] }
def FnFsCrashSaid : Prop := fnFsCrashRow.holds Tryd.pinned (OpenSpec.ofChange fnFsCrashSpec)

/-- ITS FALSE NEIGHBOUR: 'it returns false'. Refute it at one input. -/
def fnFsCrashWrong : ChangeSpec := { name := "fnFsCrash", vars := ["loop.example/g00446/impl.errTooLong", "loop.example/g00446/impl.errNotRight", "loop.example/g00446/impl.errNoFile", "loop.example/g00446/impl.errOutside", "loop.example/g00446/impl.errNoRoom"], fn := fun _ => fun
  | [d1, d2, g1, g2, g3, g4, g5] => { results := [.lit (.bool false)], args := [d1, d2], vars := [g1, g2, g3, g4, g5] }
  | _ => none }
def FnFsCrashWrongFalsely : Prop := fnFsCrashRow.holds Tryd.pinned (OpenSpec.ofChange fnFsCrashWrong)

/-- 'laws.FnRec': WHATEVER THE INPUT: true; the input reads as it did. -/
def fnRecSpec : ChangeSpec := { name := "fnRec", fn := fun _ => fun
  | [d1, d2] => { results := [.lit (.bool true)], args := [d1, d2] }
  | _ => none }
def fnRecRow : OpenClaim := { program := "ytlmbejldnfkfhaadoor", sum := "136b46985f9b82bca32855116a4a84ceecac047f85dea0347fc7393a51d83f40", func := "loop.example/g00446/laws.FnRec", spec := "fnRec", inPlace := ["internal/reflectlite.ValueOf", "(internal/reflectlite.Value).Type", "(internal/reflectlite.Value).IsNil", "internal/reflectlite.TypeOf", "(internal/reflectlite.Value).Elem", "(internal/reflectlite.Value).Set"], unfollowed := true, recurses := true, named := ["errors.errorType"], apart := false, laid := [("errors.errorType", laid_errors_errorType)] }
def FnRecSaid : Prop := fnRecRow.holds Tryd.pinned (OpenSpec.ofChange fnRecSpec)

/-- ITS FALSE NEIGHBOUR: 'it returns false'. Refute it at one input. -/
def fnRecWrong : ChangeSpec := { name := "fnRec", fn := fun _ => fun
  | [d1, d2] => { results := [.lit (.bool false)], args := [d1, d2] }
  | _ => none }
def FnRecWrongFalsely : Prop := fnRecRow.holds Tryd.pinned (OpenSpec.ofChange fnRecWrong)

/-- 'laws.FnExactFsAppend': WHATEVER THE INPUT: true; the input reads as it did. -/
def fnExactFsAppendSpec : ChangeSpec := { name := "fnExactFsAppend", vars := ["loop.example/g00446/impl.errTooLong", "loop.example/g00446/impl.errNotRight", "loop.example/g00446/impl.errNoFile", "loop.example/g00446/impl.errOutside", "loop.example/g00446/impl.errNoRoom"], fn := fun _ => fun
  | [d1, d2, d3, g1, g2, g3, g4, g5] => { results := [.lit (.bool true)], args := [d1, d2, d3], vars := [g1, g2, g3, g4, g5] }
  | _ => none }
def fnExactFsAppendRow : OpenClaim := { program := "ytlmbejldnfkfhaadoor", sum := "136b46985f9b82bca32855116a4a84ceecac047f85dea0347fc7393a51d83f40", func := "loop.example/g00446/laws.FnExactFsAppend", spec := "fnExactFsAppend", inPlace := ["internal/reflectlite.TypeOf"], unfollowed := true, recurses := true, named := ["loop.example/g00446/impl.errTooLong", "loop.example/g00446/impl.errNotRight", "loop.example/g00446/impl.errNoFile", "loop.example/g00446/impl.errOutside", "loop.example/g00446/impl.errNoRoom"], ifaces := true, apart := false, laid := [("loop.example/g00446/impl.errTooLong", laid_loop_example_g00446_impl_errTooLong), ("loop.example/g00446/impl.errNotRight", laid_loop_example_g00446_impl_errNotRight), ("loop.example/g00446/impl.errNoFile", laid_loop_example_g00446_impl_errNoFile), ("loop.example/g00446/impl.errOutside", laid_loop_example_g00446_impl_errOutside), ("loop.example/g00446/impl.errNoRoom", laid_loop_example_g00446_impl_errNoRoom)] }
def FnExactFsAppendSaid : Prop := fnExactFsAppendRow.holds Tryd.pinned (OpenSpec.ofChange fnExactFsAppendSpec)

/-- ITS FALSE NEIGHBOUR: 'it returns false'. Refute it at one input. -/
def fnExactFsAppendWrong : ChangeSpec := { name := "fnExactFsAppend", vars := ["loop.example/g00446/impl.errTooLong", "loop.example/g00446/impl.errNotRight", "loop.example/g00446/impl.errNoFile", "loop.example/g00446/impl.errOutside", "loop.example/g00446/impl.errNoRoom"], fn := fun _ => fun
  | [d1, d2, d3, g1, g2, g3, g4, g5] => { results := [.lit (.bool false)], args := [d1, d2, d3], vars := [g1, g2, g3, g4, g5] }
  | _ => none }
def FnExactFsAppendWrongFalsely : Prop := fnExactFsAppendRow.holds Tryd.pinned (OpenSpec.ofChange fnExactFsAppendWrong)

/-- 'laws.FnExactFsCut': WHATEVER THE INPUT: true; the input reads as it did. -/
def fnExactFsCutSpec : ChangeSpec := { name := "fnExactFsCut", vars := ["loop.example/g00446/impl.errTooLong", "loop.example/g00446/impl.errNotRight", "loop.example/g00446/impl.errOutside", "loop.example/g00446/impl.errNoFile", "loop.example/g00446/impl.errNoRoom"], fn := fun _ => fun
  | [d1, d2, d3, g1, g2, g3, g4, g5] => { results := [.lit (.bool true)], args := [d1, d2, d3], vars := [g1, g2, g3, g4, g5] }
  | _ => none }
def fnExactFsCutRow : OpenClaim := { program := "ytlmbejldnfkfhaadoor", sum := "136b46985f9b82bca32855116a4a84ceecac047f85dea0347fc7393a51d83f40", func := "loop.example/g00446/laws.FnExactFsCut", spec := "fnExactFsCut", inPlace := ["internal/reflectlite.TypeOf"], unfollowed := true, recurses := true, named := ["loop.example/g00446/impl.errTooLong", "loop.example/g00446/impl.errNotRight", "loop.example/g00446/impl.errOutside", "loop.example/g00446/impl.errNoFile", "loop.example/g00446/impl.errNoRoom"], ifaces := true, apart := false, laid := [("loop.example/g00446/impl.errTooLong", laid_loop_example_g00446_impl_errTooLong), ("loop.example/g00446/impl.errNotRight", laid_loop_example_g00446_impl_errNotRight), ("loop.example/g00446/impl.errNoFile", laid_loop_example_g00446_impl_errNoFile), ("loop.example/g00446/impl.errOutside", laid_loop_example_g00446_impl_errOutside), ("loop.example/g00446/impl.errNoRoom", laid_loop_example_g00446_impl_errNoRoom)] }
def FnExactFsCutSaid : Prop := fnExactFsCutRow.holds Tryd.pinned (OpenSpec.ofChange fnExactFsCutSpec)

/-- ITS FALSE NEIGHBOUR: 'it returns false'. Refute it at one input. -/
def fnExactFsCutWrong : ChangeSpec := { name := "fnExactFsCut", vars := ["loop.example/g00446/impl.errTooLong", "loop.example/g00446/impl.errNotRight", "loop.example/g00446/impl.errOutside", "loop.example/g00446/impl.errNoFile", "loop.example/g00446/impl.errNoRoom"], fn := fun _ => fun
  | [d1, d2, d3, g1, g2, g3, g4, g5] => { results := [.lit (.bool false)], args := [d1, d2, d3], vars := [g1, g2, g3, g4, g5] }
  | _ => none }
def FnExactFsCutWrongFalsely : Prop := fnExactFsCutRow.holds Tryd.pinned (OpenSpec.ofChange fnExactFsCutWrong)

/-- 'laws.FnExactFsSync': WHATEVER THE INPUT: true; the input reads as it did. -/
def fnExactFsSyncSpec : ChangeSpec := { name := "fnExactFsSync", vars := ["loop.example/g00446/impl.errTooLong", "loop.example/g00446/impl.errNotRight", "loop.example/g00446/impl.errNoFile", "loop.example/g00446/impl.errOutside", "loop.example/g00446/impl.errNoRoom"], fn := fun _ => fun
  | [d1, d2, g1, g2, g3, g4, g5] => { results := [.lit (.bool true)], args := [d1, d2], vars := [g1, g2, g3, g4, g5] }
  | _ => none }
def fnExactFsSyncRow : OpenClaim := { program := "ytlmbejldnfkfhaadoor", sum := "136b46985f9b82bca32855116a4a84ceecac047f85dea0347fc7393a51d83f40", func := "loop.example/g00446/laws.FnExactFsSync", spec := "fnExactFsSync", inPlace := ["internal/reflectlite.TypeOf"], unfollowed := true, recurses := true, named := ["loop.example/g00446/impl.errTooLong", "loop.example/g00446/impl.errNotRight", "loop.example/g00446/impl.errNoFile", "loop.example/g00446/impl.errOutside", "loop.example/g00446/impl.errNoRoom"], ifaces := true, apart := false, laid := [("loop.example/g00446/impl.errTooLong", laid_loop_example_g00446_impl_errTooLong), ("loop.example/g00446/impl.errNotRight", laid_loop_example_g00446_impl_errNotRight), ("loop.example/g00446/impl.errNoFile", laid_loop_example_g00446_impl_errNoFile), ("loop.example/g00446/impl.errOutside", laid_loop_example_g00446_impl_errOutside), ("loop.example/g00446/impl.errNoRoom", laid_loop_example_g00446_impl_errNoRoom)] }
def FnExactFsSyncSaid : Prop := fnExactFsSyncRow.holds Tryd.pinned (OpenSpec.ofChange fnExactFsSyncSpec)

/-- ITS FALSE NEIGHBOUR: 'it returns false'. Refute it at one input. -/
def fnExactFsSyncWrong : ChangeSpec := { name := "fnExactFsSync", vars := ["loop.example/g00446/impl.errTooLong", "loop.example/g00446/impl.errNotRight", "loop.example/g00446/impl.errNoFile", "loop.example/g00446/impl.errOutside", "loop.example/g00446/impl.errNoRoom"], fn := fun _ => fun
  | [d1, d2, g1, g2, g3, g4, g5] => { results := [.lit (.bool false)], args := [d1, d2], vars := [g1, g2, g3, g4, g5] }
  | _ => none }
def FnExactFsSyncWrongFalsely : Prop := fnExactFsSyncRow.holds Tryd.pinned (OpenSpec.ofChange fnExactFsSyncWrong)

/-- 'laws.FnExactFsRename': WHATEVER THE INPUT: true; the input reads as it did. -/
def fnExactFsRenameSpec : ChangeSpec := { name := "fnExactFsRename", vars := ["loop.example/g00446/impl.errTooLong", "loop.example/g00446/impl.errNotRight", "loop.example/g00446/impl.errNoFile", "loop.example/g00446/impl.errOutside", "loop.example/g00446/impl.errNoRoom"], fn := fun _ => fun
  | [d1, d2, d3, g1, g2, g3, g4, g5] => { results := [.lit (.bool true)], args := [d1, d2, d3], vars := [g1, g2, g3, g4, g5] }
  | _ => none }
def fnExactFsRenameRow : OpenClaim := { program := "ytlmbejldnfkfhaadoor", sum := "136b46985f9b82bca32855116a4a84ceecac047f85dea0347fc7393a51d83f40", func := "loop.example/g00446/laws.FnExactFsRename", spec := "fnExactFsRename", inPlace := ["internal/reflectlite.TypeOf"], unfollowed := true, recurses := true, named := ["loop.example/g00446/impl.errTooLong", "loop.example/g00446/impl.errNotRight", "loop.example/g00446/impl.errNoFile", "loop.example/g00446/impl.errOutside", "loop.example/g00446/impl.errNoRoom"], ifaces := true, apart := false, laid := [("loop.example/g00446/impl.errTooLong", laid_loop_example_g00446_impl_errTooLong), ("loop.example/g00446/impl.errNotRight", laid_loop_example_g00446_impl_errNotRight), ("loop.example/g00446/impl.errNoFile", laid_loop_example_g00446_impl_errNoFile), ("loop.example/g00446/impl.errOutside", laid_loop_example_g00446_impl_errOutside), ("loop.example/g00446/impl.errNoRoom", laid_loop_example_g00446_impl_errNoRoom)] }
def FnExactFsRenameSaid : Prop := fnExactFsRenameRow.holds Tryd.pinned (OpenSpec.ofChange fnExactFsRenameSpec)

/-- ITS FALSE NEIGHBOUR: 'it returns false'. Refute it at one input. -/
def fnExactFsRenameWrong : ChangeSpec := { name := "fnExactFsRename", vars := ["loop.example/g00446/impl.errTooLong", "loop.example/g00446/impl.errNotRight", "loop.example/g00446/impl.errNoFile", "loop.example/g00446/impl.errOutside", "loop.example/g00446/impl.errNoRoom"], fn := fun _ => fun
  | [d1, d2, d3, g1, g2, g3, g4, g5] => { results := [.lit (.bool false)], args := [d1, d2, d3], vars := [g1, g2, g3, g4, g5] }
  | _ => none }
def FnExactFsRenameWrongFalsely : Prop := fnExactFsRenameRow.holds Tryd.pinned (OpenSpec.ofChange fnExactFsRenameWrong)

/-- 'laws.FnExactFsRemove': WHATEVER THE INPUT: true; the input reads as it did. -/
def fnExactFsRemoveSpec : ChangeSpec := { name := "fnExactFsRemove", vars := ["loop.example/g00446/impl.errTooLong", "loop.example/g00446/impl.errNotRight", "loop.example/g00446/impl.errNoFile", "loop.example/g00446/impl.errOutside", "loop.example/g00446/impl.errNoRoom"], fn := fun _ => fun
  | [d1, d2, g1, g2, g3, g4, g5] => { results := [.lit (.bool true)], args := [d1, d2], vars := [g1, g2, g3, g4, g5] }
  | _ => none }
def fnExactFsRemoveRow : OpenClaim := { program := "ytlmbejldnfkfhaadoor", sum := "136b46985f9b82bca32855116a4a84ceecac047f85dea0347fc7393a51d83f40", func := "loop.example/g00446/laws.FnExactFsRemove", spec := "fnExactFsRemove", inPlace := ["internal/reflectlite.TypeOf"], unfollowed := true, recurses := true, named := ["loop.example/g00446/impl.errTooLong", "loop.example/g00446/impl.errNotRight", "loop.example/g00446/impl.errNoFile", "loop.example/g00446/impl.errOutside", "loop.example/g00446/impl.errNoRoom"], ifaces := true, apart := false, laid := [("loop.example/g00446/impl.errTooLong", laid_loop_example_g00446_impl_errTooLong), ("loop.example/g00446/impl.errNotRight", laid_loop_example_g00446_impl_errNotRight), ("loop.example/g00446/impl.errNoFile", laid_loop_example_g00446_impl_errNoFile), ("loop.example/g00446/impl.errOutside", laid_loop_example_g00446_impl_errOutside), ("loop.example/g00446/impl.errNoRoom", laid_loop_example_g00446_impl_errNoRoom)] }
def FnExactFsRemoveSaid : Prop := fnExactFsRemoveRow.holds Tryd.pinned (OpenSpec.ofChange fnExactFsRemoveSpec)

/-- ITS FALSE NEIGHBOUR: 'it returns false'. Refute it at one input. -/
def fnExactFsRemoveWrong : ChangeSpec := { name := "fnExactFsRemove", vars := ["loop.example/g00446/impl.errTooLong", "loop.example/g00446/impl.errNotRight", "loop.example/g00446/impl.errNoFile", "loop.example/g00446/impl.errOutside", "loop.example/g00446/impl.errNoRoom"], fn := fun _ => fun
  | [d1, d2, g1, g2, g3, g4, g5] => { results := [.lit (.bool false)], args := [d1, d2], vars := [g1, g2, g3, g4, g5] }
  | _ => none }
def FnExactFsRemoveWrongFalsely : Prop := fnExactFsRemoveRow.holds Tryd.pinned (OpenSpec.ofChange fnExactFsRemoveWrong)

/- THE SECOND FORM. 'bulk': how many values and letters a reading holds, each counted each time it is reached (what is shared counts as often as it is met; a slice's spare places count too). A statement '..UptoSaid' is the law's where the arguments, and the package variables that the reading takes, are together of bulk at most 1048576: NARROWER than '..Said'. Prove '..Said' where nothing that the law and all that it calls make is longer than what came in: it says more and counts as full. Else prove '..UptoSaid'. A law counts once. -/
mutual
def uptoBulk {H : Type} : DataW H → Nat
  | .lit (.string bytes) => bytes.length + 1
  | .lit _ => 1
  | .nil => 1
  | .ptr d => uptoBulk d + 1
  | .slice elems spare => uptoBulkAll elems + uptoBulkAll spare + 1
  | .agg parts => uptoBulkAll parts + 1
  | .iface _ d => uptoBulk d + 1
  | .map entries => uptoBulkEntries entries + 1
  | .held _ => 1
def uptoBulkAll {H : Type} : List (DataW H) → Nat
  | [] => 0
  | d :: r => uptoBulk d + uptoBulkAll r
def uptoBulkEntries {H : Type} : List (Lit × DataW H) → Nat
  | [] => 0
  | x :: r => uptoBulkEntry x + uptoBulkEntries r
def uptoBulkEntry {H : Type} : Lit × DataW H → Nat
  | (.string bytes, d) => bytes.length + uptoBulk d + 1
  | (_, d) => uptoBulk d + 1
 end
def uptoSmall : (H : Type) → List (DataW H) → Bool := fun _ ds => decide (uptoBulkAll ds ≤ 1048576)
def OpenSpec.upto (s : _root_.Go.ChangeSpec) : _root_.Go.OpenSpec := { _root_.Go.OpenSpec.ofChange s with cond := some uptoSmall }

/-- 'laws.FnFsCrash', WHERE WHAT IT READS IS OF BULK AT MOST 1048576: true; the input reads as it did. -/
def fnFsCrashUptoRow : OpenClaim := { program := "ytlmbejldnfkfhaadoor", sum := "136b46985f9b82bca32855116a4a84ceecac047f85dea0347fc7393a51d83f40", func := "loop.example/g00446/laws.FnFsCrash", spec := "fnFsCrash", inPlace := ["internal/reflectlite.TypeOf"], unfollowed := true, recurses := true, named := ["loop.example/g00446/impl.errTooLong", "loop.example/g00446/impl.errNotRight", "loop.example/g00446/impl.errNoFile", "loop.example/g00446/impl.errOutside", "loop.example/g00446/impl.errNoRoom"], ifaces := true, apart := false, laid := [("loop.example/g00446/impl.errTooLong", laid_loop_example_g00446_impl_errTooLong), ("loop.example/g00446/impl.errNotRight", laid_loop_example_g00446_impl_errNotRight), ("loop.example/g00446/impl.errNoFile", laid_loop_example_g00446_impl_errNoFile), ("loop.example/g00446/impl.errOutside", laid_loop_example_g00446_impl_errOutside), ("loop.example/g00446/impl.errNoRoom", laid_loop_example_g00446_impl_errNoRoom)], narrowed := true }
def FnFsCrashUptoSaid : Prop := fnFsCrashUptoRow.holds Tryd.pinned (OpenSpec.upto fnFsCrashSpec)

/-- 'laws.FnRec', WHERE WHAT IT READS IS OF BULK AT MOST 1048576: true; the input reads as it did. -/
def fnRecUptoRow : OpenClaim := { program := "ytlmbejldnfkfhaadoor", sum := "136b46985f9b82bca32855116a4a84ceecac047f85dea0347fc7393a51d83f40", func := "loop.example/g00446/laws.FnRec", spec := "fnRec", inPlace := ["internal/reflectlite.ValueOf", "(internal/reflectlite.Value).Type", "(internal/reflectlite.Value).IsNil", "internal/reflectlite.TypeOf", "(internal/reflectlite.Value).Elem", "(internal/reflectlite.Value).Set"], unfollowed := true, recurses := true, named := ["errors.errorType"], apart := false, laid := [("errors.errorType", laid_errors_errorType)], narrowed := true }
def FnRecUptoSaid : Prop := fnRecUptoRow.holds Tryd.pinned (OpenSpec.upto fnRecSpec)

/-- 'laws.FnExactFsAppend', WHERE WHAT IT READS IS OF BULK AT MOST 1048576: true; the input reads as it did. -/
def fnExactFsAppendUptoRow : OpenClaim := { program := "ytlmbejldnfkfhaadoor", sum := "136b46985f9b82bca32855116a4a84ceecac047f85dea0347fc7393a51d83f40", func := "loop.example/g00446/laws.FnExactFsAppend", spec := "fnExactFsAppend", inPlace := ["internal/reflectlite.TypeOf"], unfollowed := true, recurses := true, named := ["loop.example/g00446/impl.errTooLong", "loop.example/g00446/impl.errNotRight", "loop.example/g00446/impl.errNoFile", "loop.example/g00446/impl.errOutside", "loop.example/g00446/impl.errNoRoom"], ifaces := true, apart := false, laid := [("loop.example/g00446/impl.errTooLong", laid_loop_example_g00446_impl_errTooLong), ("loop.example/g00446/impl.errNotRight", laid_loop_example_g00446_impl_errNotRight), ("loop.example/g00446/impl.errNoFile", laid_loop_example_g00446_impl_errNoFile), ("loop.example/g00446/impl.errOutside", laid_loop_example_g00446_impl_errOutside), ("loop.example/g00446/impl.errNoRoom", laid_loop_example_g00446_impl_errNoRoom)], narrowed := true }
def FnExactFsAppendUptoSaid : Prop := fnExactFsAppendUptoRow.holds Tryd.pinned (OpenSpec.upto fnExactFsAppendSpec)

/-- 'laws.FnExactFsCut', WHERE WHAT IT READS IS OF BULK AT MOST 1048576: true; the input reads as it did. -/
def fnExactFsCutUptoRow : OpenClaim := { program := "ytlmbejldnfkfhaadoor", sum := "136b46985f9b82bca32855116a4a84ceecac047f85dea0347fc7393a51d83f40", func := "loop.example/g00446/laws.FnExactFsCut", spec := "fnExactFsCut", inPlace := ["internal/reflectlite.TypeOf"], unfollowed := true, recurses := true, named := ["loop.example/g00446/impl.errTooLong", "loop.example/g00446/impl.errNotRight", "loop.example/g00446/impl.errOutside", "loop.example/g00446/impl.errNoFile", "loop.example/g00446/impl.errNoRoom"], ifaces := true, apart := false, laid := [("loop.example/g00446/impl.errTooLong", laid_loop_example_g00446_impl_errTooLong), ("loop.example/g00446/impl.errNotRight", laid_loop_example_g00446_impl_errNotRight), ("loop.example/g00446/impl.errNoFile", laid_loop_example_g00446_impl_errNoFile), ("loop.example/g00446/impl.errOutside", laid_loop_example_g00446_impl_errOutside), ("loop.example/g00446/impl.errNoRoom", laid_loop_example_g00446_impl_errNoRoom)], narrowed := true }
def FnExactFsCutUptoSaid : Prop := fnExactFsCutUptoRow.holds Tryd.pinned (OpenSpec.upto fnExactFsCutSpec)

/-- 'laws.FnExactFsSync', WHERE WHAT IT READS IS OF BULK AT MOST 1048576: true; the input reads as it did. -/
def fnExactFsSyncUptoRow : OpenClaim := { program := "ytlmbejldnfkfhaadoor", sum := "136b46985f9b82bca32855116a4a84ceecac047f85dea0347fc7393a51d83f40", func := "loop.example/g00446/laws.FnExactFsSync", spec := "fnExactFsSync", inPlace := ["internal/reflectlite.TypeOf"], unfollowed := true, recurses := true, named := ["loop.example/g00446/impl.errTooLong", "loop.example/g00446/impl.errNotRight", "loop.example/g00446/impl.errNoFile", "loop.example/g00446/impl.errOutside", "loop.example/g00446/impl.errNoRoom"], ifaces := true, apart := false, laid := [("loop.example/g00446/impl.errTooLong", laid_loop_example_g00446_impl_errTooLong), ("loop.example/g00446/impl.errNotRight", laid_loop_example_g00446_impl_errNotRight), ("loop.example/g00446/impl.errNoFile", laid_loop_example_g00446_impl_errNoFile), ("loop.example/g00446/impl.errOutside", laid_loop_example_g00446_impl_errOutside), ("loop.example/g00446/impl.errNoRoom", laid_loop_example_g00446_impl_errNoRoom)], narrowed := true }
def FnExactFsSyncUptoSaid : Prop := fnExactFsSyncUptoRow.holds Tryd.pinned (OpenSpec.upto fnExactFsSyncSpec)

/-- 'laws.FnExactFsRename', WHERE WHAT IT READS IS OF BULK AT MOST 1048576: true; the input reads as it did. -/
def fnExactFsRenameUptoRow : OpenClaim := { program := "ytlmbejldnfkfhaadoor", sum := "136b46985f9b82bca32855116a4a84ceecac047f85dea0347fc7393a51d83f40", func := "loop.example/g00446/laws.FnExactFsRename", spec := "fnExactFsRename", inPlace := ["internal/reflectlite.TypeOf"], unfollowed := true, recurses := true, named := ["loop.example/g00446/impl.errTooLong", "loop.example/g00446/impl.errNotRight", "loop.example/g00446/impl.errNoFile", "loop.example/g00446/impl.errOutside", "loop.example/g00446/impl.errNoRoom"], ifaces := true, apart := false, laid := [("loop.example/g00446/impl.errTooLong", laid_loop_example_g00446_impl_errTooLong), ("loop.example/g00446/impl.errNotRight", laid_loop_example_g00446_impl_errNotRight), ("loop.example/g00446/impl.errNoFile", laid_loop_example_g00446_impl_errNoFile), ("loop.example/g00446/impl.errOutside", laid_loop_example_g00446_impl_errOutside), ("loop.example/g00446/impl.errNoRoom", laid_loop_example_g00446_impl_errNoRoom)], narrowed := true }
def FnExactFsRenameUptoSaid : Prop := fnExactFsRenameUptoRow.holds Tryd.pinned (OpenSpec.upto fnExactFsRenameSpec)

/-- 'laws.FnExactFsRemove', WHERE WHAT IT READS IS OF BULK AT MOST 1048576: true; the input reads as it did. -/
def fnExactFsRemoveUptoRow : OpenClaim := { program := "ytlmbejldnfkfhaadoor", sum := "136b46985f9b82bca32855116a4a84ceecac047f85dea0347fc7393a51d83f40", func := "loop.example/g00446/laws.FnExactFsRemove", spec := "fnExactFsRemove", inPlace := ["internal/reflectlite.TypeOf"], unfollowed := true, recurses := true, named := ["loop.example/g00446/impl.errTooLong", "loop.example/g00446/impl.errNotRight", "loop.example/g00446/impl.errNoFile", "loop.example/g00446/impl.errOutside", "loop.example/g00446/impl.errNoRoom"], ifaces := true, apart := false, laid := [("loop.example/g00446/impl.errTooLong", laid_loop_example_g00446_impl_errTooLong), ("loop.example/g00446/impl.errNotRight", laid_loop_example_g00446_impl_errNotRight), ("loop.example/g00446/impl.errNoFile", laid_loop_example_g00446_impl_errNoFile), ("loop.example/g00446/impl.errOutside", laid_loop_example_g00446_impl_errOutside), ("loop.example/g00446/impl.errNoRoom", laid_loop_example_g00446_impl_errNoRoom)], narrowed := true }
def FnExactFsRemoveUptoSaid : Prop := fnExactFsRemoveUptoRow.holds Tryd.pinned (OpenSpec.upto fnExactFsRemoveSpec)

end Rows
end Go.Proofs.YtlmbejldnfkfhaaDoor

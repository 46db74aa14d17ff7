/-
  No cell of these rows narrows 'for every input' (looked for: loops, veiled, ifaces, maps, wideKeys, modest, calm, conditions, laid).
  DERIVED. THE GIVEN ROWS OF THIS SEAT. 7 by the template 'for every input the law returns true; each argument reads behind the call as it read before'; 0 by the template 'total and deterministic' (their statements: YtficlppngnnpoaaTotals.lean).
  GIVEN WITH THE SEED: the statements are not yours to turn. If you find one false, say at which input.
  Laid BY PROGRAM, IN A SANDBOX (cutbox-rows.mjs): the forced cells as the released guide's own fill.sh prints them over the translation 415edd48fd8d42fc… (all of the seat's roots in one cut). By AI agents, Wed Nov 11 2026. No macro, syntax, notation, axiom, sorry.
-/
import Derived.Test.YtficlppngnnpoaaChecked
import GoSem.Claim
import GoSem.ClaimJoined
import GoSem.ClaimMapViews
import Derived.JoinedTies
import Derived.KernelRfl
namespace Go.Proofs.Ytficlppngnnpoaa
/- THE CELL 'sum', in the pinned program and in every row, IS THE sha256 OF THE DUMP (.gsa) THAT YtficlppngnnpoaaProg.lean LOADS. Nothing in Lean hashes anything: it is a label: what it is worth is what the hold of that sum in a sandbox is worth. -/
noncomputable def Try.pinned : Pinned := { name := "ytficlppngnnpoaa", sum := "415edd48fd8d42fc978536f006387e930075ff0e87ac567f9df860df51321a6d", checked := Try.checked }
namespace Rows
def none {H : Type} : Left H := { results := [], args := [] }

/-- 'laws.FnTape': WHATEVER THE INPUT: true; the input reads as it did. -/
def fnTapeSpec : ChangeSpec := { name := "fnTape", fn := fun _ => fun
  | [d1, d2] => { results := [.lit (.bool true)], args := [d1, d2] }
  | _ => none }
def fnTapeRow : OpenClaim := { program := "ytficlppngnnpoaa", sum := "415edd48fd8d42fc978536f006387e930075ff0e87ac567f9df860df51321a6d", func := "loop.example/g00446/laws.FnTape", spec := "fnTape", unfollowed := true, recurses := true, apart := false }
def FnTapeSaid : Prop := fnTapeRow.holds Try.pinned (OpenSpec.ofChange fnTapeSpec)

/-- ITS FALSE NEIGHBOUR: 'it returns false'. Refute it at one input. -/
def fnTapeWrong : ChangeSpec := { name := "fnTape", fn := fun _ => fun
  | [d1, d2] => { results := [.lit (.bool false)], args := [d1, d2] }
  | _ => none }
def FnTapeWrongFalsely : Prop := fnTapeRow.holds Try.pinned (OpenSpec.ofChange fnTapeWrong)

/-- 'laws.FnExactTradesOf': WHATEVER THE INPUT: true; the input reads as it did. -/
def fnExactTradesOfSpec : ChangeSpec := { name := "fnExactTradesOf", fn := fun _ => fun
  | [d] => { results := [.lit (.bool true)], args := [d] }
  | _ => none }
def fnExactTradesOfRow : OpenClaim := { program := "ytficlppngnnpoaa", sum := "415edd48fd8d42fc978536f006387e930075ff0e87ac567f9df860df51321a6d", func := "loop.example/g00446/laws.FnExactTradesOf", spec := "fnExactTradesOf", apart := false }
def FnExactTradesOfSaid : Prop := fnExactTradesOfRow.holds Try.pinned (OpenSpec.ofChange fnExactTradesOfSpec)

/-- ITS FALSE NEIGHBOUR: 'it returns false'. Refute it at one input. -/
def fnExactTradesOfWrong : ChangeSpec := { name := "fnExactTradesOf", fn := fun _ => fun
  | [d] => { results := [.lit (.bool false)], args := [d] }
  | _ => none }
def FnExactTradesOfWrongFalsely : Prop := fnExactTradesOfRow.holds Try.pinned (OpenSpec.ofChange fnExactTradesOfWrong)

/-- 'laws.FnExactVolumeOf': WHATEVER THE INPUT: true; the input reads as it did. -/
def fnExactVolumeOfSpec : ChangeSpec := { name := "fnExactVolumeOf", fn := fun _ => fun
  | [d] => { results := [.lit (.bool true)], args := [d] }
  | _ => none }
def fnExactVolumeOfRow : OpenClaim := { program := "ytficlppngnnpoaa", sum := "415edd48fd8d42fc978536f006387e930075ff0e87ac567f9df860df51321a6d", func := "loop.example/g00446/laws.FnExactVolumeOf", spec := "fnExactVolumeOf", apart := false }
def FnExactVolumeOfSaid : Prop := fnExactVolumeOfRow.holds Try.pinned (OpenSpec.ofChange fnExactVolumeOfSpec)

/-- ITS FALSE NEIGHBOUR: 'it returns false'. Refute it at one input. -/
def fnExactVolumeOfWrong : ChangeSpec := { name := "fnExactVolumeOf", fn := fun _ => fun
  | [d] => { results := [.lit (.bool false)], args := [d] }
  | _ => none }
def FnExactVolumeOfWrongFalsely : Prop := fnExactVolumeOfRow.holds Try.pinned (OpenSpec.ofChange fnExactVolumeOfWrong)

/-- 'laws.FnExactTurnoverOf': WHATEVER THE INPUT: true; the input reads as it did. -/
def fnExactTurnoverOfSpec : ChangeSpec := { name := "fnExactTurnoverOf", fn := fun _ => fun
  | [d] => { results := [.lit (.bool true)], args := [d] }
  | _ => none }
def fnExactTurnoverOfRow : OpenClaim := { program := "ytficlppngnnpoaa", sum := "415edd48fd8d42fc978536f006387e930075ff0e87ac567f9df860df51321a6d", func := "loop.example/g00446/laws.FnExactTurnoverOf", spec := "fnExactTurnoverOf", apart := false }
def FnExactTurnoverOfSaid : Prop := fnExactTurnoverOfRow.holds Try.pinned (OpenSpec.ofChange fnExactTurnoverOfSpec)

/-- ITS FALSE NEIGHBOUR: 'it returns false'. Refute it at one input. -/
def fnExactTurnoverOfWrong : ChangeSpec := { name := "fnExactTurnoverOf", fn := fun _ => fun
  | [d] => { results := [.lit (.bool false)], args := [d] }
  | _ => none }
def FnExactTurnoverOfWrongFalsely : Prop := fnExactTurnoverOfRow.holds Try.pinned (OpenSpec.ofChange fnExactTurnoverOfWrong)

/-- 'laws.FnExactHighOf': WHATEVER THE INPUT: true; the input reads as it did. -/
def fnExactHighOfSpec : ChangeSpec := { name := "fnExactHighOf", fn := fun _ => fun
  | [d] => { results := [.lit (.bool true)], args := [d] }
  | _ => none }
def fnExactHighOfRow : OpenClaim := { program := "ytficlppngnnpoaa", sum := "415edd48fd8d42fc978536f006387e930075ff0e87ac567f9df860df51321a6d", func := "loop.example/g00446/laws.FnExactHighOf", spec := "fnExactHighOf", apart := false }
def FnExactHighOfSaid : Prop := fnExactHighOfRow.holds Try.pinned (OpenSpec.ofChange fnExactHighOfSpec)

/-- ITS FALSE NEIGHBOUR: 'it returns false'. Refute it at one input. -/
def fnExactHighOfWrong : ChangeSpec := { name := "fnExactHighOf", fn := fun _ => fun
  | [d] => { results := [.lit (.bool false)], args := [d] }
  | _ => none }
def FnExactHighOfWrongFalsely : Prop := fnExactHighOfRow.holds Try.pinned (OpenSpec.ofChange fnExactHighOfWrong)

/-- 'laws.FnExactLowOf': WHATEVER THE INPUT: true; the input reads as it did. -/
def fnExactLowOfSpec : ChangeSpec := { name := "fnExactLowOf", fn := fun _ => fun
  | [d] => { results := [.lit (.bool true)], args := [d] }
  | _ => none }
def fnExactLowOfRow : OpenClaim := { program := "ytficlppngnnpoaa", sum := "415edd48fd8d42fc978536f006387e930075ff0e87ac567f9df860df51321a6d", func := "loop.example/g00446/laws.FnExactLowOf", spec := "fnExactLowOf", apart := false }
def FnExactLowOfSaid : Prop := fnExactLowOfRow.holds Try.pinned (OpenSpec.ofChange fnExactLowOfSpec)

/-- ITS FALSE NEIGHBOUR: 'it returns false'. Refute it at one input. -/
def fnExactLowOfWrong : ChangeSpec := { name := "fnExactLowOf", fn := fun _ => fun
  | [d] => { results := [.lit (.bool false)], args := [d] }
  | _ => none }
def FnExactLowOfWrongFalsely : Prop := fnExactLowOfRow.holds Try.pinned (OpenSpec.ofChange fnExactLowOfWrong)

/-- 'laws.FnExactBarsOf': WHATEVER THE INPUT: true; the input reads as it did. -/
def fnExactBarsOfSpec : ChangeSpec := { name := "fnExactBarsOf", fn := fun _ => fun
  | [d1, d2] => { results := [.lit (.bool true)], args := [d1, d2] }
  | _ => none }
def fnExactBarsOfRow : OpenClaim := { program := "ytficlppngnnpoaa", sum := "415edd48fd8d42fc978536f006387e930075ff0e87ac567f9df860df51321a6d", func := "loop.example/g00446/laws.FnExactBarsOf", spec := "fnExactBarsOf", unfollowed := true, recurses := true, apart := false }
def FnExactBarsOfSaid : Prop := fnExactBarsOfRow.holds Try.pinned (OpenSpec.ofChange fnExactBarsOfSpec)

/-- ITS FALSE NEIGHBOUR: 'it returns false'. Refute it at one input. -/
def fnExactBarsOfWrong : ChangeSpec := { name := "fnExactBarsOf", fn := fun _ => fun
  | [d1, d2] => { results := [.lit (.bool false)], args := [d1, d2] }
  | _ => none }
def FnExactBarsOfWrongFalsely : Prop := fnExactBarsOfRow.holds Try.pinned (OpenSpec.ofChange fnExactBarsOfWrong)

/- THE SECOND FORM. 'bulk': how many values and letters a reading holds, each counted each time it is reached (what is shared counts as often as it is met; a slice's spare places count too). A statement '..UptoSaid' is the law's where the arguments, and the package variables that the reading takes, are together of bulk at most 1048576: NARROWER than '..Said'. Prove '..Said' where nothing that the law and all that it calls make is longer than what came in: it says more and counts as full. Else prove '..UptoSaid'. A law counts once. -/
mutual
def uptoBulk {H : Type} : DataW H → Nat
  | .lit (.string bytes) => bytes.length + 1
  | .lit _ => 1
  | .nil => 1
  | .ptr d => uptoBulk d + 1
  | .slice elems spare => uptoBulkAll elems + uptoBulkAll spare + 1
  | .agg parts => uptoBulkAll parts + 1
  | .iface _ d => uptoBulk d + 1
  | .map entries => uptoBulkEntries entries + 1
  | .held _ => 1
def uptoBulkAll {H : Type} : List (DataW H) → Nat
  | [] => 0
  | d :: r => uptoBulk d + uptoBulkAll r
def uptoBulkEntries {H : Type} : List (Lit × DataW H) → Nat
  | [] => 0
  | x :: r => uptoBulkEntry x + uptoBulkEntries r
def uptoBulkEntry {H : Type} : Lit × DataW H → Nat
  | (.string bytes, d) => bytes.length + uptoBulk d + 1
  | (_, d) => uptoBulk d + 1
 end
def uptoSmall : (H : Type) → List (DataW H) → Bool := fun _ ds => decide (uptoBulkAll ds ≤ 1048576)
def OpenSpec.upto (s : _root_.Go.ChangeSpec) : _root_.Go.OpenSpec := { _root_.Go.OpenSpec.ofChange s with cond := some uptoSmall }

/-- 'laws.FnTape', WHERE WHAT IT READS IS OF BULK AT MOST 1048576: true; the input reads as it did. -/
def fnTapeUptoRow : OpenClaim := { program := "ytficlppngnnpoaa", sum := "415edd48fd8d42fc978536f006387e930075ff0e87ac567f9df860df51321a6d", func := "loop.example/g00446/laws.FnTape", spec := "fnTape", unfollowed := true, recurses := true, apart := false, narrowed := true }
def FnTapeUptoSaid : Prop := fnTapeUptoRow.holds Try.pinned (OpenSpec.upto fnTapeSpec)

/-- 'laws.FnExactTradesOf', WHERE WHAT IT READS IS OF BULK AT MOST 1048576: true; the input reads as it did. -/
def fnExactTradesOfUptoRow : OpenClaim := { program := "ytficlppngnnpoaa", sum := "415edd48fd8d42fc978536f006387e930075ff0e87ac567f9df860df51321a6d", func := "loop.example/g00446/laws.FnExactTradesOf", spec := "fnExactTradesOf", apart := false, narrowed := true }
def FnExactTradesOfUptoSaid : Prop := fnExactTradesOfUptoRow.holds Try.pinned (OpenSpec.upto fnExactTradesOfSpec)

/-- 'laws.FnExactVolumeOf', WHERE WHAT IT READS IS OF BULK AT MOST 1048576: true; the input reads as it did. -/
def fnExactVolumeOfUptoRow : OpenClaim := { program := "ytficlppngnnpoaa", sum := "415edd48fd8d42fc978536f006387e930075ff0e87ac567f9df860df51321a6d", func := "loop.example/g00446/laws.FnExactVolumeOf", spec := "fnExactVolumeOf", apart := false, narrowed := true }
def FnExactVolumeOfUptoSaid : Prop := fnExactVolumeOfUptoRow.holds Try.pinned (OpenSpec.upto fnExactVolumeOfSpec)

/-- 'laws.FnExactTurnoverOf', WHERE WHAT IT READS IS OF BULK AT MOST 1048576: true; the input reads as it did. -/
def fnExactTurnoverOfUptoRow : OpenClaim := { program := "ytficlppngnnpoaa", sum := "415edd48fd8d42fc978536f006387e930075ff0e87ac567f9df860df51321a6d", func := "loop.example/g00446/laws.FnExactTurnoverOf", spec := "fnExactTurnoverOf", apart := false, narrowed := true }
def FnExactTurnoverOfUptoSaid : Prop := fnExactTurnoverOfUptoRow.holds Try.pinned (OpenSpec.upto fnExactTurnoverOfSpec)

/-- 'laws.FnExactHighOf', WHERE WHAT IT READS IS OF BULK AT MOST 1048576: true; the input reads as it did. -/
def fnExactHighOfUptoRow : OpenClaim := { program := "ytficlppngnnpoaa", sum := "415edd48fd8d42fc978536f006387e930075ff0e87ac567f9df860df51321a6d", func := "loop.example/g00446/laws.FnExactHighOf", spec := "fnExactHighOf", apart := false, narrowed := true }
def FnExactHighOfUptoSaid : Prop := fnExactHighOfUptoRow.holds Try.pinned (OpenSpec.upto fnExactHighOfSpec)

/-- 'laws.FnExactLowOf', WHERE WHAT IT READS IS OF BULK AT MOST 1048576: true; the input reads as it did. -/
def fnExactLowOfUptoRow : OpenClaim := { program := "ytficlppngnnpoaa", sum := "415edd48fd8d42fc978536f006387e930075ff0e87ac567f9df860df51321a6d", func := "loop.example/g00446/laws.FnExactLowOf", spec := "fnExactLowOf", apart := false, narrowed := true }
def FnExactLowOfUptoSaid : Prop := fnExactLowOfUptoRow.holds Try.pinned (OpenSpec.upto fnExactLowOfSpec)

/-- 'laws.FnExactBarsOf', WHERE WHAT IT READS IS OF BULK AT MOST 1048576: true; the input reads as it did. -/
def fnExactBarsOfUptoRow : OpenClaim := { program := "ytficlppngnnpoaa", sum := "415edd48fd8d42fc978536f006387e930075ff0e87ac567f9df860df51321a6d", func := "loop.example/g00446/laws.FnExactBarsOf", spec := "fnExactBarsOf", unfollowed := true, recurses := true, apart := false, narrowed := true }
def FnExactBarsOfUptoSaid : Prop := fnExactBarsOfUptoRow.holds Try.pinned (OpenSpec.upto fnExactBarsOfSpec)

end Rows
end Go.Proofs.Ytficlppngnnpoaa

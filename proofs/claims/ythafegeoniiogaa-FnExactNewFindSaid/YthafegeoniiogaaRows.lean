/-
  No cell of these rows narrows 'for every input' (looked for: loops, veiled, ifaces, maps, wideKeys, modest, calm, conditions, laid).
  DERIVED. THE GIVEN ROWS OF THIS SEAT. 11 by the template 'for every input the law returns true; each argument reads behind the call as it read before'; 0 by the template 'total and deterministic' (their statements: YthafegeoniiogaaTotals.lean).
  GIVEN WITH THE SEED: the statements are not yours to turn. If you find one false, say at which input.
  Laid BY PROGRAM, IN A SANDBOX (cutbox-rows.mjs): the forced cells as the released guide's own fill.sh prints them over the translation 095a733ba4670163… (all of the seat's roots in one cut). By AI agents, Wed Nov 11 2026. No macro, syntax, notation, axiom, sorry.
-/
import Derived.Test.YthafegeoniiogaaChecked
import GoSem.Claim
import GoSem.ClaimJoined
import GoSem.ClaimMapViews
import Derived.JoinedTies
import Derived.KernelRfl
namespace Go.Proofs.Ythafegeoniiogaa
/- THE CELL 'sum', in the pinned program and in every row, IS THE sha256 OF THE DUMP (.gsa) THAT YthafegeoniiogaaProg.lean LOADS. Nothing in Lean hashes anything: it is a label: what it is worth is what the hold of that sum in a sandbox is worth. -/
noncomputable def Try.pinned : Pinned := { name := "ythafegeoniiogaa", sum := "095a733ba4670163eb74fb2203dbbeaa53f6f7806a04407129af0ccc2b109d1c", checked := Try.checked }
namespace Rows
def none {H : Type} : Left H := { results := [], args := [] }

/-- 'laws.FnExactOldRight': WHATEVER THE INPUT: true; the input reads as it did. -/
def fnExactOldRightSpec : ChangeSpec := { name := "fnExactOldRight", fn := fun _ => fun
  | [d] => { results := [.lit (.bool true)], args := [d] }
  | _ => none }
def fnExactOldRightRow : OpenClaim := { program := "ythafegeoniiogaa", sum := "095a733ba4670163eb74fb2203dbbeaa53f6f7806a04407129af0ccc2b109d1c", func := "loop.example/g00446/laws.FnExactOldRight", spec := "fnExactOldRight", apart := false }
def FnExactOldRightSaid : Prop := fnExactOldRightRow.holds Try.pinned (OpenSpec.ofChange fnExactOldRightSpec)

/-- ITS FALSE NEIGHBOUR: 'it returns false'. Refute it at one input. -/
def fnExactOldRightWrong : ChangeSpec := { name := "fnExactOldRight", fn := fun _ => fun
  | [d] => { results := [.lit (.bool false)], args := [d] }
  | _ => none }
def FnExactOldRightWrongFalsely : Prop := fnExactOldRightRow.holds Try.pinned (OpenSpec.ofChange fnExactOldRightWrong)

/-- 'laws.FnExactOldBest': WHATEVER THE INPUT: true; the input reads as it did. -/
def fnExactOldBestSpec : ChangeSpec := { name := "fnExactOldBest", fn := fun _ => fun
  | [d1, d2] => { results := [.lit (.bool true)], args := [d1, d2] }
  | _ => none }
def fnExactOldBestRow : OpenClaim := { program := "ythafegeoniiogaa", sum := "095a733ba4670163eb74fb2203dbbeaa53f6f7806a04407129af0ccc2b109d1c", func := "loop.example/g00446/laws.FnExactOldBest", spec := "fnExactOldBest", apart := false }
def FnExactOldBestSaid : Prop := fnExactOldBestRow.holds Try.pinned (OpenSpec.ofChange fnExactOldBestSpec)

/-- ITS FALSE NEIGHBOUR: 'it returns false'. Refute it at one input. -/
def fnExactOldBestWrong : ChangeSpec := { name := "fnExactOldBest", fn := fun _ => fun
  | [d1, d2] => { results := [.lit (.bool false)], args := [d1, d2] }
  | _ => none }
def FnExactOldBestWrongFalsely : Prop := fnExactOldBestRow.holds Try.pinned (OpenSpec.ofChange fnExactOldBestWrong)

/-- 'laws.FnExactOldLadder': WHATEVER THE INPUT: true; the input reads as it did. -/
def fnExactOldLadderSpec : ChangeSpec := { name := "fnExactOldLadder", fn := fun _ => fun
  | [d1, d2] => { results := [.lit (.bool true)], args := [d1, d2] }
  | _ => none }
def fnExactOldLadderRow : OpenClaim := { program := "ythafegeoniiogaa", sum := "095a733ba4670163eb74fb2203dbbeaa53f6f7806a04407129af0ccc2b109d1c", func := "loop.example/g00446/laws.FnExactOldLadder", spec := "fnExactOldLadder", apart := false }
def FnExactOldLadderSaid : Prop := fnExactOldLadderRow.holds Try.pinned (OpenSpec.ofChange fnExactOldLadderSpec)

/-- ITS FALSE NEIGHBOUR: 'it returns false'. Refute it at one input. -/
def fnExactOldLadderWrong : ChangeSpec := { name := "fnExactOldLadder", fn := fun _ => fun
  | [d1, d2] => { results := [.lit (.bool false)], args := [d1, d2] }
  | _ => none }
def FnExactOldLadderWrongFalsely : Prop := fnExactOldLadderRow.holds Try.pinned (OpenSpec.ofChange fnExactOldLadderWrong)

/-- 'laws.FnExactOldDo': WHATEVER THE INPUT: true; the input reads as it did. -/
def fnExactOldDoSpec : ChangeSpec := { name := "fnExactOldDo", fn := fun _ => fun
  | [d1, d2] => { results := [.lit (.bool true)], args := [d1, d2] }
  | _ => none }
def fnExactOldDoRow : OpenClaim := { program := "ythafegeoniiogaa", sum := "095a733ba4670163eb74fb2203dbbeaa53f6f7806a04407129af0ccc2b109d1c", func := "loop.example/g00446/laws.FnExactOldDo", spec := "fnExactOldDo", inPlace := ["slices.overlaps[loop.example/g00446/impl.Order]"], unfollowed := true, recurses := true, apart := false }
def FnExactOldDoSaid : Prop := fnExactOldDoRow.holds Try.pinned (OpenSpec.ofChange fnExactOldDoSpec)

/-- ITS FALSE NEIGHBOUR: 'it returns false'. Refute it at one input. -/
def fnExactOldDoWrong : ChangeSpec := { name := "fnExactOldDo", fn := fun _ => fun
  | [d1, d2] => { results := [.lit (.bool false)], args := [d1, d2] }
  | _ => none }
def FnExactOldDoWrongFalsely : Prop := fnExactOldDoRow.holds Try.pinned (OpenSpec.ofChange fnExactOldDoWrong)

/-- 'laws.FnExactNewRight': WHATEVER THE INPUT: true; the input reads as it did. -/
def fnExactNewRightSpec : ChangeSpec := { name := "fnExactNewRight", fn := fun _ => fun
  | [d] => { results := [.lit (.bool true)], args := [d] }
  | _ => none }
def fnExactNewRightRow : OpenClaim := { program := "ythafegeoniiogaa", sum := "095a733ba4670163eb74fb2203dbbeaa53f6f7806a04407129af0ccc2b109d1c", func := "loop.example/g00446/laws.FnExactNewRight", spec := "fnExactNewRight", apart := false }
def FnExactNewRightSaid : Prop := fnExactNewRightRow.holds Try.pinned (OpenSpec.ofChange fnExactNewRightSpec)

/-- ITS FALSE NEIGHBOUR: 'it returns false'. Refute it at one input. -/
def fnExactNewRightWrong : ChangeSpec := { name := "fnExactNewRight", fn := fun _ => fun
  | [d] => { results := [.lit (.bool false)], args := [d] }
  | _ => none }
def FnExactNewRightWrongFalsely : Prop := fnExactNewRightRow.holds Try.pinned (OpenSpec.ofChange fnExactNewRightWrong)

/-- 'laws.FnExactNewNew': WHATEVER THE INPUT: true; the input reads as it did. -/
def fnExactNewNewSpec : ChangeSpec := { name := "fnExactNewNew", fn := fun _ => fun
  | [] => { results := [.lit (.bool true)], args := [] }
  | _ => none }
def fnExactNewNewRow : OpenClaim := { program := "ythafegeoniiogaa", sum := "095a733ba4670163eb74fb2203dbbeaa53f6f7806a04407129af0ccc2b109d1c", func := "loop.example/g00446/laws.FnExactNewNew", spec := "fnExactNewNew", apart := false }
def FnExactNewNewSaid : Prop := fnExactNewNewRow.holds Try.pinned (OpenSpec.ofChange fnExactNewNewSpec)

/-- ITS FALSE NEIGHBOUR: 'it returns false'. Refute it at one input. -/
def fnExactNewNewWrong : ChangeSpec := { name := "fnExactNewNew", fn := fun _ => fun
  | [] => { results := [.lit (.bool false)], args := [] }
  | _ => none }
def FnExactNewNewWrongFalsely : Prop := fnExactNewNewRow.holds Try.pinned (OpenSpec.ofChange fnExactNewNewWrong)

/-- 'laws.FnExactNewBest': WHATEVER THE INPUT: true; the input reads as it did. -/
def fnExactNewBestSpec : ChangeSpec := { name := "fnExactNewBest", fn := fun _ => fun
  | [d1, d2] => { results := [.lit (.bool true)], args := [d1, d2] }
  | _ => none }
def fnExactNewBestRow : OpenClaim := { program := "ythafegeoniiogaa", sum := "095a733ba4670163eb74fb2203dbbeaa53f6f7806a04407129af0ccc2b109d1c", func := "loop.example/g00446/laws.FnExactNewBest", spec := "fnExactNewBest", apart := false }
def FnExactNewBestSaid : Prop := fnExactNewBestRow.holds Try.pinned (OpenSpec.ofChange fnExactNewBestSpec)

/-- ITS FALSE NEIGHBOUR: 'it returns false'. Refute it at one input. -/
def fnExactNewBestWrong : ChangeSpec := { name := "fnExactNewBest", fn := fun _ => fun
  | [d1, d2] => { results := [.lit (.bool false)], args := [d1, d2] }
  | _ => none }
def FnExactNewBestWrongFalsely : Prop := fnExactNewBestRow.holds Try.pinned (OpenSpec.ofChange fnExactNewBestWrong)

/-- 'laws.FnExactNewLadder': WHATEVER THE INPUT: true; the input reads as it did. -/
def fnExactNewLadderSpec : ChangeSpec := { name := "fnExactNewLadder", fn := fun _ => fun
  | [d1, d2] => { results := [.lit (.bool true)], args := [d1, d2] }
  | _ => none }
def fnExactNewLadderRow : OpenClaim := { program := "ythafegeoniiogaa", sum := "095a733ba4670163eb74fb2203dbbeaa53f6f7806a04407129af0ccc2b109d1c", func := "loop.example/g00446/laws.FnExactNewLadder", spec := "fnExactNewLadder", apart := false }
def FnExactNewLadderSaid : Prop := fnExactNewLadderRow.holds Try.pinned (OpenSpec.ofChange fnExactNewLadderSpec)

/-- ITS FALSE NEIGHBOUR: 'it returns false'. Refute it at one input. -/
def fnExactNewLadderWrong : ChangeSpec := { name := "fnExactNewLadder", fn := fun _ => fun
  | [d1, d2] => { results := [.lit (.bool false)], args := [d1, d2] }
  | _ => none }
def FnExactNewLadderWrongFalsely : Prop := fnExactNewLadderRow.holds Try.pinned (OpenSpec.ofChange fnExactNewLadderWrong)

/-- 'laws.FnExactNewFind': WHATEVER THE INPUT: true; the input reads as it did. -/
def fnExactNewFindSpec : ChangeSpec := { name := "fnExactNewFind", fn := fun _ => fun
  | [d1, d2] => { results := [.lit (.bool true)], args := [d1, d2] }
  | _ => none }
def fnExactNewFindRow : OpenClaim := { program := "ythafegeoniiogaa", sum := "095a733ba4670163eb74fb2203dbbeaa53f6f7806a04407129af0ccc2b109d1c", func := "loop.example/g00446/laws.FnExactNewFind", spec := "fnExactNewFind", apart := false }
def FnExactNewFindSaid : Prop := fnExactNewFindRow.holds Try.pinned (OpenSpec.ofChange fnExactNewFindSpec)

/-- ITS FALSE NEIGHBOUR: 'it returns false'. Refute it at one input. -/
def fnExactNewFindWrong : ChangeSpec := { name := "fnExactNewFind", fn := fun _ => fun
  | [d1, d2] => { results := [.lit (.bool false)], args := [d1, d2] }
  | _ => none }
def FnExactNewFindWrongFalsely : Prop := fnExactNewFindRow.holds Try.pinned (OpenSpec.ofChange fnExactNewFindWrong)

/-- 'laws.FnExactNewCount': WHATEVER THE INPUT: true; the input reads as it did. -/
def fnExactNewCountSpec : ChangeSpec := { name := "fnExactNewCount", fn := fun _ => fun
  | [d] => { results := [.lit (.bool true)], args := [d] }
  | _ => none }
def fnExactNewCountRow : OpenClaim := { program := "ythafegeoniiogaa", sum := "095a733ba4670163eb74fb2203dbbeaa53f6f7806a04407129af0ccc2b109d1c", func := "loop.example/g00446/laws.FnExactNewCount", spec := "fnExactNewCount", apart := false }
def FnExactNewCountSaid : Prop := fnExactNewCountRow.holds Try.pinned (OpenSpec.ofChange fnExactNewCountSpec)

/-- ITS FALSE NEIGHBOUR: 'it returns false'. Refute it at one input. -/
def fnExactNewCountWrong : ChangeSpec := { name := "fnExactNewCount", fn := fun _ => fun
  | [d] => { results := [.lit (.bool false)], args := [d] }
  | _ => none }
def FnExactNewCountWrongFalsely : Prop := fnExactNewCountRow.holds Try.pinned (OpenSpec.ofChange fnExactNewCountWrong)

/-- 'laws.FnExactNewQueue': WHATEVER THE INPUT: true; the input reads as it did. -/
def fnExactNewQueueSpec : ChangeSpec := { name := "fnExactNewQueue", fn := fun _ => fun
  | [d1, d2, d3] => { results := [.lit (.bool true)], args := [d1, d2, d3] }
  | _ => none }
def fnExactNewQueueRow : OpenClaim := { program := "ythafegeoniiogaa", sum := "095a733ba4670163eb74fb2203dbbeaa53f6f7806a04407129af0ccc2b109d1c", func := "loop.example/g00446/laws.FnExactNewQueue", spec := "fnExactNewQueue", apart := false }
def FnExactNewQueueSaid : Prop := fnExactNewQueueRow.holds Try.pinned (OpenSpec.ofChange fnExactNewQueueSpec)

/-- ITS FALSE NEIGHBOUR: 'it returns false'. Refute it at one input. -/
def fnExactNewQueueWrong : ChangeSpec := { name := "fnExactNewQueue", fn := fun _ => fun
  | [d1, d2, d3] => { results := [.lit (.bool false)], args := [d1, d2, d3] }
  | _ => none }
def FnExactNewQueueWrongFalsely : Prop := fnExactNewQueueRow.holds Try.pinned (OpenSpec.ofChange fnExactNewQueueWrong)

/- THE SECOND FORM. 'bulk': how many values and letters a reading holds, each counted each time it is reached (what is shared counts as often as it is met; a slice's spare places count too). A statement '..UptoSaid' is the law's where the arguments, and the package variables that the reading takes, are together of bulk at most 1048576: NARROWER than '..Said'. Prove '..Said' where nothing that the law and all that it calls make is longer than what came in: it says more and counts as full. Else prove '..UptoSaid'. A law counts once. -/
mutual
def uptoBulk {H : Type} : DataW H → Nat
  | .lit (.string bytes) => bytes.length + 1
  | .lit _ => 1
  | .nil => 1
  | .ptr d => uptoBulk d + 1
  | .slice elems spare => uptoBulkAll elems + uptoBulkAll spare + 1
  | .agg parts => uptoBulkAll parts + 1
  | .iface _ d => uptoBulk d + 1
  | .map entries => uptoBulkEntries entries + 1
  | .held _ => 1
def uptoBulkAll {H : Type} : List (DataW H) → Nat
  | [] => 0
  | d :: r => uptoBulk d + uptoBulkAll r
def uptoBulkEntries {H : Type} : List (Lit × DataW H) → Nat
  | [] => 0
  | x :: r => uptoBulkEntry x + uptoBulkEntries r
def uptoBulkEntry {H : Type} : Lit × DataW H → Nat
  | (.string bytes, d) => bytes.length + uptoBulk d + 1
  | (_, d) => uptoBulk d + 1
 end
def uptoSmall : (H : Type) → List (DataW H) → Bool := fun _ ds => decide (uptoBulkAll ds ≤ 1048576)
def OpenSpec.upto (s : _root_.Go.ChangeSpec) : _root_.Go.OpenSpec := { _root_.Go.OpenSpec.ofChange s with cond := some uptoSmall }

/-- 'laws.FnExactOldRight', WHERE WHAT IT READS IS OF BULK AT MOST 1048576: true; the input reads as it did. -/
def fnExactOldRightUptoRow : OpenClaim := { program := "ythafegeoniiogaa", sum := "095a733ba4670163eb74fb2203dbbeaa53f6f7806a04407129af0ccc2b109d1c", func := "loop.example/g00446/laws.FnExactOldRight", spec := "fnExactOldRight", apart := false, narrowed := true }
def FnExactOldRightUptoSaid : Prop := fnExactOldRightUptoRow.holds Try.pinned (OpenSpec.upto fnExactOldRightSpec)

/-- 'laws.FnExactOldBest', WHERE WHAT IT READS IS OF BULK AT MOST 1048576: true; the input reads as it did. -/
def fnExactOldBestUptoRow : OpenClaim := { program := "ythafegeoniiogaa", sum := "095a733ba4670163eb74fb2203dbbeaa53f6f7806a04407129af0ccc2b109d1c", func := "loop.example/g00446/laws.FnExactOldBest", spec := "fnExactOldBest", apart := false, narrowed := true }
def FnExactOldBestUptoSaid : Prop := fnExactOldBestUptoRow.holds Try.pinned (OpenSpec.upto fnExactOldBestSpec)

/-- 'laws.FnExactOldLadder', WHERE WHAT IT READS IS OF BULK AT MOST 1048576: true; the input reads as it did. -/
def fnExactOldLadderUptoRow : OpenClaim := { program := "ythafegeoniiogaa", sum := "095a733ba4670163eb74fb2203dbbeaa53f6f7806a04407129af0ccc2b109d1c", func := "loop.example/g00446/laws.FnExactOldLadder", spec := "fnExactOldLadder", apart := false, narrowed := true }
def FnExactOldLadderUptoSaid : Prop := fnExactOldLadderUptoRow.holds Try.pinned (OpenSpec.upto fnExactOldLadderSpec)

/-- 'laws.FnExactOldDo', WHERE WHAT IT READS IS OF BULK AT MOST 1048576: true; the input reads as it did. -/
def fnExactOldDoUptoRow : OpenClaim := { program := "ythafegeoniiogaa", sum := "095a733ba4670163eb74fb2203dbbeaa53f6f7806a04407129af0ccc2b109d1c", func := "loop.example/g00446/laws.FnExactOldDo", spec := "fnExactOldDo", inPlace := ["slices.overlaps[loop.example/g00446/impl.Order]"], unfollowed := true, recurses := true, apart := false, narrowed := true }
def FnExactOldDoUptoSaid : Prop := fnExactOldDoUptoRow.holds Try.pinned (OpenSpec.upto fnExactOldDoSpec)

/-- 'laws.FnExactNewRight', WHERE WHAT IT READS IS OF BULK AT MOST 1048576: true; the input reads as it did. -/
def fnExactNewRightUptoRow : OpenClaim := { program := "ythafegeoniiogaa", sum := "095a733ba4670163eb74fb2203dbbeaa53f6f7806a04407129af0ccc2b109d1c", func := "loop.example/g00446/laws.FnExactNewRight", spec := "fnExactNewRight", apart := false, narrowed := true }
def FnExactNewRightUptoSaid : Prop := fnExactNewRightUptoRow.holds Try.pinned (OpenSpec.upto fnExactNewRightSpec)

/-- 'laws.FnExactNewNew', WHERE WHAT IT READS IS OF BULK AT MOST 1048576: true; the input reads as it did. -/
def fnExactNewNewUptoRow : OpenClaim := { program := "ythafegeoniiogaa", sum := "095a733ba4670163eb74fb2203dbbeaa53f6f7806a04407129af0ccc2b109d1c", func := "loop.example/g00446/laws.FnExactNewNew", spec := "fnExactNewNew", apart := false, narrowed := true }
def FnExactNewNewUptoSaid : Prop := fnExactNewNewUptoRow.holds Try.pinned (OpenSpec.upto fnExactNewNewSpec)

/-- 'laws.FnExactNewBest', WHERE WHAT IT READS IS OF BULK AT MOST 1048576: true; the input reads as it did. -/
def fnExactNewBestUptoRow : OpenClaim := { program := "ythafegeoniiogaa", sum := "095a733ba4670163eb74fb2203dbbeaa53f6f7806a04407129af0ccc2b109d1c", func := "loop.example/g00446/laws.FnExactNewBest", spec := "fnExactNewBest", apart := false, narrowed := true }
def FnExactNewBestUptoSaid : Prop := fnExactNewBestUptoRow.holds Try.pinned (OpenSpec.upto fnExactNewBestSpec)

/-- 'laws.FnExactNewLadder', WHERE WHAT IT READS IS OF BULK AT MOST 1048576: true; the input reads as it did. -/
def fnExactNewLadderUptoRow : OpenClaim := { program := "ythafegeoniiogaa", sum := "095a733ba4670163eb74fb2203dbbeaa53f6f7806a04407129af0ccc2b109d1c", func := "loop.example/g00446/laws.FnExactNewLadder", spec := "fnExactNewLadder", apart := false, narrowed := true }
def FnExactNewLadderUptoSaid : Prop := fnExactNewLadderUptoRow.holds Try.pinned (OpenSpec.upto fnExactNewLadderSpec)

/-- 'laws.FnExactNewFind', WHERE WHAT IT READS IS OF BULK AT MOST 1048576: true; the input reads as it did. -/
def fnExactNewFindUptoRow : OpenClaim := { program := "ythafegeoniiogaa", sum := "095a733ba4670163eb74fb2203dbbeaa53f6f7806a04407129af0ccc2b109d1c", func := "loop.example/g00446/laws.FnExactNewFind", spec := "fnExactNewFind", apart := false, narrowed := true }
def FnExactNewFindUptoSaid : Prop := fnExactNewFindUptoRow.holds Try.pinned (OpenSpec.upto fnExactNewFindSpec)

/-- 'laws.FnExactNewCount', WHERE WHAT IT READS IS OF BULK AT MOST 1048576: true; the input reads as it did. -/
def fnExactNewCountUptoRow : OpenClaim := { program := "ythafegeoniiogaa", sum := "095a733ba4670163eb74fb2203dbbeaa53f6f7806a04407129af0ccc2b109d1c", func := "loop.example/g00446/laws.FnExactNewCount", spec := "fnExactNewCount", apart := false, narrowed := true }
def FnExactNewCountUptoSaid : Prop := fnExactNewCountUptoRow.holds Try.pinned (OpenSpec.upto fnExactNewCountSpec)

/-- 'laws.FnExactNewQueue', WHERE WHAT IT READS IS OF BULK AT MOST 1048576: true; the input reads as it did. -/
def fnExactNewQueueUptoRow : OpenClaim := { program := "ythafegeoniiogaa", sum := "095a733ba4670163eb74fb2203dbbeaa53f6f7806a04407129af0ccc2b109d1c", func := "loop.example/g00446/laws.FnExactNewQueue", spec := "fnExactNewQueue", apart := false, narrowed := true }
def FnExactNewQueueUptoSaid : Prop := fnExactNewQueueUptoRow.holds Try.pinned (OpenSpec.upto fnExactNewQueueSpec)

end Rows
end Go.Proofs.Ythafegeoniiogaa

/-
  No cell of these rows narrows 'for every input' (looked for: loops, veiled, ifaces, maps, wideKeys, modest, calm, conditions, laid).
  DERIVED. THE GIVEN ROWS OF THIS SEAT. 12 by the template 'for every input the law returns true; each argument reads behind the call as it read before'; 0 by the template 'total and deterministic' (their statements: YtjagohadeegghaaTotals.lean).
  GIVEN WITH THE SEED: the statements are not yours to turn. If you find one false, say at which input.
  Laid BY PROGRAM, IN A SANDBOX (cutbox-rows.mjs): the forced cells as the released guide's own fill.sh prints them over the translation 104ec904504aa031… (all of the seat's roots in one cut). By AI agents, Wed Nov 11 2026. No macro, syntax, notation, axiom, sorry.
-/
import Derived.Test.YtjagohadeegghaaChecked
import GoSem.Claim
import GoSem.ClaimJoined
import GoSem.ClaimMapViews
import Derived.JoinedTies
import Derived.KernelRfl
namespace Go.Proofs.Ytjagohadeegghaa
/- THE CELL 'sum', in the pinned program and in every row, IS THE sha256 OF THE DUMP (.gsa) THAT YtjagohadeegghaaProg.lean LOADS. Nothing in Lean hashes anything: it is a label: what it is worth is what the hold of that sum in a sandbox is worth. -/
noncomputable def Try.pinned : Pinned := { name := "ytjagohadeegghaa", sum := "104ec904504aa0316b6427427ccb1d3c4ccb04e2a3e628c399b1165adab4484e", checked := Try.checked }
namespace Rows
def none {H : Type} : Left H := { results := [], args := [] }

/-- 'laws.FnExactUp': WHATEVER THE INPUT: true; the input reads as it did. -/
def fnExactUpSpec : ChangeSpec := { name := "fnExactUp", fn := fun _ => fun
  | [d] => { results := [.lit (.bool true)], args := [d] }
  | _ => none }
def fnExactUpRow : OpenClaim := { program := "ytjagohadeegghaa", sum := "104ec904504aa0316b6427427ccb1d3c4ccb04e2a3e628c399b1165adab4484e", func := "loop.example/g00446/laws.FnExactUp", spec := "fnExactUp", apart := false }
def FnExactUpSaid : Prop := fnExactUpRow.holds Try.pinned (OpenSpec.ofChange fnExactUpSpec)

/-- ITS FALSE NEIGHBOUR: 'it returns false'. Refute it at one input. -/
def fnExactUpWrong : ChangeSpec := { name := "fnExactUp", fn := fun _ => fun
  | [d] => { results := [.lit (.bool false)], args := [d] }
  | _ => none }
def FnExactUpWrongFalsely : Prop := fnExactUpRow.holds Try.pinned (OpenSpec.ofChange fnExactUpWrong)

/-- 'laws.FnExactDown': WHATEVER THE INPUT: true; the input reads as it did. -/
def fnExactDownSpec : ChangeSpec := { name := "fnExactDown", fn := fun _ => fun
  | [d] => { results := [.lit (.bool true)], args := [d] }
  | _ => none }
def fnExactDownRow : OpenClaim := { program := "ytjagohadeegghaa", sum := "104ec904504aa0316b6427427ccb1d3c4ccb04e2a3e628c399b1165adab4484e", func := "loop.example/g00446/laws.FnExactDown", spec := "fnExactDown", unfollowed := true, recurses := true, apart := false }
def FnExactDownSaid : Prop := fnExactDownRow.holds Try.pinned (OpenSpec.ofChange fnExactDownSpec)

/-- ITS FALSE NEIGHBOUR: 'it returns false'. Refute it at one input. -/
def fnExactDownWrong : ChangeSpec := { name := "fnExactDown", fn := fun _ => fun
  | [d] => { results := [.lit (.bool false)], args := [d] }
  | _ => none }
def FnExactDownWrongFalsely : Prop := fnExactDownRow.holds Try.pinned (OpenSpec.ofChange fnExactDownWrong)

/-- 'laws.FnExactAlike': WHATEVER THE INPUT: true; the input reads as it did. -/
def fnExactAlikeSpec : ChangeSpec := { name := "fnExactAlike", fn := fun _ => fun
  | [d1, d2] => { results := [.lit (.bool true)], args := [d1, d2] }
  | _ => none }
def fnExactAlikeRow : OpenClaim := { program := "ytjagohadeegghaa", sum := "104ec904504aa0316b6427427ccb1d3c4ccb04e2a3e628c399b1165adab4484e", func := "loop.example/g00446/laws.FnExactAlike", spec := "fnExactAlike", unfollowed := true, recurses := true, apart := false }
def FnExactAlikeSaid : Prop := fnExactAlikeRow.holds Try.pinned (OpenSpec.ofChange fnExactAlikeSpec)

/-- ITS FALSE NEIGHBOUR: 'it returns false'. Refute it at one input. -/
def fnExactAlikeWrong : ChangeSpec := { name := "fnExactAlike", fn := fun _ => fun
  | [d1, d2] => { results := [.lit (.bool false)], args := [d1, d2] }
  | _ => none }
def FnExactAlikeWrongFalsely : Prop := fnExactAlikeRow.holds Try.pinned (OpenSpec.ofChange fnExactAlikeWrong)

/-- 'laws.FnExactFirstNew': WHATEVER THE INPUT: true; the input reads as it did. -/
def fnExactFirstNewSpec : ChangeSpec := { name := "fnExactFirstNew", fn := fun _ => fun
  | [d] => { results := [.lit (.bool true)], args := [d] }
  | _ => none }
def fnExactFirstNewRow : OpenClaim := { program := "ytjagohadeegghaa", sum := "104ec904504aa0316b6427427ccb1d3c4ccb04e2a3e628c399b1165adab4484e", func := "loop.example/g00446/laws.FnExactFirstNew", spec := "fnExactFirstNew", unfollowed := true, recurses := true, apart := false }
def FnExactFirstNewSaid : Prop := fnExactFirstNewRow.holds Try.pinned (OpenSpec.ofChange fnExactFirstNewSpec)

/-- ITS FALSE NEIGHBOUR: 'it returns false'. Refute it at one input. -/
def fnExactFirstNewWrong : ChangeSpec := { name := "fnExactFirstNew", fn := fun _ => fun
  | [d] => { results := [.lit (.bool false)], args := [d] }
  | _ => none }
def FnExactFirstNewWrongFalsely : Prop := fnExactFirstNewRow.holds Try.pinned (OpenSpec.ofChange fnExactFirstNewWrong)

/-- 'laws.FnExactNewRight': WHATEVER THE INPUT: true; the input reads as it did. -/
def fnExactNewRightSpec : ChangeSpec := { name := "fnExactNewRight", fn := fun _ => fun
  | [d] => { results := [.lit (.bool true)], args := [d] }
  | _ => none }
def fnExactNewRightRow : OpenClaim := { program := "ytjagohadeegghaa", sum := "104ec904504aa0316b6427427ccb1d3c4ccb04e2a3e628c399b1165adab4484e", func := "loop.example/g00446/laws.FnExactNewRight", spec := "fnExactNewRight", apart := false }
def FnExactNewRightSaid : Prop := fnExactNewRightRow.holds Try.pinned (OpenSpec.ofChange fnExactNewRightSpec)

/-- ITS FALSE NEIGHBOUR: 'it returns false'. Refute it at one input. -/
def fnExactNewRightWrong : ChangeSpec := { name := "fnExactNewRight", fn := fun _ => fun
  | [d] => { results := [.lit (.bool false)], args := [d] }
  | _ => none }
def FnExactNewRightWrongFalsely : Prop := fnExactNewRightRow.holds Try.pinned (OpenSpec.ofChange fnExactNewRightWrong)

/-- 'laws.FnExactNewCount': WHATEVER THE INPUT: true; the input reads as it did. -/
def fnExactNewCountSpec : ChangeSpec := { name := "fnExactNewCount", fn := fun _ => fun
  | [d] => { results := [.lit (.bool true)], args := [d] }
  | _ => none }
def fnExactNewCountRow : OpenClaim := { program := "ytjagohadeegghaa", sum := "104ec904504aa0316b6427427ccb1d3c4ccb04e2a3e628c399b1165adab4484e", func := "loop.example/g00446/laws.FnExactNewCount", spec := "fnExactNewCount", apart := false }
def FnExactNewCountSaid : Prop := fnExactNewCountRow.holds Try.pinned (OpenSpec.ofChange fnExactNewCountSpec)

/-- ITS FALSE NEIGHBOUR: 'it returns false'. Refute it at one input. -/
def fnExactNewCountWrong : ChangeSpec := { name := "fnExactNewCount", fn := fun _ => fun
  | [d] => { results := [.lit (.bool false)], args := [d] }
  | _ => none }
def FnExactNewCountWrongFalsely : Prop := fnExactNewCountRow.holds Try.pinned (OpenSpec.ofChange fnExactNewCountWrong)

/-- 'laws.FnExactNewBest': WHATEVER THE INPUT: true; the input reads as it did. -/
def fnExactNewBestSpec : ChangeSpec := { name := "fnExactNewBest", fn := fun _ => fun
  | [d1, d2] => { results := [.lit (.bool true)], args := [d1, d2] }
  | _ => none }
def fnExactNewBestRow : OpenClaim := { program := "ytjagohadeegghaa", sum := "104ec904504aa0316b6427427ccb1d3c4ccb04e2a3e628c399b1165adab4484e", func := "loop.example/g00446/laws.FnExactNewBest", spec := "fnExactNewBest", apart := false }
def FnExactNewBestSaid : Prop := fnExactNewBestRow.holds Try.pinned (OpenSpec.ofChange fnExactNewBestSpec)

/-- ITS FALSE NEIGHBOUR: 'it returns false'. Refute it at one input. -/
def fnExactNewBestWrong : ChangeSpec := { name := "fnExactNewBest", fn := fun _ => fun
  | [d1, d2] => { results := [.lit (.bool false)], args := [d1, d2] }
  | _ => none }
def FnExactNewBestWrongFalsely : Prop := fnExactNewBestRow.holds Try.pinned (OpenSpec.ofChange fnExactNewBestWrong)

/-- 'laws.FnExactNewLadder': WHATEVER THE INPUT: true; the input reads as it did. -/
def fnExactNewLadderSpec : ChangeSpec := { name := "fnExactNewLadder", fn := fun _ => fun
  | [d1, d2] => { results := [.lit (.bool true)], args := [d1, d2] }
  | _ => none }
def fnExactNewLadderRow : OpenClaim := { program := "ytjagohadeegghaa", sum := "104ec904504aa0316b6427427ccb1d3c4ccb04e2a3e628c399b1165adab4484e", func := "loop.example/g00446/laws.FnExactNewLadder", spec := "fnExactNewLadder", apart := false }
def FnExactNewLadderSaid : Prop := fnExactNewLadderRow.holds Try.pinned (OpenSpec.ofChange fnExactNewLadderSpec)

/-- ITS FALSE NEIGHBOUR: 'it returns false'. Refute it at one input. -/
def fnExactNewLadderWrong : ChangeSpec := { name := "fnExactNewLadder", fn := fun _ => fun
  | [d1, d2] => { results := [.lit (.bool false)], args := [d1, d2] }
  | _ => none }
def FnExactNewLadderWrongFalsely : Prop := fnExactNewLadderRow.holds Try.pinned (OpenSpec.ofChange fnExactNewLadderWrong)

/-- 'laws.FnExactNewQueue': WHATEVER THE INPUT: true; the input reads as it did. -/
def fnExactNewQueueSpec : ChangeSpec := { name := "fnExactNewQueue", fn := fun _ => fun
  | [d1, d2, d3] => { results := [.lit (.bool true)], args := [d1, d2, d3] }
  | _ => none }
def fnExactNewQueueRow : OpenClaim := { program := "ytjagohadeegghaa", sum := "104ec904504aa0316b6427427ccb1d3c4ccb04e2a3e628c399b1165adab4484e", func := "loop.example/g00446/laws.FnExactNewQueue", spec := "fnExactNewQueue", apart := false }
def FnExactNewQueueSaid : Prop := fnExactNewQueueRow.holds Try.pinned (OpenSpec.ofChange fnExactNewQueueSpec)

/-- ITS FALSE NEIGHBOUR: 'it returns false'. Refute it at one input. -/
def fnExactNewQueueWrong : ChangeSpec := { name := "fnExactNewQueue", fn := fun _ => fun
  | [d1, d2, d3] => { results := [.lit (.bool false)], args := [d1, d2, d3] }
  | _ => none }
def FnExactNewQueueWrongFalsely : Prop := fnExactNewQueueRow.holds Try.pinned (OpenSpec.ofChange fnExactNewQueueWrong)

/-- 'laws.FnExactNewFind': WHATEVER THE INPUT: true; the input reads as it did. -/
def fnExactNewFindSpec : ChangeSpec := { name := "fnExactNewFind", fn := fun _ => fun
  | [d1, d2] => { results := [.lit (.bool true)], args := [d1, d2] }
  | _ => none }
def fnExactNewFindRow : OpenClaim := { program := "ytjagohadeegghaa", sum := "104ec904504aa0316b6427427ccb1d3c4ccb04e2a3e628c399b1165adab4484e", func := "loop.example/g00446/laws.FnExactNewFind", spec := "fnExactNewFind", apart := false }
def FnExactNewFindSaid : Prop := fnExactNewFindRow.holds Try.pinned (OpenSpec.ofChange fnExactNewFindSpec)

/-- ITS FALSE NEIGHBOUR: 'it returns false'. Refute it at one input. -/
def fnExactNewFindWrong : ChangeSpec := { name := "fnExactNewFind", fn := fun _ => fun
  | [d1, d2] => { results := [.lit (.bool false)], args := [d1, d2] }
  | _ => none }
def FnExactNewFindWrongFalsely : Prop := fnExactNewFindRow.holds Try.pinned (OpenSpec.ofChange fnExactNewFindWrong)

/-- 'laws.FnExactNewBytes': WHATEVER THE INPUT: true; the input reads as it did. -/
def fnExactNewBytesSpec : ChangeSpec := { name := "fnExactNewBytes", fn := fun _ => fun
  | [d1, d2] => { results := [.lit (.bool true)], args := [d1, d2] }
  | _ => none }
def fnExactNewBytesRow : OpenClaim := { program := "ytjagohadeegghaa", sum := "104ec904504aa0316b6427427ccb1d3c4ccb04e2a3e628c399b1165adab4484e", func := "loop.example/g00446/laws.FnExactNewBytes", spec := "fnExactNewBytes", unfollowed := true, recurses := true, apart := false }
def FnExactNewBytesSaid : Prop := fnExactNewBytesRow.holds Try.pinned (OpenSpec.ofChange fnExactNewBytesSpec)

/-- ITS FALSE NEIGHBOUR: 'it returns false'. Refute it at one input. -/
def fnExactNewBytesWrong : ChangeSpec := { name := "fnExactNewBytes", fn := fun _ => fun
  | [d1, d2] => { results := [.lit (.bool false)], args := [d1, d2] }
  | _ => none }
def FnExactNewBytesWrongFalsely : Prop := fnExactNewBytesRow.holds Try.pinned (OpenSpec.ofChange fnExactNewBytesWrong)

/-- 'laws.FnExactOldDo': WHATEVER THE INPUT: true; the input reads as it did. -/
def fnExactOldDoSpec : ChangeSpec := { name := "fnExactOldDo", fn := fun _ => fun
  | [d1, d2] => { results := [.lit (.bool true)], args := [d1, d2] }
  | _ => none }
def fnExactOldDoRow : OpenClaim := { program := "ytjagohadeegghaa", sum := "104ec904504aa0316b6427427ccb1d3c4ccb04e2a3e628c399b1165adab4484e", func := "loop.example/g00446/laws.FnExactOldDo", spec := "fnExactOldDo", inPlace := ["slices.overlaps[loop.example/g00446/impl.Order]"], unfollowed := true, recurses := true, apart := false }
def FnExactOldDoSaid : Prop := fnExactOldDoRow.holds Try.pinned (OpenSpec.ofChange fnExactOldDoSpec)

/-- ITS FALSE NEIGHBOUR: 'it returns false'. Refute it at one input. -/
def fnExactOldDoWrong : ChangeSpec := { name := "fnExactOldDo", fn := fun _ => fun
  | [d1, d2] => { results := [.lit (.bool false)], args := [d1, d2] }
  | _ => none }
def FnExactOldDoWrongFalsely : Prop := fnExactOldDoRow.holds Try.pinned (OpenSpec.ofChange fnExactOldDoWrong)

/- THE SECOND FORM. 'bulk': how many values and letters a reading holds, each counted each time it is reached (what is shared counts as often as it is met; a slice's spare places count too). A statement '..UptoSaid' is the law's where the arguments, and the package variables that the reading takes, are together of bulk at most 1048576: NARROWER than '..Said'. Prove '..Said' where nothing that the law and all that it calls make is longer than what came in: it says more and counts as full. Else prove '..UptoSaid'. A law counts once. -/
mutual
def uptoBulk {H : Type} : DataW H → Nat
  | .lit (.string bytes) => bytes.length + 1
  | .lit _ => 1
  | .nil => 1
  | .ptr d => uptoBulk d + 1
  | .slice elems spare => uptoBulkAll elems + uptoBulkAll spare + 1
  | .agg parts => uptoBulkAll parts + 1
  | .iface _ d => uptoBulk d + 1
  | .map entries => uptoBulkEntries entries + 1
  | .held _ => 1
def uptoBulkAll {H : Type} : List (DataW H) → Nat
  | [] => 0
  | d :: r => uptoBulk d + uptoBulkAll r
def uptoBulkEntries {H : Type} : List (Lit × DataW H) → Nat
  | [] => 0
  | x :: r => uptoBulkEntry x + uptoBulkEntries r
def uptoBulkEntry {H : Type} : Lit × DataW H → Nat
  | (.string bytes, d) => bytes.length + uptoBulk d + 1
  | (_, d) => uptoBulk d + 1
 end
def uptoSmall : (H : Type) → List (DataW H) → Bool := fun _ ds => decide (uptoBulkAll ds ≤ 1048576)
def OpenSpec.upto (s : _root_.Go.ChangeSpec) : _root_.Go.OpenSpec := { _root_.Go.OpenSpec.ofChange s with cond := some uptoSmall }

/-- 'laws.FnExactUp', WHERE WHAT IT READS IS OF BULK AT MOST 1048576: true; the input reads as it did. -/
def fnExactUpUptoRow : OpenClaim := { program := "ytjagohadeegghaa", sum := "104ec904504aa0316b6427427ccb1d3c4ccb04e2a3e628c399b1165adab4484e", func := "loop.example/g00446/laws.FnExactUp", spec := "fnExactUp", apart := false, narrowed := true }
def FnExactUpUptoSaid : Prop := fnExactUpUptoRow.holds Try.pinned (OpenSpec.upto fnExactUpSpec)

/-- 'laws.FnExactDown', WHERE WHAT IT READS IS OF BULK AT MOST 1048576: true; the input reads as it did. -/
def fnExactDownUptoRow : OpenClaim := { program := "ytjagohadeegghaa", sum := "104ec904504aa0316b6427427ccb1d3c4ccb04e2a3e628c399b1165adab4484e", func := "loop.example/g00446/laws.FnExactDown", spec := "fnExactDown", unfollowed := true, recurses := true, apart := false, narrowed := true }
def FnExactDownUptoSaid : Prop := fnExactDownUptoRow.holds Try.pinned (OpenSpec.upto fnExactDownSpec)

/-- 'laws.FnExactAlike', WHERE WHAT IT READS IS OF BULK AT MOST 1048576: true; the input reads as it did. -/
def fnExactAlikeUptoRow : OpenClaim := { program := "ytjagohadeegghaa", sum := "104ec904504aa0316b6427427ccb1d3c4ccb04e2a3e628c399b1165adab4484e", func := "loop.example/g00446/laws.FnExactAlike", spec := "fnExactAlike", unfollowed := true, recurses := true, apart := false, narrowed := true }
def FnExactAlikeUptoSaid : Prop := fnExactAlikeUptoRow.holds Try.pinned (OpenSpec.upto fnExactAlikeSpec)

/-- 'laws.FnExactFirstNew', WHERE WHAT IT READS IS OF BULK AT MOST 1048576: true; the input reads as it did. -/
def fnExactFirstNewUptoRow : OpenClaim := { program := "ytjagohadeegghaa", sum := "104ec904504aa0316b6427427ccb1d3c4ccb04e2a3e628c399b1165adab4484e", func := "loop.example/g00446/laws.FnExactFirstNew", spec := "fnExactFirstNew", unfollowed := true, recurses := true, apart := false, narrowed := true }
def FnExactFirstNewUptoSaid : Prop := fnExactFirstNewUptoRow.holds Try.pinned (OpenSpec.upto fnExactFirstNewSpec)

/-- 'laws.FnExactNewRight', WHERE WHAT IT READS IS OF BULK AT MOST 1048576: true; the input reads as it did. -/
def fnExactNewRightUptoRow : OpenClaim := { program := "ytjagohadeegghaa", sum := "104ec904504aa0316b6427427ccb1d3c4ccb04e2a3e628c399b1165adab4484e", func := "loop.example/g00446/laws.FnExactNewRight", spec := "fnExactNewRight", apart := false, narrowed := true }
def FnExactNewRightUptoSaid : Prop := fnExactNewRightUptoRow.holds Try.pinned (OpenSpec.upto fnExactNewRightSpec)

/-- 'laws.FnExactNewCount', WHERE WHAT IT READS IS OF BULK AT MOST 1048576: true; the input reads as it did. -/
def fnExactNewCountUptoRow : OpenClaim := { program := "ytjagohadeegghaa", sum := "104ec904504aa0316b6427427ccb1d3c4ccb04e2a3e628c399b1165adab4484e", func := "loop.example/g00446/laws.FnExactNewCount", spec := "fnExactNewCount", apart := false, narrowed := true }
def FnExactNewCountUptoSaid : Prop := fnExactNewCountUptoRow.holds Try.pinned (OpenSpec.upto fnExactNewCountSpec)

/-- 'laws.FnExactNewBest', WHERE WHAT IT READS IS OF BULK AT MOST 1048576: true; the input reads as it did. -/
def fnExactNewBestUptoRow : OpenClaim := { program := "ytjagohadeegghaa", sum := "104ec904504aa0316b6427427ccb1d3c4ccb04e2a3e628c399b1165adab4484e", func := "loop.example/g00446/laws.FnExactNewBest", spec := "fnExactNewBest", apart := false, narrowed := true }
def FnExactNewBestUptoSaid : Prop := fnExactNewBestUptoRow.holds Try.pinned (OpenSpec.upto fnExactNewBestSpec)

/-- 'laws.FnExactNewLadder', WHERE WHAT IT READS IS OF BULK AT MOST 1048576: true; the input reads as it did. -/
def fnExactNewLadderUptoRow : OpenClaim := { program := "ytjagohadeegghaa", sum := "104ec904504aa0316b6427427ccb1d3c4ccb04e2a3e628c399b1165adab4484e", func := "loop.example/g00446/laws.FnExactNewLadder", spec := "fnExactNewLadder", apart := false, narrowed := true }
def FnExactNewLadderUptoSaid : Prop := fnExactNewLadderUptoRow.holds Try.pinned (OpenSpec.upto fnExactNewLadderSpec)

/-- 'laws.FnExactNewQueue', WHERE WHAT IT READS IS OF BULK AT MOST 1048576: true; the input reads as it did. -/
def fnExactNewQueueUptoRow : OpenClaim := { program := "ytjagohadeegghaa", sum := "104ec904504aa0316b6427427ccb1d3c4ccb04e2a3e628c399b1165adab4484e", func := "loop.example/g00446/laws.FnExactNewQueue", spec := "fnExactNewQueue", apart := false, narrowed := true }
def FnExactNewQueueUptoSaid : Prop := fnExactNewQueueUptoRow.holds Try.pinned (OpenSpec.upto fnExactNewQueueSpec)

/-- 'laws.FnExactNewFind', WHERE WHAT IT READS IS OF BULK AT MOST 1048576: true; the input reads as it did. -/
def fnExactNewFindUptoRow : OpenClaim := { program := "ytjagohadeegghaa", sum := "104ec904504aa0316b6427427ccb1d3c4ccb04e2a3e628c399b1165adab4484e", func := "loop.example/g00446/laws.FnExactNewFind", spec := "fnExactNewFind", apart := false, narrowed := true }
def FnExactNewFindUptoSaid : Prop := fnExactNewFindUptoRow.holds Try.pinned (OpenSpec.upto fnExactNewFindSpec)

/-- 'laws.FnExactNewBytes', WHERE WHAT IT READS IS OF BULK AT MOST 1048576: true; the input reads as it did. -/
def fnExactNewBytesUptoRow : OpenClaim := { program := "ytjagohadeegghaa", sum := "104ec904504aa0316b6427427ccb1d3c4ccb04e2a3e628c399b1165adab4484e", func := "loop.example/g00446/laws.FnExactNewBytes", spec := "fnExactNewBytes", unfollowed := true, recurses := true, apart := false, narrowed := true }
def FnExactNewBytesUptoSaid : Prop := fnExactNewBytesUptoRow.holds Try.pinned (OpenSpec.upto fnExactNewBytesSpec)

/-- 'laws.FnExactOldDo', WHERE WHAT IT READS IS OF BULK AT MOST 1048576: true; the input reads as it did. -/
def fnExactOldDoUptoRow : OpenClaim := { program := "ytjagohadeegghaa", sum := "104ec904504aa0316b6427427ccb1d3c4ccb04e2a3e628c399b1165adab4484e", func := "loop.example/g00446/laws.FnExactOldDo", spec := "fnExactOldDo", inPlace := ["slices.overlaps[loop.example/g00446/impl.Order]"], unfollowed := true, recurses := true, apart := false, narrowed := true }
def FnExactOldDoUptoSaid : Prop := fnExactOldDoUptoRow.holds Try.pinned (OpenSpec.upto fnExactOldDoSpec)

end Rows
end Go.Proofs.Ytjagohadeegghaa

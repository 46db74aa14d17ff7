/-
  No cell of these rows narrows 'for every input' (looked for: loops, veiled, ifaces, maps, wideKeys, modest, calm, conditions, laid).
  DERIVED. THE GIVEN ROWS OF THIS SEAT. 3 by the template 'for every input the law returns true; each argument reads behind the call as it read before'; 0 by the template 'total and deterministic' (their statements: YtfagldipjpaceaaTotals.lean).
  GIVEN WITH THE SEED: the statements are not yours to turn. If you find one false, say at which input.
  Laid BY PROGRAM, IN A SANDBOX (cutbox-rows.mjs): the forced cells as the released guide's own fill.sh prints them over the translation 841de4d4dd1c56da… (all of the seat's roots in one cut). By AI agents, Wed Nov 11 2026. No macro, syntax, notation, axiom, sorry.
-/
import Derived.Test.YtfagldipjpaceaaChecked
import GoSem.Claim
import GoSem.ClaimJoined
import GoSem.ClaimMapViews
import Derived.JoinedTies
import Derived.KernelRfl
namespace Go.Proofs.Ytfagldipjpaceaa
/- THE CELL 'sum', in the pinned program and in every row, IS THE sha256 OF THE DUMP (.gsa) THAT YtfagldipjpaceaaProg.lean LOADS. Nothing in Lean hashes anything: it is a label: what it is worth is what the hold of that sum in a sandbox is worth. -/
noncomputable def Try.pinned : Pinned := { name := "ytfagldipjpaceaa", sum := "841de4d4dd1c56da1bce9ae51b93a2dcf21374fe62b883ec2761f3d8700352d2", checked := Try.checked }
namespace Rows
def none {H : Type} : Left H := { results := [], args := [] }

/-- 'laws.FnOld': WHATEVER THE INPUT: true; the input reads as it did. -/
def fnOldSpec : ChangeSpec := { name := "fnOld", fn := fun _ => fun
  | [d1, d2] => { results := [.lit (.bool true)], args := [d1, d2] }
  | _ => none }
def fnOldRow : OpenClaim := { program := "ytfagldipjpaceaa", sum := "841de4d4dd1c56da1bce9ae51b93a2dcf21374fe62b883ec2761f3d8700352d2", func := "loop.example/g00446/laws.FnOld", spec := "fnOld", inPlace := ["slices.overlaps[loop.example/g00446/impl.Order]"], unfollowed := true, recurses := true, apart := false }
def FnOldSaid : Prop := fnOldRow.holds Try.pinned (OpenSpec.ofChange fnOldSpec)

/-- ITS FALSE NEIGHBOUR: 'it returns false'. Refute it at one input. -/
def fnOldWrong : ChangeSpec := { name := "fnOld", fn := fun _ => fun
  | [d1, d2] => { results := [.lit (.bool false)], args := [d1, d2] }
  | _ => none }
def FnOldWrongFalsely : Prop := fnOldRow.holds Try.pinned (OpenSpec.ofChange fnOldWrong)

/-- 'laws.FnLadder': WHATEVER THE INPUT: true; the input reads as it did. -/
def fnLadderSpec : ChangeSpec := { name := "fnLadder", fn := fun _ => fun
  | [d] => { results := [.lit (.bool true)], args := [d] }
  | _ => none }
def fnLadderRow : OpenClaim := { program := "ytfagldipjpaceaa", sum := "841de4d4dd1c56da1bce9ae51b93a2dcf21374fe62b883ec2761f3d8700352d2", func := "loop.example/g00446/laws.FnLadder", spec := "fnLadder", apart := false }
def FnLadderSaid : Prop := fnLadderRow.holds Try.pinned (OpenSpec.ofChange fnLadderSpec)

/-- ITS FALSE NEIGHBOUR: 'it returns false'. Refute it at one input. -/
def fnLadderWrong : ChangeSpec := { name := "fnLadder", fn := fun _ => fun
  | [d] => { results := [.lit (.bool false)], args := [d] }
  | _ => none }
def FnLadderWrongFalsely : Prop := fnLadderRow.holds Try.pinned (OpenSpec.ofChange fnLadderWrong)

/-- 'laws.FnPriority': WHATEVER THE INPUT: true; the input reads as it did. -/
def fnPrioritySpec : ChangeSpec := { name := "fnPriority", fn := fun _ => fun
  | [d1, d2] => { results := [.lit (.bool true)], args := [d1, d2] }
  | _ => none }
def fnPriorityRow : OpenClaim := { program := "ytfagldipjpaceaa", sum := "841de4d4dd1c56da1bce9ae51b93a2dcf21374fe62b883ec2761f3d8700352d2", func := "loop.example/g00446/laws.FnPriority", spec := "fnPriority", inPlace := ["slices.overlaps[loop.example/g00446/impl.Order]"], unfollowed := true, recurses := true, apart := false }
def FnPrioritySaid : Prop := fnPriorityRow.holds Try.pinned (OpenSpec.ofChange fnPrioritySpec)

/-- ITS FALSE NEIGHBOUR: 'it returns false'. Refute it at one input. -/
def fnPriorityWrong : ChangeSpec := { name := "fnPriority", fn := fun _ => fun
  | [d1, d2] => { results := [.lit (.bool false)], args := [d1, d2] }
  | _ => none }
def FnPriorityWrongFalsely : Prop := fnPriorityRow.holds Try.pinned (OpenSpec.ofChange fnPriorityWrong)

/- THE SECOND FORM. 'bulk': how many values and letters a reading holds, each counted each time it is reached (what is shared counts as often as it is met; a slice's spare places count too). A statement '..UptoSaid' is the law's where the arguments, and the package variables that the reading takes, are together of bulk at most 1048576: NARROWER than '..Said'. Prove '..Said' where nothing that the law and all that it calls make is longer than what came in: it says more and counts as full. Else prove '..UptoSaid'. A law counts once. -/
mutual
def uptoBulk {H : Type} : DataW H → Nat
  | .lit (.string bytes) => bytes.length + 1
  | .lit _ => 1
  | .nil => 1
  | .ptr d => uptoBulk d + 1
  | .slice elems spare => uptoBulkAll elems + uptoBulkAll spare + 1
  | .agg parts => uptoBulkAll parts + 1
  | .iface _ d => uptoBulk d + 1
  | .map entries => uptoBulkEntries entries + 1
  | .held _ => 1
def uptoBulkAll {H : Type} : List (DataW H) → Nat
  | [] => 0
  | d :: r => uptoBulk d + uptoBulkAll r
def uptoBulkEntries {H : Type} : List (Lit × DataW H) → Nat
  | [] => 0
  | x :: r => uptoBulkEntry x + uptoBulkEntries r
def uptoBulkEntry {H : Type} : Lit × DataW H → Nat
  | (.string bytes, d) => bytes.length + uptoBulk d + 1
  | (_, d) => uptoBulk d + 1
 end
def uptoSmall : (H : Type) → List (DataW H) → Bool := fun _ ds => decide (uptoBulkAll ds ≤ 1048576)
def OpenSpec.upto (s : _root_.Go.ChangeSpec) : _root_.Go.OpenSpec := { _root_.Go.OpenSpec.ofChange s with cond := some uptoSmall }

/-- 'laws.FnOld', WHERE WHAT IT READS IS OF BULK AT MOST 1048576: true; the input reads as it did. -/
def fnOldUptoRow : OpenClaim := { program := "ytfagldipjpaceaa", sum := "841de4d4dd1c56da1bce9ae51b93a2dcf21374fe62b883ec2761f3d8700352d2", func := "loop.example/g00446/laws.FnOld", spec := "fnOld", inPlace := ["slices.overlaps[loop.example/g00446/impl.Order]"], unfollowed := true, recurses := true, apart := false, narrowed := true }
def FnOldUptoSaid : Prop := fnOldUptoRow.holds Try.pinned (OpenSpec.upto fnOldSpec)

/-- 'laws.FnLadder', WHERE WHAT IT READS IS OF BULK AT MOST 1048576: true; the input reads as it did. -/
def fnLadderUptoRow : OpenClaim := { program := "ytfagldipjpaceaa", sum := "841de4d4dd1c56da1bce9ae51b93a2dcf21374fe62b883ec2761f3d8700352d2", func := "loop.example/g00446/laws.FnLadder", spec := "fnLadder", apart := false, narrowed := true }
def FnLadderUptoSaid : Prop := fnLadderUptoRow.holds Try.pinned (OpenSpec.upto fnLadderSpec)

/-- 'laws.FnPriority', WHERE WHAT IT READS IS OF BULK AT MOST 1048576: true; the input reads as it did. -/
def fnPriorityUptoRow : OpenClaim := { program := "ytfagldipjpaceaa", sum := "841de4d4dd1c56da1bce9ae51b93a2dcf21374fe62b883ec2761f3d8700352d2", func := "loop.example/g00446/laws.FnPriority", spec := "fnPriority", inPlace := ["slices.overlaps[loop.example/g00446/impl.Order]"], unfollowed := true, recurses := true, apart := false, narrowed := true }
def FnPriorityUptoSaid : Prop := fnPriorityUptoRow.holds Try.pinned (OpenSpec.upto fnPrioritySpec)

end Rows
end Go.Proofs.Ytfagldipjpaceaa

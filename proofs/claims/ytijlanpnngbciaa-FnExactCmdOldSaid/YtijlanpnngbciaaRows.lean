/-
  No cell of these rows narrows 'for every input' (looked for: loops, veiled, ifaces, maps, wideKeys, modest, calm, conditions, laid).
  DERIVED. THE GIVEN ROWS OF THIS SEAT. 6 by the template 'for every input the law returns true; each argument reads behind the call as it read before'; 0 by the template 'total and deterministic' (their statements: YtijlanpnngbciaaTotals.lean).
  GIVEN WITH THE SEED: the statements are not yours to turn. If you find one false, say at which input.
  Laid BY PROGRAM, IN A SANDBOX (cutbox-rows.mjs): the forced cells as the released guide's own fill.sh prints them over the translation 1b622e359e1c89ba… (all of the seat's roots in one cut). By AI agents, Wed Nov 11 2026. No macro, syntax, notation, axiom, sorry.
-/
import Derived.Test.YtijlanpnngbciaaChecked
import GoSem.Claim
import GoSem.ClaimJoined
import GoSem.ClaimMapViews
import Derived.JoinedTies
import Derived.KernelRfl
namespace Go.Proofs.Ytijlanpnngbciaa
/- THE CELL 'sum', in the pinned program and in every row, IS THE sha256 OF THE DUMP (.gsa) THAT YtijlanpnngbciaaProg.lean LOADS. Nothing in Lean hashes anything: it is a label: what it is worth is what the hold of that sum in a sandbox is worth. -/
noncomputable def Try.pinned : Pinned := { name := "ytijlanpnngbciaa", sum := "1b622e359e1c89ba5c24c24cc51583e785e0faeaaa6a216d1c0eac794d4dc271", checked := Try.checked }
namespace Rows
def none {H : Type} : Left H := { results := [], args := [] }

/-- 'laws.FnCmd': WHATEVER THE INPUT: true; the input reads as it did. -/
def fnCmdSpec : ChangeSpec := { name := "fnCmd", fn := fun _ => fun
  | [d1, d2] => { results := [.lit (.bool true)], args := [d1, d2] }
  | _ => none }
def fnCmdRow : OpenClaim := { program := "ytijlanpnngbciaa", sum := "1b622e359e1c89ba5c24c24cc51583e785e0faeaaa6a216d1c0eac794d4dc271", func := "loop.example/g00446/laws.FnCmd", spec := "fnCmd", inPlace := ["internal/abi.NoEscape", "internal/bytealg.MakeNoZero"], unfollowed := true, recurses := true, apart := false }
def FnCmdSaid : Prop := fnCmdRow.holds Try.pinned (OpenSpec.ofChange fnCmdSpec)

/-- ITS FALSE NEIGHBOUR: 'it returns false'. Refute it at one input. -/
def fnCmdWrong : ChangeSpec := { name := "fnCmd", fn := fun _ => fun
  | [d1, d2] => { results := [.lit (.bool false)], args := [d1, d2] }
  | _ => none }
def FnCmdWrongFalsely : Prop := fnCmdRow.holds Try.pinned (OpenSpec.ofChange fnCmdWrong)

/-- 'laws.FnExactCmdRight': WHATEVER THE INPUT: true; the input reads as it did. -/
def fnExactCmdRightSpec : ChangeSpec := { name := "fnExactCmdRight", fn := fun _ => fun
  | [d] => { results := [.lit (.bool true)], args := [d] }
  | _ => none }
def fnExactCmdRightRow : OpenClaim := { program := "ytijlanpnngbciaa", sum := "1b622e359e1c89ba5c24c24cc51583e785e0faeaaa6a216d1c0eac794d4dc271", func := "loop.example/g00446/laws.FnExactCmdRight", spec := "fnExactCmdRight", apart := false }
def FnExactCmdRightSaid : Prop := fnExactCmdRightRow.holds Try.pinned (OpenSpec.ofChange fnExactCmdRightSpec)

/-- ITS FALSE NEIGHBOUR: 'it returns false'. Refute it at one input. -/
def fnExactCmdRightWrong : ChangeSpec := { name := "fnExactCmdRight", fn := fun _ => fun
  | [d] => { results := [.lit (.bool false)], args := [d] }
  | _ => none }
def FnExactCmdRightWrongFalsely : Prop := fnExactCmdRightRow.holds Try.pinned (OpenSpec.ofChange fnExactCmdRightWrong)

/-- 'laws.FnExactCmdOld': WHATEVER THE INPUT: true; the input reads as it did. -/
def fnExactCmdOldSpec : ChangeSpec := { name := "fnExactCmdOld", fn := fun _ => fun
  | [d] => { results := [.lit (.bool true)], args := [d] }
  | _ => none }
def fnExactCmdOldRow : OpenClaim := { program := "ytijlanpnngbciaa", sum := "1b622e359e1c89ba5c24c24cc51583e785e0faeaaa6a216d1c0eac794d4dc271", func := "loop.example/g00446/laws.FnExactCmdOld", spec := "fnExactCmdOld", apart := false }
def FnExactCmdOldSaid : Prop := fnExactCmdOldRow.holds Try.pinned (OpenSpec.ofChange fnExactCmdOldSpec)

/-- ITS FALSE NEIGHBOUR: 'it returns false'. Refute it at one input. -/
def fnExactCmdOldWrong : ChangeSpec := { name := "fnExactCmdOld", fn := fun _ => fun
  | [d] => { results := [.lit (.bool false)], args := [d] }
  | _ => none }
def FnExactCmdOldWrongFalsely : Prop := fnExactCmdOldRow.holds Try.pinned (OpenSpec.ofChange fnExactCmdOldWrong)

/-- 'laws.FnExactCmdText': WHATEVER THE INPUT: true; the input reads as it did. -/
def fnExactCmdTextSpec : ChangeSpec := { name := "fnExactCmdText", fn := fun _ => fun
  | [d] => { results := [.lit (.bool true)], args := [d] }
  | _ => none }
def fnExactCmdTextRow : OpenClaim := { program := "ytijlanpnngbciaa", sum := "1b622e359e1c89ba5c24c24cc51583e785e0faeaaa6a216d1c0eac794d4dc271", func := "loop.example/g00446/laws.FnExactCmdText", spec := "fnExactCmdText", inPlace := ["internal/abi.NoEscape", "internal/bytealg.MakeNoZero"], unfollowed := true, recurses := true, apart := false }
def FnExactCmdTextSaid : Prop := fnExactCmdTextRow.holds Try.pinned (OpenSpec.ofChange fnExactCmdTextSpec)

/-- ITS FALSE NEIGHBOUR: 'it returns false'. Refute it at one input. -/
def fnExactCmdTextWrong : ChangeSpec := { name := "fnExactCmdText", fn := fun _ => fun
  | [d] => { results := [.lit (.bool false)], args := [d] }
  | _ => none }
def FnExactCmdTextWrongFalsely : Prop := fnExactCmdTextRow.holds Try.pinned (OpenSpec.ofChange fnExactCmdTextWrong)

/-- 'laws.FnExactCmdRead': WHATEVER THE INPUT: true; the input reads as it did. -/
def fnExactCmdReadSpec : ChangeSpec := { name := "fnExactCmdRead", fn := fun _ => fun
  | [d] => { results := [.lit (.bool true)], args := [d] }
  | _ => none }
def fnExactCmdReadRow : OpenClaim := { program := "ytijlanpnngbciaa", sum := "1b622e359e1c89ba5c24c24cc51583e785e0faeaaa6a216d1c0eac794d4dc271", func := "loop.example/g00446/laws.FnExactCmdRead", spec := "fnExactCmdRead", inPlace := ["internal/abi.NoEscape", "internal/bytealg.MakeNoZero"], unfollowed := true, recurses := true, apart := false }
def FnExactCmdReadSaid : Prop := fnExactCmdReadRow.holds Try.pinned (OpenSpec.ofChange fnExactCmdReadSpec)

/-- ITS FALSE NEIGHBOUR: 'it returns false'. Refute it at one input. -/
def fnExactCmdReadWrong : ChangeSpec := { name := "fnExactCmdRead", fn := fun _ => fun
  | [d] => { results := [.lit (.bool false)], args := [d] }
  | _ => none }
def FnExactCmdReadWrongFalsely : Prop := fnExactCmdReadRow.holds Try.pinned (OpenSpec.ofChange fnExactCmdReadWrong)

/-- 'laws.FnExactCmdReadOld': WHATEVER THE INPUT: true; the input reads as it did. -/
def fnExactCmdReadOldSpec : ChangeSpec := { name := "fnExactCmdReadOld", fn := fun _ => fun
  | [d] => { results := [.lit (.bool true)], args := [d] }
  | _ => none }
def fnExactCmdReadOldRow : OpenClaim := { program := "ytijlanpnngbciaa", sum := "1b622e359e1c89ba5c24c24cc51583e785e0faeaaa6a216d1c0eac794d4dc271", func := "loop.example/g00446/laws.FnExactCmdReadOld", spec := "fnExactCmdReadOld", inPlace := ["internal/abi.NoEscape", "internal/bytealg.MakeNoZero"], unfollowed := true, recurses := true, apart := false }
def FnExactCmdReadOldSaid : Prop := fnExactCmdReadOldRow.holds Try.pinned (OpenSpec.ofChange fnExactCmdReadOldSpec)

/-- ITS FALSE NEIGHBOUR: 'it returns false'. Refute it at one input. -/
def fnExactCmdReadOldWrong : ChangeSpec := { name := "fnExactCmdReadOld", fn := fun _ => fun
  | [d] => { results := [.lit (.bool false)], args := [d] }
  | _ => none }
def FnExactCmdReadOldWrongFalsely : Prop := fnExactCmdReadOldRow.holds Try.pinned (OpenSpec.ofChange fnExactCmdReadOldWrong)

/- THE SECOND FORM. 'bulk': how many values and letters a reading holds, each counted each time it is reached (what is shared counts as often as it is met; a slice's spare places count too). A statement '..UptoSaid' is the law's where the arguments, and the package variables that the reading takes, are together of bulk at most 1048576: NARROWER than '..Said'. Prove '..Said' where nothing that the law and all that it calls make is longer than what came in: it says more and counts as full. Else prove '..UptoSaid'. A law counts once. -/
mutual
def uptoBulk {H : Type} : DataW H → Nat
  | .lit (.string bytes) => bytes.length + 1
  | .lit _ => 1
  | .nil => 1
  | .ptr d => uptoBulk d + 1
  | .slice elems spare => uptoBulkAll elems + uptoBulkAll spare + 1
  | .agg parts => uptoBulkAll parts + 1
  | .iface _ d => uptoBulk d + 1
  | .map entries => uptoBulkEntries entries + 1
  | .held _ => 1
def uptoBulkAll {H : Type} : List (DataW H) → Nat
  | [] => 0
  | d :: r => uptoBulk d + uptoBulkAll r
def uptoBulkEntries {H : Type} : List (Lit × DataW H) → Nat
  | [] => 0
  | x :: r => uptoBulkEntry x + uptoBulkEntries r
def uptoBulkEntry {H : Type} : Lit × DataW H → Nat
  | (.string bytes, d) => bytes.length + uptoBulk d + 1
  | (_, d) => uptoBulk d + 1
 end
def uptoSmall : (H : Type) → List (DataW H) → Bool := fun _ ds => decide (uptoBulkAll ds ≤ 1048576)
def OpenSpec.upto (s : _root_.Go.ChangeSpec) : _root_.Go.OpenSpec := { _root_.Go.OpenSpec.ofChange s with cond := some uptoSmall }

/-- 'laws.FnCmd', WHERE WHAT IT READS IS OF BULK AT MOST 1048576: true; the input reads as it did. -/
def fnCmdUptoRow : OpenClaim := { program := "ytijlanpnngbciaa", sum := "1b622e359e1c89ba5c24c24cc51583e785e0faeaaa6a216d1c0eac794d4dc271", func := "loop.example/g00446/laws.FnCmd", spec := "fnCmd", inPlace := ["internal/abi.NoEscape", "internal/bytealg.MakeNoZero"], unfollowed := true, recurses := true, apart := false, narrowed := true }
def FnCmdUptoSaid : Prop := fnCmdUptoRow.holds Try.pinned (OpenSpec.upto fnCmdSpec)

/-- 'laws.FnExactCmdRight', WHERE WHAT IT READS IS OF BULK AT MOST 1048576: true; the input reads as it did. -/
def fnExactCmdRightUptoRow : OpenClaim := { program := "ytijlanpnngbciaa", sum := "1b622e359e1c89ba5c24c24cc51583e785e0faeaaa6a216d1c0eac794d4dc271", func := "loop.example/g00446/laws.FnExactCmdRight", spec := "fnExactCmdRight", apart := false, narrowed := true }
def FnExactCmdRightUptoSaid : Prop := fnExactCmdRightUptoRow.holds Try.pinned (OpenSpec.upto fnExactCmdRightSpec)

/-- 'laws.FnExactCmdOld', WHERE WHAT IT READS IS OF BULK AT MOST 1048576: true; the input reads as it did. -/
def fnExactCmdOldUptoRow : OpenClaim := { program := "ytijlanpnngbciaa", sum := "1b622e359e1c89ba5c24c24cc51583e785e0faeaaa6a216d1c0eac794d4dc271", func := "loop.example/g00446/laws.FnExactCmdOld", spec := "fnExactCmdOld", apart := false, narrowed := true }
def FnExactCmdOldUptoSaid : Prop := fnExactCmdOldUptoRow.holds Try.pinned (OpenSpec.upto fnExactCmdOldSpec)

/-- 'laws.FnExactCmdText', WHERE WHAT IT READS IS OF BULK AT MOST 1048576: true; the input reads as it did. -/
def fnExactCmdTextUptoRow : OpenClaim := { program := "ytijlanpnngbciaa", sum := "1b622e359e1c89ba5c24c24cc51583e785e0faeaaa6a216d1c0eac794d4dc271", func := "loop.example/g00446/laws.FnExactCmdText", spec := "fnExactCmdText", inPlace := ["internal/abi.NoEscape", "internal/bytealg.MakeNoZero"], unfollowed := true, recurses := true, apart := false, narrowed := true }
def FnExactCmdTextUptoSaid : Prop := fnExactCmdTextUptoRow.holds Try.pinned (OpenSpec.upto fnExactCmdTextSpec)

/-- 'laws.FnExactCmdRead', WHERE WHAT IT READS IS OF BULK AT MOST 1048576: true; the input reads as it did. -/
def fnExactCmdReadUptoRow : OpenClaim := { program := "ytijlanpnngbciaa", sum := "1b622e359e1c89ba5c24c24cc51583e785e0faeaaa6a216d1c0eac794d4dc271", func := "loop.example/g00446/laws.FnExactCmdRead", spec := "fnExactCmdRead", inPlace := ["internal/abi.NoEscape", "internal/bytealg.MakeNoZero"], unfollowed := true, recurses := true, apart := false, narrowed := true }
def FnExactCmdReadUptoSaid : Prop := fnExactCmdReadUptoRow.holds Try.pinned (OpenSpec.upto fnExactCmdReadSpec)

/-- 'laws.FnExactCmdReadOld', WHERE WHAT IT READS IS OF BULK AT MOST 1048576: true; the input reads as it did. -/
def fnExactCmdReadOldUptoRow : OpenClaim := { program := "ytijlanpnngbciaa", sum := "1b622e359e1c89ba5c24c24cc51583e785e0faeaaa6a216d1c0eac794d4dc271", func := "loop.example/g00446/laws.FnExactCmdReadOld", spec := "fnExactCmdReadOld", inPlace := ["internal/abi.NoEscape", "internal/bytealg.MakeNoZero"], unfollowed := true, recurses := true, apart := false, narrowed := true }
def FnExactCmdReadOldUptoSaid : Prop := fnExactCmdReadOldUptoRow.holds Try.pinned (OpenSpec.upto fnExactCmdReadOldSpec)

end Rows
end Go.Proofs.Ytijlanpnngbciaa

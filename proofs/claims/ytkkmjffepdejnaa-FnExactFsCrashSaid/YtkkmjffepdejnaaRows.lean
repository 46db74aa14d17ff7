/-
  No cell of these rows narrows 'for every input' (looked for: loops, veiled, ifaces, maps, wideKeys, modest, calm, conditions, laid).
  DERIVED. THE GIVEN ROWS OF THIS SEAT. 4 by the template 'for every input the law returns true; each argument reads behind the call as it read before'; 0 by the template 'total and deterministic' (their statements: YtkkmjffepdejnaaTotals.lean).
  GIVEN WITH THE SEED: the statements are not yours to turn. If you find one false, say at which input.
  Laid BY PROGRAM, IN A SANDBOX (cutbox-rows.mjs): the forced cells as the released guide's own fill.sh prints them over the translation 4c96d2366de18525… (all of the seat's roots in one cut). By AI agents, Wed Nov 11 2026. No macro, syntax, notation, axiom, sorry.
-/
import Derived.Test.YtkkmjffepdejnaaChecked
import GoSem.Claim
import GoSem.ClaimJoined
import GoSem.ClaimMapViews
import Derived.JoinedTies
import Derived.KernelRfl
namespace Go.Proofs.Ytkkmjffepdejnaa
/- THE CELL 'sum', in the pinned program and in every row, IS THE sha256 OF THE DUMP (.gsa) THAT YtkkmjffepdejnaaProg.lean LOADS. Nothing in Lean hashes anything: it is a label: what it is worth is what the hold of that sum in a sandbox is worth. -/
noncomputable def Try.pinned : Pinned := { name := "ytkkmjffepdejnaa", sum := "4c96d2366de185253348894e911d57a54e0252d2fef17dbca970eb6fdc5d1ae1", checked := Try.checked }
namespace Rows
def none {H : Type} : Left H := { results := [], args := [] }

/-- 'laws.FnExactFsCrash': WHATEVER THE INPUT: true; the input reads as it did. -/
def fnExactFsCrashSpec : ChangeSpec := { name := "fnExactFsCrash", fn := fun _ => fun
  | [d1, d2] => { results := [.lit (.bool true)], args := [d1, d2] }
  | _ => none }
def fnExactFsCrashRow : OpenClaim := { program := "ytkkmjffepdejnaa", sum := "4c96d2366de185253348894e911d57a54e0252d2fef17dbca970eb6fdc5d1ae1", func := "loop.example/g00446/laws.FnExactFsCrash", spec := "fnExactFsCrash", apart := false }
def FnExactFsCrashSaid : Prop := fnExactFsCrashRow.holds Try.pinned (OpenSpec.ofChange fnExactFsCrashSpec)

/-- ITS FALSE NEIGHBOUR: 'it returns false'. Refute it at one input. -/
def fnExactFsCrashWrong : ChangeSpec := { name := "fnExactFsCrash", fn := fun _ => fun
  | [d1, d2] => { results := [.lit (.bool false)], args := [d1, d2] }
  | _ => none }
def FnExactFsCrashWrongFalsely : Prop := fnExactFsCrashRow.holds Try.pinned (OpenSpec.ofChange fnExactFsCrashWrong)

/-- 'laws.FnExactRecBytes': WHATEVER THE INPUT: true; the input reads as it did. -/
def fnExactRecBytesSpec : ChangeSpec := { name := "fnExactRecBytes", fn := fun _ => fun
  | [d] => { results := [.lit (.bool true)], args := [d] }
  | _ => none }
def fnExactRecBytesRow : OpenClaim := { program := "ytkkmjffepdejnaa", sum := "4c96d2366de185253348894e911d57a54e0252d2fef17dbca970eb6fdc5d1ae1", func := "loop.example/g00446/laws.FnExactRecBytes", spec := "fnExactRecBytes", unfollowed := true, recurses := true, apart := false }
def FnExactRecBytesSaid : Prop := fnExactRecBytesRow.holds Try.pinned (OpenSpec.ofChange fnExactRecBytesSpec)

/-- ITS FALSE NEIGHBOUR: 'it returns false'. Refute it at one input. -/
def fnExactRecBytesWrong : ChangeSpec := { name := "fnExactRecBytes", fn := fun _ => fun
  | [d] => { results := [.lit (.bool false)], args := [d] }
  | _ => none }
def FnExactRecBytesWrongFalsely : Prop := fnExactRecBytesRow.holds Try.pinned (OpenSpec.ofChange fnExactRecBytesWrong)

/-- 'laws.FnExactRecWith': WHATEVER THE INPUT: true; the input reads as it did. -/
def fnExactRecWithSpec : ChangeSpec := { name := "fnExactRecWith", fn := fun _ => fun
  | [d1, d2, d3] => { results := [.lit (.bool true)], args := [d1, d2, d3] }
  | _ => none }
def fnExactRecWithRow : OpenClaim := { program := "ytkkmjffepdejnaa", sum := "4c96d2366de185253348894e911d57a54e0252d2fef17dbca970eb6fdc5d1ae1", func := "loop.example/g00446/laws.FnExactRecWith", spec := "fnExactRecWith", unfollowed := true, recurses := true, apart := false }
def FnExactRecWithSaid : Prop := fnExactRecWithRow.holds Try.pinned (OpenSpec.ofChange fnExactRecWithSpec)

/-- ITS FALSE NEIGHBOUR: 'it returns false'. Refute it at one input. -/
def fnExactRecWithWrong : ChangeSpec := { name := "fnExactRecWith", fn := fun _ => fun
  | [d1, d2, d3] => { results := [.lit (.bool false)], args := [d1, d2, d3] }
  | _ => none }
def FnExactRecWithWrongFalsely : Prop := fnExactRecWithRow.holds Try.pinned (OpenSpec.ofChange fnExactRecWithWrong)

/-- 'laws.FnExactRecOnly': WHATEVER THE INPUT: true; the input reads as it did. -/
def fnExactRecOnlySpec : ChangeSpec := { name := "fnExactRecOnly", fn := fun _ => fun
  | [d1, d2] => { results := [.lit (.bool true)], args := [d1, d2] }
  | _ => none }
def fnExactRecOnlyRow : OpenClaim := { program := "ytkkmjffepdejnaa", sum := "4c96d2366de185253348894e911d57a54e0252d2fef17dbca970eb6fdc5d1ae1", func := "loop.example/g00446/laws.FnExactRecOnly", spec := "fnExactRecOnly", unfollowed := true, recurses := true, apart := false }
def FnExactRecOnlySaid : Prop := fnExactRecOnlyRow.holds Try.pinned (OpenSpec.ofChange fnExactRecOnlySpec)

/-- ITS FALSE NEIGHBOUR: 'it returns false'. Refute it at one input. -/
def fnExactRecOnlyWrong : ChangeSpec := { name := "fnExactRecOnly", fn := fun _ => fun
  | [d1, d2] => { results := [.lit (.bool false)], args := [d1, d2] }
  | _ => none }
def FnExactRecOnlyWrongFalsely : Prop := fnExactRecOnlyRow.holds Try.pinned (OpenSpec.ofChange fnExactRecOnlyWrong)

/- THE SECOND FORM. 'bulk': how many values and letters a reading holds, each counted each time it is reached (what is shared counts as often as it is met; a slice's spare places count too). A statement '..UptoSaid' is the law's where the arguments, and the package variables that the reading takes, are together of bulk at most 1048576: NARROWER than '..Said'. Prove '..Said' where nothing that the law and all that it calls make is longer than what came in: it says more and counts as full. Else prove '..UptoSaid'. A law counts once. -/
mutual
def uptoBulk {H : Type} : DataW H → Nat
  | .lit (.string bytes) => bytes.length + 1
  | .lit _ => 1
  | .nil => 1
  | .ptr d => uptoBulk d + 1
  | .slice elems spare => uptoBulkAll elems + uptoBulkAll spare + 1
  | .agg parts => uptoBulkAll parts + 1
  | .iface _ d => uptoBulk d + 1
  | .map entries => uptoBulkEntries entries + 1
  | .held _ => 1
def uptoBulkAll {H : Type} : List (DataW H) → Nat
  | [] => 0
  | d :: r => uptoBulk d + uptoBulkAll r
def uptoBulkEntries {H : Type} : List (Lit × DataW H) → Nat
  | [] => 0
  | x :: r => uptoBulkEntry x + uptoBulkEntries r
def uptoBulkEntry {H : Type} : Lit × DataW H → Nat
  | (.string bytes, d) => bytes.length + uptoBulk d + 1
  | (_, d) => uptoBulk d + 1
 end
def uptoSmall : (H : Type) → List (DataW H) → Bool := fun _ ds => decide (uptoBulkAll ds ≤ 1048576)
def OpenSpec.upto (s : _root_.Go.ChangeSpec) : _root_.Go.OpenSpec := { _root_.Go.OpenSpec.ofChange s with cond := some uptoSmall }

/-- 'laws.FnExactFsCrash', WHERE WHAT IT READS IS OF BULK AT MOST 1048576: true; the input reads as it did. -/
def fnExactFsCrashUptoRow : OpenClaim := { program := "ytkkmjffepdejnaa", sum := "4c96d2366de185253348894e911d57a54e0252d2fef17dbca970eb6fdc5d1ae1", func := "loop.example/g00446/laws.FnExactFsCrash", spec := "fnExactFsCrash", apart := false, narrowed := true }
def FnExactFsCrashUptoSaid : Prop := fnExactFsCrashUptoRow.holds Try.pinned (OpenSpec.upto fnExactFsCrashSpec)

/-- 'laws.FnExactRecBytes', WHERE WHAT IT READS IS OF BULK AT MOST 1048576: true; the input reads as it did. -/
def fnExactRecBytesUptoRow : OpenClaim := { program := "ytkkmjffepdejnaa", sum := "4c96d2366de185253348894e911d57a54e0252d2fef17dbca970eb6fdc5d1ae1", func := "loop.example/g00446/laws.FnExactRecBytes", spec := "fnExactRecBytes", unfollowed := true, recurses := true, apart := false, narrowed := true }
def FnExactRecBytesUptoSaid : Prop := fnExactRecBytesUptoRow.holds Try.pinned (OpenSpec.upto fnExactRecBytesSpec)

/-- 'laws.FnExactRecWith', WHERE WHAT IT READS IS OF BULK AT MOST 1048576: true; the input reads as it did. -/
def fnExactRecWithUptoRow : OpenClaim := { program := "ytkkmjffepdejnaa", sum := "4c96d2366de185253348894e911d57a54e0252d2fef17dbca970eb6fdc5d1ae1", func := "loop.example/g00446/laws.FnExactRecWith", spec := "fnExactRecWith", unfollowed := true, recurses := true, apart := false, narrowed := true }
def FnExactRecWithUptoSaid : Prop := fnExactRecWithUptoRow.holds Try.pinned (OpenSpec.upto fnExactRecWithSpec)

/-- 'laws.FnExactRecOnly', WHERE WHAT IT READS IS OF BULK AT MOST 1048576: true; the input reads as it did. -/
def fnExactRecOnlyUptoRow : OpenClaim := { program := "ytkkmjffepdejnaa", sum := "4c96d2366de185253348894e911d57a54e0252d2fef17dbca970eb6fdc5d1ae1", func := "loop.example/g00446/laws.FnExactRecOnly", spec := "fnExactRecOnly", unfollowed := true, recurses := true, apart := false, narrowed := true }
def FnExactRecOnlyUptoSaid : Prop := fnExactRecOnlyUptoRow.holds Try.pinned (OpenSpec.upto fnExactRecOnlySpec)

end Rows
end Go.Proofs.Ytkkmjffepdejnaa

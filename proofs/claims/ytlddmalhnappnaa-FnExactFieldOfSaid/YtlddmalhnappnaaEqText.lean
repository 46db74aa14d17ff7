/- The walk of the comparison of two answers with a text. -/
import Derived.Test.YtlddmalhnappnaaProg
import Derived.WalkKit
import Derived.WalkSpells
import Derived.WalkLawsBesides
namespace Go.Proofs.Ytlddmalhnappnaa
open Go.RowKit
set_option linter.unusedVariables false

/-- an answer with a text -/
def textOut (r : ByteArray × Int × Int) : Value := .agg #[.string r.1, .int .i64 r.2.1, .int .i64 r.2.2]

set_option maxHeartbeats 1000000 in
theorem eqTextOut_same (r : ByteArray × Int × Int) (w : World) :
    Calls Try.prog 18 #[textOut r, textOut r] w fun e w' => e = .returned (.bool true) ∧ Below w.heap.size w w' := by
  obtain ⟨a, b, c⟩ := r
  unfold textOut
  have HB : Hid (∀ o o', Below w.heap.size w ((w.alloc o).alloc o')) := fun o o' => ((Below.refl w.heap.size w).alloc (Nat.le_refl _) o).alloc (by simp) o'
  go_enter Try.func18, Try.ntmps18
  go_wp2
  go_ret
  exact ⟨rfl, HB.out _ _⟩

end Go.Proofs.Ytlddmalhnappnaa

/- The walks of the best order of a side: the program's and the specification's. -/
import Derived.Test.YtjagohadeegghaaOldBook
import Derived.Test.YtjagohadeegghaaOldRightSpec2
namespace Go.Proofs.Ytjagohadeegghaa
open Go.RowKit
set_option linter.unusedVariables false
set_option linter.unusedSimpArgs false
/-- the best order of a side of a right book -/
def Ob.best (B A : List Or.E) (n : Int) (buy : Bool) : Or.E := if Ob.right B A n then Ob.at' (Ob.pick buy B A) 0 else Or.S.z
theorem Ob.view_pick {w : World} {u v : Value} {B A : List Or.E} (buy : Bool) (hu : Rk.View Or.S w u B) (hv : Rk.View Or.S w v A) : Rk.View Or.S w (Ob.pick buy u v) (Ob.pick buy B A) := by
  cases buy
  · exact hv
  · exact hu
theorem Ob.at_none (L : List Or.E) (h : L.length = 0) : Ob.at' L 0 = Or.S.z := by
  cases L with
  | nil => rfl
  | cons a r => simp at h

end Go.Proofs.Ytjagohadeegghaa

/- The walk of the law's own mark: a text of its own for each number. -/
import Derived.Test.YtjagohadeegghaaProg
import Derived.Test.YtjagohadeegghaaFsKit
import Derived.Test.YtjagohadeegghaaRows8
import Derived.WalkKit
import Derived.WalkSpells
import Derived.WalkLawsBesides
import Derived.BigQuiet
import Derived.Lib.QuietBelow
namespace Go.Proofs.Ytjagohadeegghaa
open Go.RowKit
set_option linter.unusedVariables false
namespace Fk
/-- the digits of a number, ahead of a text -/
def digs : Nat → Nat → ByteArray → ByteArray
  | 0, _, t => t
  | f + 1, m, t => if m = 0 then t else digs f (m / 10) (strOfNums [48 + (m : Int) % 10] ++ t)
/-- the mark of a number -/
def mt (k : Nat) : ByteArray := { data := #[109] } ++ digs 20 k { data := #[] }
theorem digs_end (f : Nat) (t : ByteArray) : digs f 0 t = t := by cases f <;> simp [digs]
theorem digs_step (f m : Nat) (t : ByteArray) (h : 0 < m) : digs (f + 1) m t = digs f (m / 10) (strOfNums [48 + (m : Int) % 10] ++ t) := by
  have : ¬ m = 0 := by omega
  simp [digs, this]
end Fk

end Go.Proofs.Ytjagohadeegghaa

/- The walk of the comparison of two answers with a text. -/
import Derived.Test.YtfefafmcaepoiaaGreatDoorProg
import Derived.WalkKit
import Derived.WalkSpells
import Derived.WalkLawsBesides
namespace Go.Proofs.YtfefafmcaepoiaaGreatDoor
open Go.RowKit
set_option linter.unusedVariables false

/-- an answer with a text -/
def textOut (r : ByteArray × Int × Int) : Value := .agg #[.string r.1, .int .i64 r.2.1, .int .i64 r.2.2]

end Go.Proofs.YtfefafmcaepoiaaGreatDoor

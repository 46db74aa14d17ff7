/- The walk of the program's GetNum. -/
import Derived.Test.YtfefafmcaepoiaaDoorReadNumWalks
namespace Go.Proofs.YtfefafmcaepoiaaDoor
open Go.RowKit
set_option linter.unusedVariables false

/-- an answer with a number -/
def numOut (r : Int × Int × Int) : Value := .agg #[.int .i64 r.1, .int .i64 r.2.1, .int .i64 r.2.2]

end Go.Proofs.YtfefafmcaepoiaaDoor

/- The walk of the program's FsRemove. -/
import Derived.Test.YtfefafmcaepoiaaDoorFsSyncWalks
namespace Go.Proofs.YtfefafmcaepoiaaDoor
open Go.RowKit Go.Maps
set_option linter.unusedVariables false

end Go.Proofs.YtfefafmcaepoiaaDoor

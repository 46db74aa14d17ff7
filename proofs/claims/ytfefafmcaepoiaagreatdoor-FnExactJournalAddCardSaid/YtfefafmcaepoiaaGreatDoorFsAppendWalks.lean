/- The walk of the program's FsAppend. -/
import Derived.Test.YtfefafmcaepoiaaGreatDoorFsAppendMethod
namespace Go.Proofs.YtfefafmcaepoiaaGreatDoor
open Go.RowKit Go.Maps
set_option linter.unusedVariables false

end Go.Proofs.YtfefafmcaepoiaaGreatDoor

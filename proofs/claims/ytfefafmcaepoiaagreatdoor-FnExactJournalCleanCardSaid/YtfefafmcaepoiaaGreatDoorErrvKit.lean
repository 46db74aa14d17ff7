/- An error of bytes, by its code. -/
import Derived.Test.YtfefafmcaepoiaaGreatDoorProg
import Derived.WalkKit
namespace Go.Proofs.YtfefafmcaepoiaaGreatDoor
open Go.RowKit

/-- an error of bytes by its code -/
def errv (c : Int) : Value := if c = 0 then .nilIface else .iface 156 (.agg #[.int .i64 c])

end Go.Proofs.YtfefafmcaepoiaaGreatDoor

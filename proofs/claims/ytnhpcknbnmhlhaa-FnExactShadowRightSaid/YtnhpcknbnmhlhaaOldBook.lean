/- The specification's book at work: how it is opened, and its sides. -/
import Derived.Test.YtnhpcknbnmhlhaaOldBothSpec
import Derived.Test.YtnhpcknbnmhlhaaOldRightImpl
import Derived.Test.YtnhpcknbnmhlhaaOldLaw
import Derived.Test.YtnhpcknbnmhlhaaRowsNew
namespace Go.Proofs.Ytnhpcknbnmhlhaa
open Go.RowKit
set_option linter.unusedVariables false
set_option linter.unusedSimpArgs false

end Go.Proofs.Ytnhpcknbnmhlhaa

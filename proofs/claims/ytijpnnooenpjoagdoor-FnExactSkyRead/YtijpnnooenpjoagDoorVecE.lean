/- The third product: Det, the program's and the specification's. -/
import Derived.Test.YtijpnnooenpjoagDoorVecD
import Derived.Lib.QuietBelow
namespace Go.Proofs.YtijpnnooenpjoagDoor
open Go.RowKit Go.Sort
set_option linter.unusedVariables false

end Go.Proofs.YtijpnnooenpjoagDoor

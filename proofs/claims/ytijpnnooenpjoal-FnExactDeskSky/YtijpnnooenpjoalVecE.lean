/- The third product: Det, the program's and the specification's. -/
import Derived.Test.YtijpnnooenpjoalVecD
import Derived.Lib.QuietBelow
namespace Go.Proofs.Ytijpnnooenpjoal
open Go.RowKit Go.Sort
set_option linter.unusedVariables false

end Go.Proofs.Ytijpnnooenpjoal

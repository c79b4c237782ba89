/- Why a list of stars is not right, and whether it is: the program's. -/
import Derived.Test.YtijpnnooenpjoalSkyC
namespace Go.Proofs.Ytijpnnooenpjoal
open Go.RowKit Go.Sort
set_option linter.unusedVariables false

end Go.Proofs.Ytijpnnooenpjoal

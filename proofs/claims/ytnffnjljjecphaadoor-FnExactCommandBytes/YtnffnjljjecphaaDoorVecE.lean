/- The third product: Det, the program's and the specification's. -/
import Derived.Test.YtnffnjljjecphaaDoorVecD
import Derived.Lib.QuietBelow
namespace Go.Proofs.YtnffnjljjecphaaDoor
open Go.RowKit Go.Sort
set_option linter.unusedVariables false

end Go.Proofs.YtnffnjljjecphaaDoor

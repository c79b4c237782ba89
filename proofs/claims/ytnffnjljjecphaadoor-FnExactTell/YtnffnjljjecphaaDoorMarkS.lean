/- What markStarS writes and heldStarS finds. -/
import Derived.Test.YtnffnjljjecphaaDoorRowF
namespace Go.Proofs.YtnffnjljjecphaaDoor
open Go.RowKit
set_option linter.unusedVariables false
end Go.Proofs.YtnffnjljjecphaaDoor

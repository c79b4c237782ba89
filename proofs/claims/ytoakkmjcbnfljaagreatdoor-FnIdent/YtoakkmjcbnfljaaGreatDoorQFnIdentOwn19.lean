/- Several texts in one: ModC. -/
import Derived.Test.YtoakkmjcbnfljaaGreatDoorQFnIdentOwn18
import Derived.Test.YtoakkmjcbnfljaaGreatDoorQFnIdentOwn4
namespace Go.Proofs.YtoakkmjcbnfljaaGreatDoor
set_option linter.unusedVariables false
set_option linter.unusedSimpArgs false
set_option maxRecDepth 100000
set_option maxHeartbeats 8000000
section
open Go.RowKit Go.Sort
end
end Go.Proofs.YtoakkmjcbnfljaaGreatDoor

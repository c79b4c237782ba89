/- Several texts in one: SplitT. -/
import Derived.Test.YtdchjcadhlkpfaaGreatDoorQFnTopOwn7
namespace Go.Proofs.YtdchjcadhlkpfaaGreatDoor
set_option linter.unusedVariables false
set_option linter.unusedSimpArgs false
set_option maxRecDepth 100000
set_option maxHeartbeats 8000000
section
open Go.RowKit
end
end Go.Proofs.YtdchjcadhlkpfaaGreatDoor

/- Several texts in one: PartT. -/
import Derived.Test.YtdchjcadhlkpfaaGreatDoorQFnTopOwn8
namespace Go.Proofs.YtdchjcadhlkpfaaGreatDoor
set_option linter.unusedVariables false
set_option linter.unusedSimpArgs false
set_option maxRecDepth 100000
set_option maxHeartbeats 8000000
section
open Go.RowKit
end
end Go.Proofs.YtdchjcadhlkpfaaGreatDoor

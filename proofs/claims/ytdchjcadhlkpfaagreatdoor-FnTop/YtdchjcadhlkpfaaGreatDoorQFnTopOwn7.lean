/- Several texts in one: SplitM. -/
import Derived.Laws.AppendOwn
import Derived.Test.YtdchjcadhlkpfaaGreatDoorQFnTopOwn2
import Derived.Test.YtdchjcadhlkpfaaGreatDoorQFnTopOwn6
namespace Go.Proofs.YtdchjcadhlkpfaaGreatDoor
set_option linter.unusedVariables false
set_option linter.unusedSimpArgs false
set_option maxRecDepth 100000
set_option maxHeartbeats 8000000
section
open Go.RowKit
end
end Go.Proofs.YtdchjcadhlkpfaaGreatDoor

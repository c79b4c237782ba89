/- Several texts in one: TurnS. -/
import Derived.Test.YtdchjcadhlkpfaaGreatDoorQFnTopOwn2
import Derived.Test.YtdchjcadhlkpfaaGreatDoorQFnTopOwn5
import Derived.Test.YtdchjcadhlkpfaaGreatDoorQFnTopOwn1
namespace Go.Proofs.YtdchjcadhlkpfaaGreatDoor
set_option linter.unusedVariables false
set_option linter.unusedSimpArgs false
set_option maxRecDepth 100000
set_option maxHeartbeats 8000000
section
open Go.RowKit Go.Sort
end
end Go.Proofs.YtdchjcadhlkpfaaGreatDoor

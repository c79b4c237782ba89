/- Several texts in one: TurnQ. -/
import Derived.Lib.QuietBelow
import Derived.Deep.RegionHeld
import Derived.Deep.DeepCutAuto
import Derived.Test.YtdchjcadhlkpfaaGreatDoorQFnTopOwn9
import Derived.Test.YtdchjcadhlkpfaaGreatDoorQFnTopOwn10
import Derived.Test.YtdchjcadhlkpfaaGreatDoorQFnTopOwn24
namespace Go.Proofs.YtdchjcadhlkpfaaGreatDoor
set_option linter.unusedVariables false
set_option linter.unusedSimpArgs false
set_option maxRecDepth 100000
set_option maxHeartbeats 8000000
section
open Go.RowKit Go.Sort
end
end Go.Proofs.YtdchjcadhlkpfaaGreatDoor

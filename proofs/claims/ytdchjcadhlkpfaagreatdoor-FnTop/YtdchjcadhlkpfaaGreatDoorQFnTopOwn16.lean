/- Several texts in one: StrS. -/
import Derived.Lib.QuietBelow
import Derived.Deep.QuietTactic
import Derived.BigQuiet
import Derived.Test.YtdchjcadhlkpfaaGreatDoorQFnTopOwn4
import Derived.Test.YtdchjcadhlkpfaaGreatDoorQFnTopOwn1
namespace Go.Proofs.YtdchjcadhlkpfaaGreatDoor
set_option linter.unusedVariables false
set_option linter.unusedSimpArgs false
set_option maxRecDepth 100000
set_option maxHeartbeats 8000000
section
open Go.RowKit Go.Sort
end
end Go.Proofs.YtdchjcadhlkpfaaGreatDoor

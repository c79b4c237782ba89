/- Several texts in one: TfC. -/
import Derived.Test.YtdchjcadhlkpfaaGreatDoorD29
namespace Go.Proofs.YtdchjcadhlkpfaaGreatDoor
set_option linter.unusedVariables false
set_option linter.unusedSimpArgs false
set_option maxRecDepth 100000
set_option maxHeartbeats 8000000
section
open Go.RowKit Go.Sort
end
end Go.Proofs.YtdchjcadhlkpfaaGreatDoor

/- Several texts in one: TsB. -/
import Derived.Test.YthoiooefclbecaaGreatDoorQFnSkyOwn17
namespace Go.Proofs.YthoiooefclbecaaGreatDoor
set_option linter.unusedVariables false
set_option linter.unusedSimpArgs false
set_option maxRecDepth 100000
set_option maxHeartbeats 8000000
section
open Go.RowKit Go.Sort
end
end Go.Proofs.YthoiooefclbecaaGreatDoor

/- What markStarS writes and heldStarS finds. -/
import Derived.Test.YtofpjlhoppofdaaGreatDoorRowF
namespace Go.Proofs.YtofpjlhoppofdaaGreatDoor
open Go.RowKit
set_option linter.unusedVariables false
end Go.Proofs.YtofpjlhoppofdaaGreatDoor

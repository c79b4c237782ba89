/- Several texts in one: ListI. -/
import Derived.Test.YteoonaanoenjiaaGreatDoorL7
namespace Go.Proofs.YteoonaanoenjiaaGreatDoor
set_option linter.unusedVariables false
set_option linter.unusedSimpArgs false
set_option maxRecDepth 100000
set_option maxHeartbeats 8000000
section
open Go.RowKit Go.Sort
def vE(fI:Nat→Int)(fB:Nat→Bool)(j:Nat):Value:=.int .i64 (fI j)
end
end Go.Proofs.YteoonaanoenjiaaGreatDoor

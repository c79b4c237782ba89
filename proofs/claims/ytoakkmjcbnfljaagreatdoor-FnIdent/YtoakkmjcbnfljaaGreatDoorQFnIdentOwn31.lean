/- Several texts in one: DeskA. -/
import Derived.Test.YtoakkmjcbnfljaaGreatDoorQFnIdentOwn3
import Derived.Test.YtoakkmjcbnfljaaGreatDoorQFnIdentOwn4
namespace Go.Proofs.YtoakkmjcbnfljaaGreatDoor
set_option linter.unusedVariables false
set_option linter.unusedSimpArgs false
set_option maxRecDepth 100000
set_option maxHeartbeats 8000000
section
open Go.RowKit
def tN : List St := [(1, 0, 0, 1), (2, 1, 0, 2), (3, 0, 1, 3), (4, -1, -1, 2), (5, 2, 1, 5), (6, 1, 0, 0)]
def qm : Obj := .cells #[.int .i64 1, .int .i64 0, .int .i64 0, .int .i64 1, .int .i64 2, .int .i64 1, .int .i64 0, .int .i64 2, .int .i64 3, .int .i64 0, .int .i64 1, .int .i64 3, .int .i64 4, .int .i64 (-1), .int .i64 (-1), .int .i64 2, .int .i64 5, .int .i64 2, .int .i64 1, .int .i64 5, .int .i64 6, .int .i64 1, .int .i64 0, .int .i64 0] 69
theorem nS (w : World) : Calls Tryz.prog 83 #[] w fun e w' => e = .returned (.slice (some ⟨w.heap.size, 0, none⟩) 6 6) ∧ w' = w.alloc qm := by
 go_enter Tryz.func83, Tryz.ntmps83
 go_wp2
 go_ret
 exact ⟨rfl, rfl⟩
end
end Go.Proofs.YtoakkmjcbnfljaaGreatDoor

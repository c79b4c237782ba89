/- Whether a direction is wide. -/
import Derived.Test.YtpjofdbeflhjnafVecD
namespace Go.Proofs.Ytpjofdbeflhjnaf
open Go.RowKit
set_option linter.unusedVariables false

set_option maxRecDepth 100000 in
theorem isWide_any (x y z : Int) (w : World) :
    Calls Try.prog 32 #[.agg #[.int .i64 x, .int .i64 y, .int .i64 z]] w fun e w' => e = .returned (.bool (wideB x y z)) ∧ Below w.heap.size w w' := by
  go_enter Try.func32, Try.ntmps32
  go_wp2_with fail
  refine (vecRight_any x y z _).mono ?_
  rintro e w1 ⟨rfl, hB1⟩
  have hB : Below w.heap.size w w1 := below_call (below1 _ _) hB1
  have va : VecAt w1 w.heap.size x y z := (vecAt_new w x y z _).kept (by simp) hB1
  clear hB1
  obtain ⟨ca0, ca1, ca2⟩ := va
  cases ha : rightB x y z
  · go_wp2_with fail
    go_ret
    exact ⟨by simp [wideB, ha], hB⟩
  · go_wp2_with fail
    refine (within_any 1800 x y z _ (by omega) (by omega)).mono ?_
    rintro e w2 ⟨rfl, hB2⟩
    replace hB := below_call hB hB2
    go_wp2_with fail
    go_ret
    exact ⟨by simp [wideB, ha], hB⟩
end Go.Proofs.Ytpjofdbeflhjnaf

/- What the law on TurnFor does with what was answered. -/
import Derived.Test.YtdkfbfiofniblaaDoorTfB
import Derived.Test.YtdkfbfiofniblaaDoorL7A
namespace Go.Proofs.YtdkfbfiofniblaaDoor
open Go.RowKit Go.Sort
set_option linter.unusedVariables false

set_option maxRecDepth 100000 in
theorem eqTurn7 (x y z u : Int) (w : World) :
    Calls Tryd.prog 55 #[.agg #[.int .i64 x, .int .i64 y, .int .i64 z, .int .i64 u], .agg #[.int .i64 x, .int .i64 y, .int .i64 z, .int .i64 u]] w fun e w' => e = .returned (.bool true) ∧ Below w.heap.size w w' := by
  go_enter Tryd.func55, Tryd.ntmps55
  go_wp2
  go_ret
  exact ⟨rfl, below2 _ _ _⟩
set_option maxRecDepth 100000 in
theorem eqTurnOut_same (x y z u c : Int) (w : World) :
    Calls Tryd.prog 31 #[.agg #[.int .i64 x, .int .i64 y, .int .i64 z, .int .i64 u, .int .i64 c], .agg #[.int .i64 x, .int .i64 y, .int .i64 z, .int .i64 u, .int .i64 c]] w fun e w' => e = .returned (.bool true) ∧ Below w.heap.size w w' := by
  have O1 := (blk_new w [.int .i64 x, .int .i64 y, .int .i64 z, .int .i64 u, .int .i64 c] 53).alloc (.cells #[.int .i64 x, .int .i64 y, .int .i64 z, .int .i64 u, .int .i64 c] 53)
  have O2 := blk_new (w.alloc (.cells #[.int .i64 x, .int .i64 y, .int .i64 z, .int .i64 u, .int .i64 c] 53)) [.int .i64 x, .int .i64 y, .int .i64 z, .int .i64 u, .int .i64 c] 53
  have e1 : (w.alloc (.cells #[.int .i64 x, .int .i64 y, .int .i64 z, .int .i64 u, .int .i64 c] 53)).heap.size = w.heap.size + 1 := by simp
  rw [e1] at O2
  have B1 := below2 w (.cells #[.int .i64 x, .int .i64 y, .int .i64 z, .int .i64 u, .int .i64 c] 53) (.cells #[.int .i64 x, .int .i64 y, .int .i64 z, .int .i64 u, .int .i64 c] 53)
  clear e1
  go_enter Tryd.func31, Tryd.ntmps31
  go_wp2_with fail
  refine (eqTurn7 x y z u _).mono ?_
  rintro e w1 ⟨rfl, hx⟩
  have p4 := (O1.kept hx).cell 4 _ rfl
  have q4 := (O2.kept hx).cell 4 _ rfl
  have B2 := below_call B1 hx
  clear hx B1 O1 O2
  go_wp2_with fail
  go_ret
  exact ⟨rfl, B2⟩
end Go.Proofs.YtdkfbfiofniblaaDoor

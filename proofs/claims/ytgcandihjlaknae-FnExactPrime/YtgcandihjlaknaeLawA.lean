/- The laws on the single functions over directions: what their helpers answer, and the walks of the laws on VecRight. -/
import Derived.Test.YtgcandihjlaknaeVecD
namespace Go.Proofs.Ytgcandihjlaknae
open Go.RowKit
set_option linter.unusedVariables false

set_option maxRecDepth 100000 in
theorem toVec_any (x y z : Int) (w : World) :
    Calls Try.prog 10 #[.agg #[.int .i64 x, .int .i64 y, .int .i64 z]] w fun e w' => e = .returned (.agg #[.int .i64 x, .int .i64 y, .int .i64 z]) ∧ Below w.heap.size w w' := by
  go_enter Try.func10, Try.ntmps10
  go_wp2
  exact bodyPost_ret (v := .agg #[.int .i64 x, .int .i64 y, .int .i64 z]) (by simp [results, Try.results10, go_sem]) rfl ⟨rfl, below3 _ _ _ _⟩
set_option maxRecDepth 100000 in
theorem eqVec_any (x y z : Int) (w : World) :
    Calls Try.prog 14 #[.agg #[.int .i64 x, .int .i64 y, .int .i64 z], .agg #[.int .i64 x, .int .i64 y, .int .i64 z]] w fun e w' => e = .returned (.bool true) ∧ Below w.heap.size w w' := by
  go_enter Try.func14, Try.ntmps14
  go_wp2
  go_ret
  exact ⟨rfl, below2 _ _ _⟩
end Go.Proofs.Ytgcandihjlaknae

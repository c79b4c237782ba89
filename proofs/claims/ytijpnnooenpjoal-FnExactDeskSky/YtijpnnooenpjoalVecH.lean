/- SameWay: the program's and the specification's. -/
import Derived.Test.YtijpnnooenpjoalVecE
namespace Go.Proofs.Ytijpnnooenpjoal
open Go.RowKit Go.Sort
set_option linter.unusedVariables false

theorem sameB_eq (a1 a2 a3 b1 b2 b3 : Int) : sameB a1 a2 a3 b1 b2 b3 = (eqB (crI (rightB a1 a2 a3 && rightB b1 b2 b3) a2 a3 b2 b3) (crI (rightB a1 a2 a3 && rightB b1 b2 b3) a3 a1 b3 b1) (crI (rightB a1 a2 a3 && rightB b1 b2 b3) a1 a2 b1 b2) 0 0 0 && decide (0 < dotI a1 a2 a3 b1 b2 b3)) := by
  unfold sameB crI dotI
  cases h : (rightB a1 a2 a3 && rightB b1 b2 b3)
  · simp
  · simp [eqB, zeroB]

end Go.Proofs.Ytijpnnooenpjoal

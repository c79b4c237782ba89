import Derived.Test.YtijpnnooenpjoalVecA
namespace Go.Proofs.Ytijpnnooenpjoal
open Go.RowKit
set_option linter.unusedVariables false

theorem out1 {m x : Int} (h : ¬ (-m ≤ x ∧ x ≤ m)) : inB m x = false := by simpa [inB] using h

end Go.Proofs.Ytijpnnooenpjoal

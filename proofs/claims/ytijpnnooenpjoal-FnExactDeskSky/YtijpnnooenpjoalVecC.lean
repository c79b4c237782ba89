/- The bound on each part, and whether a direction is right. -/
import Derived.Test.YtijpnnooenpjoalVecB
namespace Go.Proofs.Ytijpnnooenpjoal
open Go.RowKit
set_option linter.unusedVariables false

def eqB (a1 a2 a3 b1 b2 b3 : Int) : Bool := decide (a1 = b1 ∧ a2 = b2 ∧ a3 = b3)
theorem equal_vec (a1 a2 a3 b1 b2 b3 : Int) (w : World) : (Op.equalIn 10000 28 (.agg #[.int .i64 a1, .int .i64 a2, .int .i64 a3]) (.agg #[.int .i64 b1, .int .i64 b2, .int .i64 b3])).run Try.prog w = .ok (eqB a1 a2 a3 b1 b2 b3) w := by
  have h := run_equalIn_struct (P := Try.prog) w 9999 28 #[.int .i64 a1, .int .i64 a2, .int .i64 a3] #[.int .i64 b1, .int .i64 b2, .int .i64 b3] (by kernel_rfl) (by kernel_rfl)
  have hf : (Try.prog.fieldsOf 28).toList = (Try.prog.fieldsOf 28).toList := rfl
  refine h.trans ?_
  by_cases h1 : a1 = b1
  · by_cases h2 : a2 = b2
    · by_cases h3 : a3 = b3
      · simp [go_sem, eqB, h1, h2, h3]
      · simp [go_sem, eqB, h1, h2, h3]
    · simp [go_sem, eqB, h1, h2]
  · simp [go_sem, eqB, h1]
theorem neq_vec (a1 a2 a3 b1 b2 b3 : Int) (w : World) : (binOp .neq 28 (.agg #[.int .i64 a1, .int .i64 a2, .int .i64 a3]) (.agg #[.int .i64 b1, .int .i64 b2, .int .i64 b3])).run Try.prog w = .ok (.bool (!eqB a1 a2 a3 b1 b2 b3)) w := by
  rw [run_neq_struct, equal_vec]; rfl
theorem eql_vec (a1 a2 a3 b1 b2 b3 : Int) (w : World) : (binOp .eql 28 (.agg #[.int .i64 a1, .int .i64 a2, .int .i64 a3]) (.agg #[.int .i64 b1, .int .i64 b2, .int .i64 b3])).run Try.prog w = .ok (.bool (eqB a1 a2 a3 b1 b2 b3)) w := by
  rw [run_eql_struct, equal_vec]; rfl

theorem isB (m x : Int) : (decide (-m ≤ x) && decide (x ≤ m)) = inB m x := by unfold inB; rw [Bool.decide_and]

end Go.Proofs.Ytijpnnooenpjoal

/- Compose and Back: the program's and the specification's. -/
import Derived.Test.YtnffnjljjecphaaDoorTurnE
namespace Go.Proofs.YtnffnjljjecphaaDoor
open Go.RowKit Go.Sort
set_option linter.unusedVariables false

theorem co_form {s1 s2 s3 s4 t1 t2 t3 t4 : Int} (h : coR s1 s2 s3 s4 t1 t2 t3 t4 = false) : Value.agg #[.int .i64 (coP s1 s2 s3 s4 t1 t2 t3 t4 (coA s1 s2 s3 s4 t1 t2 t3 t4)), .int .i64 (coP s1 s2 s3 s4 t1 t2 t3 t4 (coB s1 s2 s3 s4 t1 t2 t3 t4)), .int .i64 (coP s1 s2 s3 s4 t1 t2 t3 t4 (coC s1 s2 s3 s4 t1 t2 t3 t4)), .int .i64 (coP s1 s2 s3 s4 t1 t2 t3 t4 (coD s1 s2 s3 s4 t1 t2 t3 t4)), .int .i64 (coK s1 s2 s3 s4 t1 t2 t3 t4)] = Value.agg #[.int .i64 0, .int .i64 0, .int .i64 0, .int .i64 0, .int .i64 1] := by
  unfold coP coK
  rw [h]; rfl
theorem co_ok {s1 s2 s3 s4 t1 t2 t3 t4 : Int} (h : coR s1 s2 s3 s4 t1 t2 t3 t4 = true) : Value.agg #[.int .i64 (coP s1 s2 s3 s4 t1 t2 t3 t4 (coA s1 s2 s3 s4 t1 t2 t3 t4)), .int .i64 (coP s1 s2 s3 s4 t1 t2 t3 t4 (coB s1 s2 s3 s4 t1 t2 t3 t4)), .int .i64 (coP s1 s2 s3 s4 t1 t2 t3 t4 (coC s1 s2 s3 s4 t1 t2 t3 t4)), .int .i64 (coP s1 s2 s3 s4 t1 t2 t3 t4 (coD s1 s2 s3 s4 t1 t2 t3 t4)), .int .i64 (coK s1 s2 s3 s4 t1 t2 t3 t4)] = Value.agg #[.int .i64 (ofP (coA s1 s2 s3 s4 t1 t2 t3 t4) (coB s1 s2 s3 s4 t1 t2 t3 t4) (coC s1 s2 s3 s4 t1 t2 t3 t4) (coD s1 s2 s3 s4 t1 t2 t3 t4) (coA s1 s2 s3 s4 t1 t2 t3 t4)), .int .i64 (ofP (coA s1 s2 s3 s4 t1 t2 t3 t4) (coB s1 s2 s3 s4 t1 t2 t3 t4) (coC s1 s2 s3 s4 t1 t2 t3 t4) (coD s1 s2 s3 s4 t1 t2 t3 t4) (coB s1 s2 s3 s4 t1 t2 t3 t4)), .int .i64 (ofP (coA s1 s2 s3 s4 t1 t2 t3 t4) (coB s1 s2 s3 s4 t1 t2 t3 t4) (coC s1 s2 s3 s4 t1 t2 t3 t4) (coD s1 s2 s3 s4 t1 t2 t3 t4) (coC s1 s2 s3 s4 t1 t2 t3 t4)), .int .i64 (ofP (coA s1 s2 s3 s4 t1 t2 t3 t4) (coB s1 s2 s3 s4 t1 t2 t3 t4) (coC s1 s2 s3 s4 t1 t2 t3 t4) (coD s1 s2 s3 s4 t1 t2 t3 t4) (coD s1 s2 s3 s4 t1 t2 t3 t4)), .int .i64 (ofC (coA s1 s2 s3 s4 t1 t2 t3 t4) (coB s1 s2 s3 s4 t1 t2 t3 t4) (coC s1 s2 s3 s4 t1 t2 t3 t4) (coD s1 s2 s3 s4 t1 t2 t3 t4))] := by
  unfold coP coK
  rw [h]; rfl

theorem bk_none {a b c d : Int} (h : rightT a b c d = false) : Value.agg #[.int .i64 (bkP a b c d a), .int .i64 (bkP a b c d (-b)), .int .i64 (bkP a b c d (-c)), .int .i64 (bkP a b c d (-d))] = Value.agg #[.int .i64 0, .int .i64 0, .int .i64 0, .int .i64 0] := by
  unfold bkP
  rw [h]; rfl
theorem bk_some {a b c d : Int} (h : rightT a b c d = true) : Value.agg #[.int .i64 (bkP a b c d a), .int .i64 (bkP a b c d (-b)), .int .i64 (bkP a b c d (-c)), .int .i64 (bkP a b c d (-d))] = Value.agg #[.int .i64 (ofP a (-b) (-c) (-d) a), .int .i64 (ofP a (-b) (-c) (-d) (-b)), .int .i64 (ofP a (-b) (-c) (-d) (-c)), .int .i64 (ofP a (-b) (-c) (-d) (-d))] := by
  unfold bkP
  rw [h]; rfl
theorem neg_fits {m x : Int} (h : -m ≤ x ∧ x ≤ m) (hm : m ≤ 1000000) : wrap64 (-x) = -x := wrap_id (by omega) (by omega)

end Go.Proofs.YtnffnjljjecphaaDoor

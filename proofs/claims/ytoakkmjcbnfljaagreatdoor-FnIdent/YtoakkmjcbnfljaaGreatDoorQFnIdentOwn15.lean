/- Several texts in one: TurnD. -/
import Derived.Test.YtoakkmjcbnfljaaGreatDoorQFnIdentOwn14
namespace Go.Proofs.YtoakkmjcbnfljaaGreatDoor
set_option linter.unusedVariables false
set_option linter.unusedSimpArgs false
set_option maxRecDepth 100000
set_option maxHeartbeats 8000000
section
open Go.RowKit Go.Sort
theorem qz {a b c d : Int} (h : (inT 1000 a b c d && !fy a b c d) = false) : Value.agg #[.int .i64 (ofP a b c d a), .int .i64 (ofP a b c d b), .int .i64 (ofP a b c d c), .int .i64 (ofP a b c d d), .int .i64 (ofC a b c d)] = Value.agg #[.int .i64 0, .int .i64 0, .int .i64 0, .int .i64 0, .int .i64 1] := by
 unfold ofP
 rw [sC h]
 rfl
theorem qA {a b c d : Int} (h1 : inT 1000 a b c d = true) (h2 : fy a b c d = false) (h : aC (a.tdiv (sT a b c d)) (b.tdiv (sT a b c d)) (c.tdiv (sT a b c d)) (d.tdiv (sT a b c d)) = false) : Value.agg #[.int .i64 (ofP a b c d a), .int .i64 (ofP a b c d b), .int .i64 (ofP a b c d c), .int .i64 (ofP a b c d d), .int .i64 (ofC a b c d)] = Value.agg #[.int .i64 0, .int .i64 0, .int .i64 0, .int .i64 0, .int .i64 9] := by
 have e : ofC a b c d = 9 := by unfold ofC; rw [h1, h2, h]; rfl
 unfold ofP
 rw [e]
 rfl
theorem tQ {a b c d : Int} (h1 : inT 1000 a b c d = true) (h2 : fy a b c d = false) (h : aC (a.tdiv (sT a b c d)) (b.tdiv (sT a b c d)) (c.tdiv (sT a b c d)) (d.tdiv (sT a b c d)) = true) : Value.agg #[.int .i64 (ofP a b c d a), .int .i64 (ofP a b c d b), .int .i64 (ofP a b c d c), .int .i64 (ofP a b c d d), .int .i64 (ofC a b c d)] = Value.agg #[.int .i64 (a.tdiv (sT a b c d)), .int .i64 (b.tdiv (sT a b c d)), .int .i64 (c.tdiv (sT a b c d)), .int .i64 (d.tdiv (sT a b c d)), .int .i64 0] := by
 have e : ofC a b c d = 0 := by unfold ofC; rw [h1, h2, h]; rfl
 unfold ofP
 rw [e]
 rfl
end
end Go.Proofs.YtoakkmjcbnfljaaGreatDoor

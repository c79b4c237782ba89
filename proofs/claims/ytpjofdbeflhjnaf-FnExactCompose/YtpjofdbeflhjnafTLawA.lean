/- The laws on TurnRight, TurnOf and Back, walked; what their helpers answer. -/
import Derived.Test.YtpjofdbeflhjnafTurnG
namespace Go.Proofs.Ytpjofdbeflhjnaf
open Go.RowKit Go.Sort
set_option linter.unusedVariables false

set_option maxRecDepth 100000 in
theorem toTurn_any (p q r s : Int) (w : World) :
    Calls Try.prog 9 #[.agg #[.int .i64 p, .int .i64 q, .int .i64 r, .int .i64 s]] w fun e w' => e = .returned (.agg #[.int .i64 p, .int .i64 q, .int .i64 r, .int .i64 s]) ∧ Below w.heap.size w w' := by
  go_enter Try.func9, Try.ntmps9
  go_wp2
  exact bodyPost_ret (v := .agg #[.int .i64 p, .int .i64 q, .int .i64 r, .int .i64 s]) (by simp [results, Try.results9, go_sem]) rfl ⟨rfl, below3 _ _ _ _⟩
set_option maxRecDepth 100000 in
theorem eqTurn_any (p q r s : Int) (w : World) :
    Calls Try.prog 22 #[.agg #[.int .i64 p, .int .i64 q, .int .i64 r, .int .i64 s], .agg #[.int .i64 p, .int .i64 q, .int .i64 r, .int .i64 s]] w fun e w' => e = .returned (.bool true) ∧ Below w.heap.size w w' := by
  go_enter Try.func22, Try.ntmps22
  go_wp2
  go_ret
  exact ⟨rfl, below2 _ _ _⟩
set_option maxRecDepth 100000 in
theorem eqOut_any (p q r s k : Int) (w : World) :
    Calls Try.prog 13 #[.agg #[.int .i64 p, .int .i64 q, .int .i64 r, .int .i64 s, .int .i64 k], .agg #[.int .i64 p, .int .i64 q, .int .i64 r, .int .i64 s, .int .i64 k]] w fun e w' => e = .returned (.bool true) ∧ Below w.heap.size w w' := by
  go_enter Try.func13, Try.ntmps13
  go_wp2_with fail
  refine (eqTurn_any p q r s _).mono ?_
  rintro e w1 ⟨rfl, hx⟩
  have va : OutAt w1 w.heap.size p q r s k := ((outAt_new w p q r s k _).alloc _).kept hx
  have vb : OutAt w1 (w.heap.size + 1) p q r s k := (by simpa using outAt_new (w.alloc _) p q r s k _ : OutAt _ (w.heap.size + 1) p q r s k).kept hx
  have hB : Below w.heap.size w w1 := below_call (below2 _ _ _) hx
  clear hx
  obtain ⟨ca0, ca1, ca2, ca3, ca4⟩ := va
  obtain ⟨cb0, cb1, cb2, cb3, cb4⟩ := vb
  go_wp2
  go_ret
  exact ⟨rfl, hB⟩

set_option maxRecDepth 100000 in
theorem lawTurnRight (a b c d : Int) (w : World) :
    Calls Try.prog 3 #[.agg #[.int .i64 a, .int .i64 b, .int .i64 c, .int .i64 d]] w fun e w' => e = .returned (.bool true) ∧ Below w.heap.size w w' := by
  go_enter Try.func3, Try.ntmps3
  go_wp2_with fail
  refine (toTurn_any a b c d _).mono ?_
  rintro e w1 ⟨rfl, hx⟩
  have va := (turnAt_new w a b c d _).kept (by simp) hx
  have hB : Below w.heap.size w w1 := below_call (below1 _ _) hx
  clear hx
  go_wp2_with fail
  refine (specTRight_any a b c d _).mono ?_
  rintro e w2 ⟨rfl, hx⟩
  replace va := va.kept va.lt hx
  replace hB := below_call hB hx
  clear hx
  obtain ⟨c0, c1, c2, c3⟩ := va
  go_wp2_with fail
  refine (toTurn_any a b c d _).mono ?_
  rintro e w3 ⟨rfl, hx⟩
  replace hB := below_call hB hx
  clear hx
  go_wp2_with fail
  refine (turnRight_any a b c d _).mono ?_
  rintro e w4 ⟨rfl, hx⟩
  replace hB := below_call hB hx
  clear hx
  go_wp2_with fail
  go_ret
  exact ⟨rfl, hB⟩

set_option maxRecDepth 100000 in
theorem lawTurnOf (a b c d : Int) (w : World) :
    Calls Try.prog 4 #[.int .i64 a, .int .i64 b, .int .i64 c, .int .i64 d] w fun e w' => e = .returned (.bool true) ∧ Below w.heap.size w w' := by
  go_enter Try.func4, Try.ntmps4
  go_wp2_with fail
  refine (specTurnOf_any a b c d _).mono ?_
  rintro e w1 ⟨rfl, hx⟩
  have hB : Below w.heap.size w w1 := hx
  clear hx
  go_wp2_with fail
  refine (turnOf_any a b c d _).mono ?_
  rintro e w2 ⟨rfl, hx⟩
  have v5 := (outAt_new w1 (ofP a b c d a) (ofP a b c d b) (ofP a b c d c) (ofP a b c d d) (ofC a b c d) _).kept hx
  replace hB := below_call (hB.alloc hB.size _) hx
  clear hx
  have v5' := v5.alloc (.cells #[.int .i64 (ofP a b c d a), .int .i64 (ofP a b c d b), .int .i64 (ofP a b c d c), .int .i64 (ofP a b c d d), .int .i64 (ofC a b c d)] 29)
  obtain ⟨c0, c1, c2, c3, c4⟩ := v5
  obtain ⟨d0, d1, d2, d3, d4⟩ := v5'
  go_wp2_with fail
  refine (eqOut_any _ _ _ _ _ _).mono ?_
  rintro e w3 ⟨rfl, hx⟩
  replace hB := below_call (hB.alloc hB.size _) hx
  go_wp2_with fail
  go_ret
  exact ⟨rfl, hB⟩

set_option maxRecDepth 100000 in
theorem lawBack (a b c d : Int) (w : World) :
    Calls Try.prog 7 #[.agg #[.int .i64 a, .int .i64 b, .int .i64 c, .int .i64 d]] w fun e w' => e = .returned (.bool true) ∧ Below w.heap.size w w' := by
  go_enter Try.func7, Try.ntmps7
  go_wp2_with fail
  refine (toTurn_any a b c d _).mono ?_
  rintro e w1 ⟨rfl, hx⟩
  have va := (turnAt_new w a b c d _).kept (by simp) hx
  have hB : Below w.heap.size w w1 := below_call (below1 _ _) hx
  clear hx
  go_wp2_with fail
  refine (specBack_any a b c d _).mono ?_
  rintro e w2 ⟨rfl, hx⟩
  replace va := va.kept va.lt hx
  replace hB := below_call hB hx
  clear hx
  have va2 := va.alloc (.cells #[.int .i64 (bkP a b c d a), .int .i64 (bkP a b c d (-b)), .int .i64 (bkP a b c d (-c)), .int .i64 (bkP a b c d (-d))] 25)
  obtain ⟨c0, c1, c2, c3⟩ := va
  obtain ⟨d0, d1, d2, d3⟩ := va2
  go_wp2_with fail
  refine (toTurn_any a b c d _).mono ?_
  rintro e w3 ⟨rfl, hx⟩
  have v5 := (turnAt_new w2 (bkP a b c d a) (bkP a b c d (-b)) (bkP a b c d (-c)) (bkP a b c d (-d)) 25).kept (by simp) hx
  replace hB := below_call (hB.alloc hB.size _) hx
  clear hx c0 c1 c2 c3 d0 d1 d2 d3
  go_wp2_with fail
  refine (back_any a b c d _).mono ?_
  rintro e w4 ⟨rfl, hx⟩
  replace v5 := v5.kept v5.lt hx
  replace hB := below_call hB hx
  clear hx
  have v5' := v5.alloc (.cells #[.int .i64 (bkP a b c d a), .int .i64 (bkP a b c d (-b)), .int .i64 (bkP a b c d (-c)), .int .i64 (bkP a b c d (-d))] 25)
  obtain ⟨c0, c1, c2, c3⟩ := v5
  obtain ⟨d0, d1, d2, d3⟩ := v5'
  go_wp2_with fail
  refine (eqTurn_any _ _ _ _ _).mono ?_
  rintro e w5 ⟨rfl, hx⟩
  replace hB := below_call (hB.alloc hB.size _) hx
  go_wp2_with fail
  go_ret
  exact ⟨rfl, hB⟩

end Go.Proofs.Ytpjofdbeflhjnaf

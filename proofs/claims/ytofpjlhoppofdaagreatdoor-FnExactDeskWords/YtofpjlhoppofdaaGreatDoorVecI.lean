/- What CosCmp is made of: wide, small, signed squares, the order. -/
import Derived.Test.YtofpjlhoppofdaaGreatDoorVecE
namespace Go.Proofs.YtofpjlhoppofdaaGreatDoor
open Go.RowKit Go.Sort
set_option linter.unusedVariables false

set_option maxRecDepth 100000 in
theorem square_any (x y z : Int) (w : World) :
    Calls Tryz.prog 164 #[.agg #[.int .i64 x, .int .i64 y, .int .i64 z]] w fun e w' => e = .returned (.int .i64 (dotW x y z x y z)) ∧ Below w.heap.size w w' := by
  go_enter Tryz.func164, Tryz.ntmps164
  go_wp2_with fail
  refine (times_any x y z x y z _).mono ?_
  rintro e w1 ⟨rfl, hB1⟩
  have hB : Below w.heap.size w w1 := below_call (below1 _ _) hB1
  go_wp2_with fail
  go_ret
  exact ⟨rfl, hB⟩
set_option maxRecDepth 100000 in
theorem isWide_any (x y z : Int) (w : World) :
    Calls Tryz.prog 131 #[.agg #[.int .i64 x, .int .i64 y, .int .i64 z]] w fun e w' => e = .returned (.bool (wideB x y z)) ∧ Below w.heap.size w w' := by
  go_enter Tryz.func131, Tryz.ntmps131
  go_wp2_with fail
  refine (vecRight_any x y z _).mono ?_
  rintro e w1 ⟨rfl, hB1⟩
  have hB : Below w.heap.size w w1 := below_call (below1 _ _) hB1
  have va : VecAt w1 w.heap.size x y z := (vecAt_new w x y z _).kept (by simp) hB1
  clear hB1
  obtain ⟨ca0, ca1, ca2⟩ := va
  cases ha : rightB x y z
  · go_wp2_with fail
    go_ret
    exact ⟨by simp [wideB, ha], hB⟩
  · go_wp2_with fail
    refine (within_any 1800 x y z _ (by omega) (by omega)).mono ?_
    rintro e w2 ⟨rfl, hB2⟩
    replace hB := below_call hB hB2
    go_wp2_with fail
    go_ret
    exact ⟨by simp [wideB, ha], hB⟩
set_option maxRecDepth 100000 in
theorem isSmall_any (x y z : Int) (w : World) :
    Calls Tryz.prog 179 #[.agg #[.int .i64 x, .int .i64 y, .int .i64 z]] w fun e w' => e = .returned (.bool (smallB x y z)) ∧ Below w.heap.size w w' := by
  go_enter Tryz.func179, Tryz.ntmps179
  go_wp2_with fail
  refine (vecRight_any x y z _).mono ?_
  rintro e w1 ⟨rfl, hB1⟩
  have hB : Below w.heap.size w w1 := below_call (below1 _ _) hB1
  have va : VecAt w1 w.heap.size x y z := (vecAt_new w x y z _).kept (by simp) hB1
  clear hB1
  obtain ⟨ca0, ca1, ca2⟩ := va
  cases ha : rightB x y z
  · go_wp2_with fail
    go_ret
    exact ⟨by simp [smallB, ha], hB⟩
  · go_wp2_with fail
    refine (within_any 10 x y z _ (by omega) (by omega)).mono ?_
    rintro e w2 ⟨rfl, hB2⟩
    replace hB := below_call hB hB2
    go_wp2_with fail
    go_ret
    exact ⟨by simp [smallB, ha], hB⟩
set_option maxRecDepth 100000 in
theorem signed_any (n : Int) (w : World) :
    Calls Tryz.prog 200 #[.int .i64 n] w fun e w' => e = .returned (.int .i64 (ssqW n)) ∧ w' = w := by
  by_cases h : n < 0
  · have HS := hide (show ssqW n = wrap64 (wrap64 (-n) * n) by unfold ssqW; rw [if_pos h])
    go_enter Tryz.func200, Tryz.ntmps200
    go_wp2
    go_ret
    exact ⟨by rw [unhide HS]; rfl, rfl⟩
  · have HS := hide (show ssqW n = wrap64 (n * n) by unfold ssqW; rw [if_neg h])
    go_enter Tryz.func200, Tryz.ntmps200
    go_wp2
    go_ret
    exact ⟨by rw [unhide HS]; rfl, rfl⟩
set_option maxRecDepth 100000 in
theorem order_any (a b : Int) (w : World) :
    Calls Tryz.prog 196 #[.int .i64 a, .int .i64 b] w fun e w' => e = .returned (.int .i64 (ordI a b)) ∧ w' = w := by
  by_cases h : a < b
  · have HS := hide (show ordI a b = -1 by unfold ordI; rw [if_pos h])
    go_enter Tryz.func196, Tryz.ntmps196
    go_wp2
    go_ret
    exact ⟨by rw [unhide HS]; rfl, rfl⟩
  · by_cases h2 : b < a
    · have HS := hide (show ordI a b = 1 by unfold ordI; rw [if_neg h, if_pos h2])
      go_enter Tryz.func196, Tryz.ntmps196
      go_wp2
      go_ret
      exact ⟨by rw [unhide HS]; rfl, rfl⟩
    · have HS := hide (show ordI a b = 0 by unfold ordI; rw [if_neg h, if_neg h2])
      go_enter Tryz.func196, Tryz.ntmps196
      go_wp2
      go_ret
      exact ⟨by rw [unhide HS]; rfl, rfl⟩
set_option maxRecDepth 100000 in
theorem lengths_any (a1 a2 a3 b1 b2 b3 : Int) (w : World) :
    Calls Tryz.prog 201 #[.func (.func 164) #[.agg #[.int .i64 a1, .int .i64 a2, .int .i64 a3]] #[], .func (.func 164) #[.agg #[.int .i64 b1, .int .i64 b2, .int .i64 b3]] #[]] w fun e w' => e = .returned (.int .i64 (wrap64 (dotW a1 a2 a3 a1 a2 a3 * dotW b1 b2 b3 b1 b2 b3))) ∧ Below w.heap.size w w' := by
  go_enter Tryz.func201, Tryz.ntmps201
  go_wp2_with fail
  refine (square_any a1 a2 a3 _).mono ?_
  rintro e w1 ⟨rfl, hB1⟩
  go_wp2_with fail
  refine (square_any b1 b2 b3 _).mono ?_
  rintro e w2 ⟨rfl, hB2⟩
  go_wp2_with fail
  go_ret
  exact ⟨rfl, below_call hB1 hB2⟩
theorem wideB_iff {x y z : Int} (h : wideB x y z = true) : rightB x y z = true ∧ withinB 1800 x y z = true := by simpa [wideB] using h
theorem smallB_iff {x y z : Int} (h : smallB x y z = true) : rightB x y z = true ∧ withinB 10 x y z = true := by simpa [smallB] using h
theorem cos_eq {a1 a2 a3 b1 b2 b3 c1 c2 c3 d1 d2 d3 : Int} (ha : wideB a1 a2 a3 = true) (hb : wideB b1 b2 b3 = true) (hc : smallB c1 c2 c3 = true) (hd : smallB d1 d2 d3 = true) :
    cosI a1 a2 a3 b1 b2 b3 c1 c2 c3 d1 d2 d3 = ordI (wrap64 (ssqW (dotI a1 a2 a3 b1 b2 b3) * wrap64 (dotW c1 c2 c3 c1 c2 c3 * dotW d1 d2 d3 d1 d2 d3))) (wrap64 (ssqW (dotI c1 c2 c3 d1 d2 d3) * wrap64 (dotW a1 a2 a3 a1 a2 a3 * dotW b1 b2 b3 b1 b2 b3))) := by
  have h := cos_impl (wideB_iff ha).2 (wideB_iff hb).2 (smallB_iff hc).2 (smallB_iff hd).2
  unfold cosI dotI
  rw [(wideB_iff ha).1, (wideB_iff hb).1, (smallB_iff hc).1, (smallB_iff hd).1, ha, hb, hc, hd, if_pos (by rfl), if_pos (by rfl), if_pos (by rfl), h.1, h.2]
end Go.Proofs.YtofpjlhoppofdaaGreatDoor

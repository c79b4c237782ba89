/- The laws on Dot and Det, walked. -/
import Derived.Test.YtgcandihjlaknaeLawA
import Derived.Test.YtgcandihjlaknaeVecE
import Derived.Lib.QuietBelow
namespace Go.Proofs.Ytgcandihjlaknae
open Go.RowKit Go.Sort
set_option linter.unusedVariables false

theorem VecAt.lt {w : World} {b : Nat} {x y z : Int} (h : VecAt w b x y z) : b < w.heap.size := World.block_lt_of_cell? w _ h.1

set_option maxHeartbeats 1000000 in
set_option maxRecDepth 100000 in
theorem lawDot (a1 a2 a3 b1 b2 b3 : Int) (w : World) :
    Calls Try.prog 3 #[.agg #[.int .i64 a1, .int .i64 a2, .int .i64 a3], .agg #[.int .i64 b1, .int .i64 b2, .int .i64 b3]] w fun e w' => e = .returned (.bool true) ∧ Below w.heap.size w w' := by
  go_enter Try.func3, Try.ntmps3
  go_wp2_with fail
  have va : VecAt ((w.alloc (.cells #[.int .i64 a1, .int .i64 a2, .int .i64 a3] 23)).alloc (.cells #[.int .i64 b1, .int .i64 b2, .int .i64 b3] 23)) w.heap.size a1 a2 a3 := ((by simpa using vecAt_new w a1 a2 a3 23 : VecAt (w.alloc (.cells #[.int .i64 a1, .int .i64 a2, .int .i64 a3] 23)) w.heap.size a1 a2 a3).alloc (by simp) _)
  have vb : VecAt ((w.alloc (.cells #[.int .i64 a1, .int .i64 a2, .int .i64 a3] 23)).alloc (.cells #[.int .i64 b1, .int .i64 b2, .int .i64 b3] 23)) (w.heap.size + 1) b1 b2 b3 := (by simpa using vecAt_new (w.alloc (.cells #[.int .i64 a1, .int .i64 a2, .int .i64 a3] 23)) b1 b2 b3 23 : VecAt ((w.alloc (.cells #[.int .i64 a1, .int .i64 a2, .int .i64 a3] 23)).alloc (.cells #[.int .i64 b1, .int .i64 b2, .int .i64 b3] 23)) (w.heap.size + 1) b1 b2 b3)
  have hB : Below w.heap.size w ((w.alloc (.cells #[.int .i64 a1, .int .i64 a2, .int .i64 a3] 23)).alloc (.cells #[.int .i64 b1, .int .i64 b2, .int .i64 b3] 23)) := below2 _ _ _
  generalize ((w.alloc (.cells #[.int .i64 a1, .int .i64 a2, .int .i64 a3] 23)).alloc (.cells #[.int .i64 b1, .int .i64 b2, .int .i64 b3] 23)) = w1 at va vb hB ⊢
  have ha0 := va
  obtain ⟨ca0, ca1, ca2⟩ := va
  have ka0 := cell_regrown ca0
  have ka1 := cell_regrown ca1
  have ka2 := cell_regrown ca2
  have hb0 := vb
  obtain ⟨cb0, cb1, cb2⟩ := vb
  have kb0 := cell_regrown cb0
  have kb1 := cell_regrown cb1
  have kb2 := cell_regrown cb2
  refine wp_region_quiet_below (by kernel_rfl) (by kernel_rfl) ?_
  repeat (quiet_step (first | exact Calls.regrown_of (toVec_any _ _ _ _) | exact Calls.regrown_of (specDot_any a1 a2 a3 b1 b2 b3 _)))
  refine wpQuiet_nil ?_
  intro _ hw'
  obtain ⟨⟨dq, osq⟩, hw''⟩ := hw'
  subst hw''
  clear ca0 ka0 ca1 ka1 ca2 ka2 cb0 kb0 cb1 kb1 cb2 kb2
  have hb := below_regrown w1 dq osq
  generalize grow (redrawn w1 dq) osq = w2 at hb ⊢
  have va := ha0.kept (VecAt.lt ha0) hb
  have vb := hb0.kept (VecAt.lt hb0) hb
  replace hB := below_call hB hb
  clear hb
  go_wp2_with fail
  have ha1 := va
  obtain ⟨ca0, ca1, ca2⟩ := va
  have ka0 := cell_regrown ca0
  have ka1 := cell_regrown ca1
  have ka2 := cell_regrown ca2
  have hb1 := vb
  obtain ⟨cb0, cb1, cb2⟩ := vb
  have kb0 := cell_regrown cb0
  have kb1 := cell_regrown cb1
  have kb2 := cell_regrown cb2
  refine wp_region_quiet_below (by kernel_rfl) (by kernel_rfl) ?_
  repeat (quiet_step (first | exact Calls.regrown_of (toVec_any _ _ _ _) | exact Calls.regrown_of (dot_any a1 a2 a3 b1 b2 b3 _)))
  refine wpQuiet_nil ?_
  intro _ hw'
  obtain ⟨⟨dq, osq⟩, hw''⟩ := hw'
  subst hw''
  clear ca0 ka0 ca1 ka1 ca2 ka2 cb0 kb0 cb1 kb1 cb2 kb2
  have hb := below_regrown w2 dq osq
  generalize grow (redrawn w2 dq) osq = w3 at hb ⊢
  replace hB := below_call hB hb
  clear hb
  go_wp2_with fail
  go_ret
  exact ⟨rfl, hB⟩
set_option maxHeartbeats 1000000 in
set_option maxRecDepth 100000 in
theorem lawDet (a1 a2 a3 b1 b2 b3 c1 c2 c3 : Int) (w : World) :
    Calls Try.prog 5 #[.agg #[.int .i64 a1, .int .i64 a2, .int .i64 a3], .agg #[.int .i64 b1, .int .i64 b2, .int .i64 b3], .agg #[.int .i64 c1, .int .i64 c2, .int .i64 c3]] w fun e w' => e = .returned (.bool true) ∧ Below w.heap.size w w' := by
  go_enter Try.func5, Try.ntmps5
  go_wp2_with fail
  have va : VecAt (((w.alloc (.cells #[.int .i64 a1, .int .i64 a2, .int .i64 a3] 23)).alloc (.cells #[.int .i64 b1, .int .i64 b2, .int .i64 b3] 23)).alloc (.cells #[.int .i64 c1, .int .i64 c2, .int .i64 c3] 23)) w.heap.size a1 a2 a3 := (((by simpa using vecAt_new w a1 a2 a3 23 : VecAt (w.alloc (.cells #[.int .i64 a1, .int .i64 a2, .int .i64 a3] 23)) w.heap.size a1 a2 a3).alloc (by simp) _).alloc (by simp; omega) _)
  have vb : VecAt (((w.alloc (.cells #[.int .i64 a1, .int .i64 a2, .int .i64 a3] 23)).alloc (.cells #[.int .i64 b1, .int .i64 b2, .int .i64 b3] 23)).alloc (.cells #[.int .i64 c1, .int .i64 c2, .int .i64 c3] 23)) (w.heap.size + 1) b1 b2 b3 := ((by simpa using vecAt_new (w.alloc (.cells #[.int .i64 a1, .int .i64 a2, .int .i64 a3] 23)) b1 b2 b3 23 : VecAt ((w.alloc (.cells #[.int .i64 a1, .int .i64 a2, .int .i64 a3] 23)).alloc (.cells #[.int .i64 b1, .int .i64 b2, .int .i64 b3] 23)) (w.heap.size + 1) b1 b2 b3).alloc (by simp) _)
  have vc : VecAt (((w.alloc (.cells #[.int .i64 a1, .int .i64 a2, .int .i64 a3] 23)).alloc (.cells #[.int .i64 b1, .int .i64 b2, .int .i64 b3] 23)).alloc (.cells #[.int .i64 c1, .int .i64 c2, .int .i64 c3] 23)) (w.heap.size + 1 + 1) c1 c2 c3 := (by simpa using vecAt_new ((w.alloc (.cells #[.int .i64 a1, .int .i64 a2, .int .i64 a3] 23)).alloc (.cells #[.int .i64 b1, .int .i64 b2, .int .i64 b3] 23)) c1 c2 c3 23 : VecAt (((w.alloc (.cells #[.int .i64 a1, .int .i64 a2, .int .i64 a3] 23)).alloc (.cells #[.int .i64 b1, .int .i64 b2, .int .i64 b3] 23)).alloc (.cells #[.int .i64 c1, .int .i64 c2, .int .i64 c3] 23)) (w.heap.size + 1 + 1) c1 c2 c3)
  have hB : Below w.heap.size w (((w.alloc (.cells #[.int .i64 a1, .int .i64 a2, .int .i64 a3] 23)).alloc (.cells #[.int .i64 b1, .int .i64 b2, .int .i64 b3] 23)).alloc (.cells #[.int .i64 c1, .int .i64 c2, .int .i64 c3] 23)) := below3 _ _ _ _
  generalize (((w.alloc (.cells #[.int .i64 a1, .int .i64 a2, .int .i64 a3] 23)).alloc (.cells #[.int .i64 b1, .int .i64 b2, .int .i64 b3] 23)).alloc (.cells #[.int .i64 c1, .int .i64 c2, .int .i64 c3] 23)) = w1 at va vb vc hB ⊢
  have ha0 := va
  obtain ⟨ca0, ca1, ca2⟩ := va
  have ka0 := cell_regrown ca0
  have ka1 := cell_regrown ca1
  have ka2 := cell_regrown ca2
  have hb0 := vb
  obtain ⟨cb0, cb1, cb2⟩ := vb
  have kb0 := cell_regrown cb0
  have kb1 := cell_regrown cb1
  have kb2 := cell_regrown cb2
  have hc0 := vc
  obtain ⟨cc0, cc1, cc2⟩ := vc
  have kc0 := cell_regrown cc0
  have kc1 := cell_regrown cc1
  have kc2 := cell_regrown cc2
  refine wp_region_quiet_below (by kernel_rfl) (by kernel_rfl) ?_
  repeat (quiet_step (first | exact Calls.regrown_of (toVec_any _ _ _ _) | exact Calls.regrown_of (specDet_any a1 a2 a3 b1 b2 b3 c1 c2 c3 _)))
  refine wpQuiet_nil ?_
  intro _ hw'
  obtain ⟨⟨dq, osq⟩, hw''⟩ := hw'
  subst hw''
  clear ca0 ka0 ca1 ka1 ca2 ka2 cb0 kb0 cb1 kb1 cb2 kb2 cc0 kc0 cc1 kc1 cc2 kc2
  have hb := below_regrown w1 dq osq
  generalize grow (redrawn w1 dq) osq = w2 at hb ⊢
  have va := ha0.kept (VecAt.lt ha0) hb
  have vb := hb0.kept (VecAt.lt hb0) hb
  have vc := hc0.kept (VecAt.lt hc0) hb
  replace hB := below_call hB hb
  clear hb
  go_wp2_with fail
  have ha1 := va
  obtain ⟨ca0, ca1, ca2⟩ := va
  have ka0 := cell_regrown ca0
  have ka1 := cell_regrown ca1
  have ka2 := cell_regrown ca2
  have hb1 := vb
  obtain ⟨cb0, cb1, cb2⟩ := vb
  have kb0 := cell_regrown cb0
  have kb1 := cell_regrown cb1
  have kb2 := cell_regrown cb2
  have hc1 := vc
  obtain ⟨cc0, cc1, cc2⟩ := vc
  have kc0 := cell_regrown cc0
  have kc1 := cell_regrown cc1
  have kc2 := cell_regrown cc2
  refine wp_region_quiet_below (by kernel_rfl) (by kernel_rfl) ?_
  repeat (quiet_step (first | exact Calls.regrown_of (toVec_any _ _ _ _) | exact Calls.regrown_of (det_any a1 a2 a3 b1 b2 b3 c1 c2 c3 _)))
  refine wpQuiet_nil ?_
  intro _ hw'
  obtain ⟨⟨dq, osq⟩, hw''⟩ := hw'
  subst hw''
  clear ca0 ka0 ca1 ka1 ca2 ka2 cb0 kb0 cb1 kb1 cb2 kb2 cc0 kc0 cc1 kc1 cc2 kc2
  have hb := below_regrown w2 dq osq
  generalize grow (redrawn w2 dq) osq = w3 at hb ⊢
  replace hB := below_call hB hb
  clear hb
  go_wp2_with fail
  go_ret
  exact ⟨rfl, hB⟩
end Go.Proofs.Ytgcandihjlaknae

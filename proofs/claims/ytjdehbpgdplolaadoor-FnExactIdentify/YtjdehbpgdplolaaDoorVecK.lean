/- CosCmp, the specification's. -/
import Derived.Test.YtjdehbpgdplolaaDoorVecJ
namespace Go.Proofs.YtjdehbpgdplolaaDoor
open Go.RowKit Go.Sort
set_option linter.unusedVariables false

theorem VecAt.in {w : World} {b : Nat} {x y z : Int} (h : VecAt w b x y z) : b < w.heap.size := World.block_lt_of_cell? w _ h.1
set_option maxRecDepth 100000 in
theorem l02Sign_any (n : Int) (w : World) :
    Calls Tryd.prog 60 #[.int .i64 n] w fun e w' => e = .returned (.int .i64 (sgn n)) ∧ w' = w := by
  by_cases h : n < 0
  · have HS := hide (show sgn n = -1 by unfold sgn; rw [if_pos h])
    go_enter Tryd.func60, Tryd.ntmps60
    go_wp2
    go_ret
    exact ⟨by rw [unhide HS]; rfl, rfl⟩
  · by_cases h2 : 0 < n
    · have HS := hide (show sgn n = 1 by unfold sgn; rw [if_neg h, if_pos h2])
      go_enter Tryd.func60, Tryd.ntmps60
      go_wp2
      go_ret
      exact ⟨by rw [unhide HS]; rfl, rfl⟩
    · have HS := hide (show sgn n = 0 by unfold sgn; rw [if_neg h, if_neg h2])
      go_enter Tryd.func60, Tryd.ntmps60
      go_wp2
      go_ret
      exact ⟨by rw [unhide HS]; rfl, rfl⟩

set_option maxRecDepth 100000 in
theorem l02Cos_any (a1 a2 a3 b1 b2 b3 c1 c2 c3 d1 d2 d3 : Int) (w : World) :
    Calls Tryd.prog 59 #[.agg #[.int .i64 a1, .int .i64 a2, .int .i64 a3], .agg #[.int .i64 b1, .int .i64 b2, .int .i64 b3], .agg #[.int .i64 c1, .int .i64 c2, .int .i64 c3], .agg #[.int .i64 d1, .int .i64 d2, .int .i64 d3]] w fun e w' => e = .returned (.int .i64 (cosS (dotW a1 a2 a3 b1 b2 b3) (dotW c1 c2 c3 d1 d2 d3) (wrap64 (wrap64 (dotW a1 a2 a3 b1 b2 b3 * dotW a1 a2 a3 b1 b2 b3) * wrap64 (dotW c1 c2 c3 c1 c2 c3 * dotW d1 d2 d3 d1 d2 d3))) (wrap64 (wrap64 (dotW c1 c2 c3 d1 d2 d3 * dotW c1 c2 c3 d1 d2 d3) * wrap64 (dotW a1 a2 a3 a1 a2 a3 * dotW b1 b2 b3 b1 b2 b3))))) ∧ Below w.heap.size w w' := by
  go_enter Tryd.func59, Tryd.ntmps59
  go_wp2_with fail
  have va : VecAt ((((w.alloc (.cells #[.int .i64 a1, .int .i64 a2, .int .i64 a3] 44)).alloc (.cells #[.int .i64 b1, .int .i64 b2, .int .i64 b3] 44)).alloc (.cells #[.int .i64 c1, .int .i64 c2, .int .i64 c3] 44)).alloc (.cells #[.int .i64 d1, .int .i64 d2, .int .i64 d3] 44)) w.heap.size a1 a2 a3 := ((((by simpa using vecAt_new w a1 a2 a3 44 : VecAt (w.alloc (.cells #[.int .i64 a1, .int .i64 a2, .int .i64 a3] 44)) w.heap.size a1 a2 a3).alloc (by simp <;> omega) _).alloc (by simp <;> omega) _).alloc (by simp <;> omega) _)
  have vb : VecAt ((((w.alloc (.cells #[.int .i64 a1, .int .i64 a2, .int .i64 a3] 44)).alloc (.cells #[.int .i64 b1, .int .i64 b2, .int .i64 b3] 44)).alloc (.cells #[.int .i64 c1, .int .i64 c2, .int .i64 c3] 44)).alloc (.cells #[.int .i64 d1, .int .i64 d2, .int .i64 d3] 44)) (w.heap.size + 1) b1 b2 b3 := (((by simpa using vecAt_new (w.alloc (.cells #[.int .i64 a1, .int .i64 a2, .int .i64 a3] 44)) b1 b2 b3 44 : VecAt ((w.alloc (.cells #[.int .i64 a1, .int .i64 a2, .int .i64 a3] 44)).alloc (.cells #[.int .i64 b1, .int .i64 b2, .int .i64 b3] 44)) (w.heap.size + 1) b1 b2 b3).alloc (by simp <;> omega) _).alloc (by simp <;> omega) _)
  have vc : VecAt ((((w.alloc (.cells #[.int .i64 a1, .int .i64 a2, .int .i64 a3] 44)).alloc (.cells #[.int .i64 b1, .int .i64 b2, .int .i64 b3] 44)).alloc (.cells #[.int .i64 c1, .int .i64 c2, .int .i64 c3] 44)).alloc (.cells #[.int .i64 d1, .int .i64 d2, .int .i64 d3] 44)) (w.heap.size + 1 + 1) c1 c2 c3 := ((by simpa using vecAt_new ((w.alloc (.cells #[.int .i64 a1, .int .i64 a2, .int .i64 a3] 44)).alloc (.cells #[.int .i64 b1, .int .i64 b2, .int .i64 b3] 44)) c1 c2 c3 44 : VecAt (((w.alloc (.cells #[.int .i64 a1, .int .i64 a2, .int .i64 a3] 44)).alloc (.cells #[.int .i64 b1, .int .i64 b2, .int .i64 b3] 44)).alloc (.cells #[.int .i64 c1, .int .i64 c2, .int .i64 c3] 44)) (w.heap.size + 1 + 1) c1 c2 c3).alloc (by simp <;> omega) _)
  have vd : VecAt ((((w.alloc (.cells #[.int .i64 a1, .int .i64 a2, .int .i64 a3] 44)).alloc (.cells #[.int .i64 b1, .int .i64 b2, .int .i64 b3] 44)).alloc (.cells #[.int .i64 c1, .int .i64 c2, .int .i64 c3] 44)).alloc (.cells #[.int .i64 d1, .int .i64 d2, .int .i64 d3] 44)) (w.heap.size + 1 + 1 + 1) d1 d2 d3 := (by simpa using vecAt_new (((w.alloc (.cells #[.int .i64 a1, .int .i64 a2, .int .i64 a3] 44)).alloc (.cells #[.int .i64 b1, .int .i64 b2, .int .i64 b3] 44)).alloc (.cells #[.int .i64 c1, .int .i64 c2, .int .i64 c3] 44)) d1 d2 d3 44 : VecAt ((((w.alloc (.cells #[.int .i64 a1, .int .i64 a2, .int .i64 a3] 44)).alloc (.cells #[.int .i64 b1, .int .i64 b2, .int .i64 b3] 44)).alloc (.cells #[.int .i64 c1, .int .i64 c2, .int .i64 c3] 44)).alloc (.cells #[.int .i64 d1, .int .i64 d2, .int .i64 d3] 44)) (w.heap.size + 1 + 1 + 1) d1 d2 d3)
  have hB : Below w.heap.size w ((((w.alloc (.cells #[.int .i64 a1, .int .i64 a2, .int .i64 a3] 44)).alloc (.cells #[.int .i64 b1, .int .i64 b2, .int .i64 b3] 44)).alloc (.cells #[.int .i64 c1, .int .i64 c2, .int .i64 c3] 44)).alloc (.cells #[.int .i64 d1, .int .i64 d2, .int .i64 d3] 44)) := below4 _ _ _ _ _
  generalize ((((w.alloc (.cells #[.int .i64 a1, .int .i64 a2, .int .i64 a3] 44)).alloc (.cells #[.int .i64 b1, .int .i64 b2, .int .i64 b3] 44)).alloc (.cells #[.int .i64 c1, .int .i64 c2, .int .i64 c3] 44)).alloc (.cells #[.int .i64 d1, .int .i64 d2, .int .i64 d3] 44)) = w1 at va vb vc vd hB ⊢
  have ha := va
  have hb := vb
  have hc := vc
  have hd := vd
  obtain ⟨ca0, ca1, ca2⟩ := va
  obtain ⟨cb0, cb1, cb2⟩ := vb
  obtain ⟨cc0, cc1, cc2⟩ := vc
  obtain ⟨cd0, cd1, cd2⟩ := vd
  refine (l02Dot_any a1 a2 a3 b1 b2 b3 _).mono ?_
  rintro e w2 ⟨rfl, hx⟩
  have va := ha.kept (VecAt.in ha) hx
  have vb := hb.kept (VecAt.in hb) hx
  have vc := hc.kept (VecAt.in hc) hx
  have vd := hd.kept (VecAt.in hd) hx
  replace hB := below_call hB hx
  clear ca0 ca1 ca2 cb0 cb1 cb2 cc0 cc1 cc2 cd0 cd1 cd2 ha hb hc hd hx
  have ha := va
  have hb := vb
  have hc := vc
  have hd := vd
  obtain ⟨ca0, ca1, ca2⟩ := va
  obtain ⟨cb0, cb1, cb2⟩ := vb
  obtain ⟨cc0, cc1, cc2⟩ := vc
  obtain ⟨cd0, cd1, cd2⟩ := vd
  go_wp2_with fail
  refine (l02Dot_any c1 c2 c3 d1 d2 d3 _).mono ?_
  rintro e w3 ⟨rfl, hx⟩
  have va := ha.kept (VecAt.in ha) hx
  have vb := hb.kept (VecAt.in hb) hx
  have vc := hc.kept (VecAt.in hc) hx
  have vd := hd.kept (VecAt.in hd) hx
  replace hB := below_call hB hx
  clear ca0 ca1 ca2 cb0 cb1 cb2 cc0 cc1 cc2 cd0 cd1 cd2 ha hb hc hd hx
  have ha := va
  have hb := vb
  have hc := vc
  have hd := vd
  obtain ⟨ca0, ca1, ca2⟩ := va
  obtain ⟨cb0, cb1, cb2⟩ := vb
  obtain ⟨cc0, cc1, cc2⟩ := vc
  obtain ⟨cd0, cd1, cd2⟩ := vd
  generalize hxe : dotW a1 a2 a3 b1 b2 b3 = x
  generalize hye : dotW c1 c2 c3 d1 d2 d3 = y
  have HX := hide hxe
  have HY := hide hye
  clear hxe hye
  go_wp2_with fail
  refine (l02Sign_any x _).mono ?_
  rintro e w3 ⟨rfl, rfl⟩
  go_wp2_with fail
  refine (l02Sign_any y _).mono ?_
  rintro e w3 ⟨rfl, rfl⟩
  by_cases hs : sgn x = sgn y
  · have hse : (sgn x == sgn y) = true := by simp [hs]
    go_wp2_with fail
    have kc0 := cell_regrown cc0
    have kc1 := cell_regrown cc1
    have kc2 := cell_regrown cc2
    have kd0 := cell_regrown cd0
    have kd1 := cell_regrown cd1
    have kd2 := cell_regrown cd2
    refine wp_region_quiet_below (by kernel_rfl) (by kernel_rfl) ?_
    repeat (quiet_step (first | exact Calls.regrown_of (l02Dot_any _ _ _ _ _ _ _) | fail))
    refine wpQuiet_nil ?_
    intro _ hw'
    obtain ⟨⟨dq, osq⟩, hw''⟩ := hw'
    subst hw''
    have hx := below_regrown w3 dq osq
    generalize grow (redrawn w3 dq) osq = w4 at hx ⊢
    clear kc0 kc1 kc2 kd0 kd1 kd2
    have va := ha.kept (VecAt.in ha) hx
    have vb := hb.kept (VecAt.in hb) hx
    have vc := hc.kept (VecAt.in hc) hx
    have vd := hd.kept (VecAt.in hd) hx
    replace hB := below_call hB hx
    clear ca0 ca1 ca2 cb0 cb1 cb2 cc0 cc1 cc2 cd0 cd1 cd2 ha hb hc hd hx
    have ha := va
    have hb := vb
    have hc := vc
    have hd := vd
    obtain ⟨ca0, ca1, ca2⟩ := va
    obtain ⟨cb0, cb1, cb2⟩ := vb
    obtain ⟨cc0, cc1, cc2⟩ := vc
    obtain ⟨cd0, cd1, cd2⟩ := vd
    go_wp2_with fail
    have ka0 := cell_regrown ca0
    have ka1 := cell_regrown ca1
    have ka2 := cell_regrown ca2
    have kb0 := cell_regrown cb0
    have kb1 := cell_regrown cb1
    have kb2 := cell_regrown cb2
    refine wp_region_quiet_below (by kernel_rfl) (by kernel_rfl) ?_
    repeat (quiet_step (first | exact Calls.regrown_of (l02Dot_any _ _ _ _ _ _ _) | fail))
    refine wpQuiet_nil ?_
    intro _ hw'
    obtain ⟨⟨dq, osq⟩, hw''⟩ := hw'
    subst hw''
    have hx := below_regrown w4 dq osq
    generalize grow (redrawn w4 dq) osq = w5 at hx ⊢
    clear ka0 ka1 ka2 kb0 kb1 kb2
    have va := ha.kept (VecAt.in ha) hx
    have vb := hb.kept (VecAt.in hb) hx
    have vc := hc.kept (VecAt.in hc) hx
    have vd := hd.kept (VecAt.in hd) hx
    replace hB := below_call hB hx
    clear ca0 ca1 ca2 cb0 cb1 cb2 cc0 cc1 cc2 cd0 cd1 cd2 ha hb hc hd hx
    have ha := va
    have hb := vb
    have hc := vc
    have hd := vd
    obtain ⟨ca0, ca1, ca2⟩ := va
    obtain ⟨cb0, cb1, cb2⟩ := vb
    obtain ⟨cc0, cc1, cc2⟩ := vc
    obtain ⟨cd0, cd1, cd2⟩ := vd
    clear ha hb hc hd ca0 ca1 ca2 cb0 cb1 cb2 cc0 cc1 cc2 cd0 cd1 cd2
    simp only [Go.IntWalk.i64_left]
    generalize hpe : wrap64 (wrap64 (x * x) * wrap64 (dotW c1 c2 c3 c1 c2 c3 * dotW d1 d2 d3 d1 d2 d3)) = p
    generalize hqe : wrap64 (wrap64 (y * y) * wrap64 (dotW a1 a2 a3 a1 a2 a3 * dotW b1 b2 b3 b1 b2 b3)) = q
    have HP := hide hpe
    have HQ := hide hqe
    have HS := hide hs
    clear hpe hqe
    by_cases h1 : p < q
    · have HE := hide (show cosS x y p q = wrap64 (-sgn x) by unfold cosS; rw [if_neg (by simp [hs]), if_pos h1])
      clear hs hse
      go_wp2_with fail
      refine (l02Sign_any x _).mono ?_
      rintro e w5 ⟨rfl, rfl⟩
      go_wp2_with fail
      go_ret
      exact ⟨by rw [unhide HX, unhide HY, unhide HP, unhide HQ, unhide HE]; rfl, hB⟩
    · by_cases h2 : q < p
      · have HE := hide (show cosS x y p q = sgn x by unfold cosS; rw [if_neg (by simp [hs]), if_neg h1, if_pos h2])
        clear hs hse
        go_wp2_with fail
        refine (l02Sign_any x _).mono ?_
        rintro e w5 ⟨rfl, rfl⟩
        go_wp2_with fail
        go_ret
        exact ⟨by rw [unhide HX, unhide HY, unhide HP, unhide HQ, unhide HE]; rfl, hB⟩
      · have HE := hide (show cosS x y p q = 0 by unfold cosS; rw [if_neg (by simp [hs]), if_neg h1, if_neg h2])
        clear hs hse
        go_wp2_with fail
        go_ret
        exact ⟨by rw [unhide HX, unhide HY, unhide HP, unhide HQ, unhide HE]; rfl, hB⟩
  · have hse : (sgn x == sgn y) = false := by simp [hs]
    go_wp2_with fail
    refine (l02Sign_any x _).mono ?_
    rintro e w3 ⟨rfl, rfl⟩
    go_wp2_with fail
    refine (l02Sign_any y _).mono ?_
    rintro e w3 ⟨rfl, rfl⟩
    go_wp2_with fail
    refine (l02Sign_any _ _).mono ?_
    rintro e w3 ⟨rfl, rfl⟩
    go_wp2_with fail
    go_ret
    exact ⟨by unfold cosS; rw [unhide HX, unhide HY, if_pos hs]; rfl, hB⟩
end Go.Proofs.YtjdehbpgdplolaaDoor
